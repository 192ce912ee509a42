/-
 Joined texts: ScY,ScZ,ScLf,LxErr,LxIs,ScFt,ScFit,ScGd,SsN,SsDoor.
-/
import Derived.Deep.QuietTactic
import Derived.BigQuiet
import Derived.LaidEql
import Derived.Stop.Asserts
import Derived.RowKitTokens
import Derived.Lib.IfaceEq
import Derived.Test.YtkocdbgmckdcpaaGreatDoorCards
import Derived.Test.YtkocdbgmckdcpaaGreatDoorTie
import Derived.ProofKit
import Derived.OpenShut
import Derived.ShutString
import Derived.ChangeOld
import Derived.Deep.DeepHandedRow
import Derived.LaidMore
import Derived.LaidHandle
import Derived.LaidSub
import Derived.Lib.LaidTab
import Derived.Test.YtkocdbgmckdcpaaGreatDoorJScopeSites1
import Derived.Test.YtkocdbgmckdcpaaGreatDoorJScopeSites2
import Derived.Test.YtkocdbgmckdcpaaGreatDoorJScopeSites6
import Derived.Test.YtkocdbgmckdcpaaGreatDoorJScopeSites9
set_option maxHeartbeats 32000000
namespace Go.Proofs.YtkocdbgmckdcpaaGreatDoor
open Go.RowKit Go.Maps
set_option maxRecDepth 100000
set_option linter.unusedVariables false
set_option linter.unusedSimpArgs false
theorem base_all {w0:World} {Gv:Bs->Option Value} {G:Gfn} {SG:Nat->Prop} (hG:GvOk w0 SG Gv G) (rf:Bool):∀ (d:Nat) (u:U),ud u<=d->Bnd u->uw u<=1000000->BaseOk G.fs Gv rf w0 u
 | 0,u,hd,_,_=>by obtain⟨k,nm,ot,z,ln,cl,ks⟩:=u;rw[ud] at hd;omega
 | d+1,u,hd,hb,hw=>fun x S w kg bf bs s ev n hu hB h hD hn =>
  base_s h G SG hG x u S hu hB (Nat.le_trans (uw_len u) hw) (fun j hj=>by
   have hk:ud u.ks[j]<=d:=by
    obtain⟨k,nm,ot,z,ln,cl,ks⟩:=u;rw[ud] at hd;have:=uds_mem (List.getElem_mem (l:=ks) hj)
    show ud ks[j]<=d
    omega
   have hbk:Bnd u.ks[j]:=by
    obtain⟨k,nm,ot,z,ln,cl,ks⟩:=u;rw[Bnd] at hb;exact bnds_mem hb.2.2.2 (List.getElem_mem hj)
   exact base_all hG rf d u.ks[j] hk hbk (Nat.le_trans (uw_kid u hj) hw)) n hD hn
theorem all_ok {w0:World} {Gv:Bs->Option Value} {G:Gfn} {SG:Nat->Prop} (hG:GvOk w0 SG Gv G):AllOk G.fs Gv w0:=fun rf u hb hw=>base_all hG rf (ud u) u (Nat.le_refl _) hb hw
theorem gv_none (w0:World) (SG:Nat->Prop):GvOk w0 SG (fun _=>none) g0:=fun nm=>rfl
theorem gv_shape {w0:World} {SG:Nat->Prop} {Gv:Bs->Option Value} {G:Gfn} (h:GvOk w0 SG Gv G):∀ n u,Gv n=some u->∃ B:List Value,B.length=25/\(∀ v ∈ B,v.oneCell'=true)/\u=.agg B.toArray:=by
 intro n u hu;have hg:=h n
 cases hn:G n with
 | none=>rw[hn] at hg;simp only at hg;rw[hg] at hu;cases hu
 | some f =>
  rw[hn] at hg;obtain⟨v,x,y,h1,h2,h3⟩:=hg;rw[h1] at hu;injection hu with hu;exact⟨fnC f v x y,rfl,fnC_one h2.one,hu.symm⟩
theorem gv_has {w0:World} {SG:Nat->Prop} {Gv:Bs->Option Value} {G:Gfn} (h:GvOk w0 SG Gv G) (n:Bs):(Gv n).isNone=(G n).isNone:=by
 have hg:=h n
 cases hn:G n with
 | none=>rw[hn] at hg;simp only at hg;rw[hg];rfl
 | some f=>rw[hn] at hg;obtain⟨v,x,y,h1,-⟩:=hg;rw[h1];rfl
theorem gv_add {w0:World} {SG:Nat->Prop} {Gv:Bs->Option Value} {G:Gfn} (h:GvOk w0 SG Gv G) (f:FnU) (v:Value) (x y:X) (hp:PmsAt w0 SG v f.ps) (hl:f.ps.length<=100000):GvOk w0 SG (addM Gv f.nm (.agg (fnC f v x y).toArray)) (G.add f):=by
 intro n;unfold addM Gfn.add;have hh:=gv_has h f.nm
 cases hg:G f.nm with
 | some g =>
  rw[hg] at hh;have h1:(Gv f.nm).isSome=true:=by cases hx:Gv f.nm with | none=>rw[hx] at hh;cases hh | some y=>rfl
  simp only[Option.isSome_some,if_true,h1];exact h n
 | none =>
  rw[hg] at hh;have h1:(Gv f.nm).isSome=false:=by cases hx:Gv f.nm with | none=>rfl | some y=>rw[hx] at hh;cases hh
  simp only[Option.isSome_none,Bool.false_eq_true,if_false,h1]
  by_cases hn:n=f.nm
  ·rw[if_pos hn,if_pos hn];exact⟨v,x,y,rfl,hp,hl⟩
  rw[if_neg hn,if_neg hn];exact h n
theorem domV_add {m:Bs->Option Value} {N:Nat} (h:DomV m N) (n:Bs) (v:Value):DomV (addM m n v) (N+1):=by
 obtain⟨L,h1,h2⟩:=h;refine⟨n::L,by simp;omega,fun x hx=>?_⟩;unfold addM at hx
 split at hx
 ·exact List.mem_cons_of_mem _ (h2 x hx)
 by_cases e:x=n
 ·subst e;simp
 simp only[if_neg e] at hx;exact List.mem_cons_of_mem _ (h2 x hx)
theorem domV_nil:DomV (fun _=>none) 0:=⟨[],Nat.le_refl _,fun x h=>by cases h⟩
def QmOk (Qm:Bs->Option Value) (L:List Bs):Prop:=(∀ n,(Qm n).isSome=L.contains n)/\∀ n u,Qm n=some u->∃ B:List Value,B.length=12/\(∀ v ∈ B,v.oneCell'=true)/\u=.agg B.toArray
theorem qm_nil:QmOk (fun _=>none) []:=⟨fun n=>rfl,fun n u h=>by cases h⟩
theorem qm_add {Qm:Bs->Option Value} {L:List Bs} (h:QmOk Qm L) (n:Bs) (B:List Value) (h1:B.length=12) (h2:∀ v ∈ B,v.oneCell'=true):QmOk (addM Qm n (.agg B.toArray)) (if L.contains n then L else n::L):=by
 refine⟨fun x=>?_,fun x u hu=>?_⟩
 ·have hh:=h.1 n;unfold addM
  cases hc:L.contains n with
  | true=>rw[hc] at hh;simp only[hh,if_true];exact h.1 x
  | false =>
   rw[hc] at hh;simp only[hh,Bool.false_eq_true,if_false];rw[List.contains_cons]
   by_cases e:x=n
   ·subst e;simp
   rw[if_neg e,h.1 x,beq_eq_false_iff_ne.2 e,Bool.false_or]
 unfold addM at hu
 split at hu
 ·exact h.2 x u hu
 by_cases e:x=n
 ·simp only[if_pos e] at hu;injection hu with hu;exact⟨B,h1,h2,hu.symm⟩
 simp only[if_neg e] at hu;exact h.2 x u hu
theorem qlC_one {q:QlU} {v:Value} {x:X} (h:v.oneCell'=true):∀ u ∈ qlC q v x,u.oneCell'=true:=by
 intro u hu;simp only[qlC,List.mem_cons,List.not_mem_nil,or_false] at hu;rcases hu with rfl | rfl | rfl | rfl | rfl | rfl | rfl | rfl | rfl | rfl | rfl | rfl<;>first | rfl | exact h
theorem isn_con {Qm:Bs->Option Value} {L:List Bs} (h:QmOk Qm L) (n:Bs):(Qm n).isNone = !L.contains n:=by rw[<-h.1 n];cases Qm n<;>rfl
theorem ck_ownM {w0 w w':World} {g bf bs:Nat} {Gv:Bs->Option Value} {s:Ks} {rf:Bool} {ev:Value} (h:Ck w0 w g bf bs Gv s rf ev) {k:Nat} {m:Bs->Option Value} (hk:MapIs Tryz.prog 9 w k m) (h1:k≠bf) (h2:k≠bs) (hB:w0.heap.size<=k) (hgr:w.grownBy w' (some k)):Ck w0 w' g bf bs Gv s rf ev:=by
 obtain⟨n,D,⟨es,clock,hc,-⟩,-⟩:=hk;have key:∀ q,q<w.heap.size->q≠k->w'.heap[q]?=w.heap[q]?:=fun q hq hn=>hgr.block q hq (fun e=>hn (by injection e))
 have hg:g≠k:=by rintro rfl;rw[h.blk] at hc;cases hc
 exact⟨⟨hgr.os.trans h.bw.os,hgr.tape.trans h.bw.tape,hgr.output.trans h.bw.output,Nat.le_trans h.bw.size hgr.size,fun q hq=>(key q (by have:=h.bw.size;omega) (by omega)).trans (h.bw.block q hq)⟩,h.gB,h.fB,h.sB,h.ne,(key _ (lt_of_block h.blk) hg).trans h.blk,h.fm.keep (key _ h.fm.lt (fun e=>h1 e.symm)),h.sm.keep (key _ h.sm.lt (fun e=>h2 e.symm)),h.er.keep fun q c' T' hc' _=>key q (lt_of_block hc') (fun e=>by
   subst e;rw[hc'] at hc;cases hc)⟩
theorem map_ne {w:World} {k q:Nat} {m:Bs->Option Value} {c:Array Value} {T:TypeId} {fz:Nat × Nat} {P:Program} {t:TypeId} (h:MapIs P t w k m) (hq:w.heap[q]?=some (.cells c T fz)):k≠q:=by
 obtain⟨n,D,⟨es,clock,hc,-⟩,-⟩:=h;rintro rfl;rw[hc] at hq;cases hq
theorem newChecker_s (w:World):Calls Tryz.prog 29 #[] w fun e w'=>∃ kg bf bs,e=.returned (.pointer (some ⟨kg,0,none⟩))/\Ck w w' kg bf bs (fun _=>none) ⟨sc0,none⟩ false .nilIface/\Below w.heap.size w w':=by
 have hmm:=@run_makeMap Tryz.prog;go_enter Tryz.func29,Tryz.ntmps29
 go_wp2_with fail
 go_ret
 have m1:=MapIs.made w Tryz.prog 9;have m2:=MapIs.made (w.alloc (.map #[] 0)) Tryz.prog 9;have b1:Below w.heap.size w (w.alloc (.map #[] 0)):=(Below.refl _ _).alloc (Nat.le_refl _) _;have b2:Below (w.alloc (.map #[] 0)).heap.size (w.alloc (.map #[] 0)) ((w.alloc (.map #[] 0)).alloc (.map #[] 0)):=(Below.refl _ _).alloc (Nat.le_refl _) _;obtain⟨w1,hw1⟩:∃ q,q=w.alloc (.map #[] 0):=⟨_,rfl⟩
 have z1:w1.heap.size=w.heap.size+1:=by rw[hw1];simp
 rw[<-hw1] at m1 m2 b1 b2 ⊢;obtain⟨w2,hw2⟩:∃ q,q=w1.alloc (.map #[] 0):=⟨_,rfl⟩
 have z2:w2.heap.size=w1.heap.size+1:=by rw[hw2];simp
 rw[<-hw2] at m2 b2 ⊢;rw[<-z1,<-z2];obtain⟨w3,k,hw,hkk,hb,hs1,HB⟩:=newb w2 #[.map (some w.heap.size),.map (some w1.heap.size),.bool false,.nilIface] 87;rw[hw];have hbb:Below w.heap.size w w3:=b1.trans ((b2.mono b1.size).trans (hb.mono (by omega)));refine⟨w2.heap.size,w.heap.size,w1.heap.size,rfl,⟨hbb,by omega,Nat.le_refl _,by omega,by omega,by rw[<-hkk];exact HB.out,?_,?_,rfl⟩,hbb⟩
 ·exact (m1.keep (b2.block _ (by omega))).keep (hb.block _ (by omega))
 exact m2.keep (hb.block _ (by omega))
theorem ProgAt.belowW {w w':World} {S:Nat->Prop} {vq vf:Value} {p:PgU} (h:ProgAt w S vq vf p) (hb:Below w.heap.size w w'):ProgAt w' S vq vf p:=h.below hb
def PgSz (p:PgU):Prop:=((∀ q ∈ p.qs,q.ps.length<=100000)/\∀ f ∈ p.fs,f.ps.length<=100000)/\p.qs.length<=100000/\p.fs.length<=100000
def PgDp (p:PgU):Prop:=(∀ q ∈ p.qs,uw q.body<=1000000/\ud q.body<=100000000000)/\∀ f ∈ p.fs,(∀ x ∈ f.ps,uw x.ref<=1000000/\ud x.ref<=100000000000)/\(uw f.res.ref<=1000000/\ud f.res.ref<=100000000000)/\uw f.body<=1000000/\ud f.body<=100000000000
theorem program_s {w0 w:World} {kg bf bs:Nat} {s:Ks} {ev:Value} (h:Ck w0 w kg bf bs (fun _=>none) s false ev) (hs0:s.er=none) (S:Nat->Prop) (vq vf:Value) (p:PgU) (hp:ProgAt w0 S vq vf p) (hb:PgB p) (hw:PgDp p) (hn:PgSz p) (hA:ArT w0) :
  Calls Tryz.prog 30 #[.pointer (some ⟨kg,0,none⟩),.agg #[vq,vf]] w fun e w'=>e=.returned (.tuple #[])/\∃ ev' s' Gv',Ck w0 w' kg bf bs Gv' s' false ev'/\s'.er=kProg p:=by
 have HPB:=h_ hb;have HWD:=h_ hw;have HCN:=h_ hn;have HA:=h_ hA;have HPA:=h_ hp;obtain⟨qs,fs,hqs,hfs,hqa,hfa⟩:=hp;obtain⟨qo,qc,hvq,⟨hq1,hq2⟩,-,hqe⟩:=hqa;obtain⟨ko,kc,hvf,⟨hf1,hf2⟩,-,hfe⟩:=hfa;have HQS:=h_ hqs;have HFS:=h_ hfs;have HQE:=h_ hqe;have HEL:=h_ hfe;subst hvq;subst hvf;have hql:qs.length<=9223372036854775807:=Nat.le_trans hq1 hq2;have hfl:fs.length<=9223372036854775807:=Nat.le_trans hf1 hf2;clear hqs hfs hqe hfe hq1 hq2 hf1 hf2 hb hw hn hA;have HQN:Hid (qs.length<=100000):=h_ (by have:=HCN.out.2.1;rw[<-HQS.out,List.length_map] at this;exact this);have HFN:Hid (fs.length<=100000):=h_ (by have:=HCN.out.2.2;rw[<-HFS.out,List.length_map] at this;exact this);have HC:=h_ h;have HBg:=h_ h.blk;have HF:Hid (Fc w w kg bs):=h_ (Fc.refl _ _ _);clear h;have hgs:kg≠bs:=HC.out.gs;have HGS:=h_ hgs
 clear hgs;have HW0:=h_ HC.out.bw.size;have HGB:=h_ HC.out.gB;go_enter Tryz.func30,Tryz.ntmps30
 go_upto_region 1 with fail
 obtain⟨w1,ke,hw,hkk,hb,hs1,HBe⟩:=newb w #[.slice qo qs.length qc,.slice ko fs.length kc] 26;have hge:=lk_ hkk HBg;have hse:bs<ke:=by rw[hkk];exact HC.out.sm.lt
 have hee:w.heap.size<=ke:=by rw[hkk];exact HF.out.size
 rw[hw,<-hkk];replace HBg:=kB hb HBg;replace HC:=h_ (HC.out.below hb);replace HF:=fb_ HF hb;clear hw hb hkk hs1;obtain⟨wM,hwM⟩:∃ q,w1.alloc (.map #[] 0)=q:=⟨_,rfl⟩
 obtain⟨bq,hbq⟩:∃ q,w1.heap.size=q:=⟨_,rfl⟩
 have hbM:Below w1.heap.size w1 wM:=by rw[<-hwM];exact (Below.refl _ _).alloc (Nat.le_refl _) _
 have hmq:MapIs Tryz.prog 9 wM bq (fun _=>none):=by rw[<-hwM,<-hbq];exact MapIs.made _ _ _
 have hqg:kg<bq:=by rw[<-hbq];exact lt_of_block HBg.out
 have hqs1:bs<bq:=by rw[<-hbq];exact HC.out.sm.lt
 have hqf:bf<bq:=by rw[<-hbq];exact HC.out.fm.lt
 have heq1:ke<bq:=by rw[<-hbq];exact lt_of_block HBe.out
 have hwq:w.heap.size<=bq:=by rw[<-hbq];exact HF.out.size
 have HBM:=h_ hbM;have HMQ:=h_ hmq;have HZW:=h_ hbq;clear hbM hmq;have hmm:=@run_makeMap Tryz.prog;go_upto_region 2 with fail
 clear hwM hbq hmm;replace HBg:=kB HBM.out HBg;replace HBe:=kB HBM.out HBe;replace HC:=h_ (HC.out.below HBM.out);replace HF:=h_ (HF.out.trans (Fc.of_below HBM.out _ _));clear HBM HZW;obtain⟨c0,c1⟩:=cl2 HBe.out;go_wp2_with fail
 clear c0 c1;have HQ0:=h_ qm_nil;have HDQ:=h_ domV_nil
 go_loopw [17] (fun i wr=>∃ (j:Nat) (ev:Value) (sj:Ks) (L:List Bs) (Qm:Bs->Option Value),i=.int .i64 (j:Nat)/\j<=qs.length/\Hid (((qs.map Qd.q).take j).foldl (kQStep g0.fs) ([],none)=(L,sj.er))/\Hid (QmOk Qm L)/\Hid (DomV Qm j)/\Hid (MapIs Tryz.prog 9 wr bq Qm)/\Hid (Ck w0 wr kg bf bs (fun _=>none) sj false ev)/\Hid (wr.heap[ke]?=some (.cells #[.slice qo qs.length qc,.slice ko fs.length kc] 26 (0,0)))) (fun i _=>qs.length - (intOf i).toNat)
 case atStart=>exact⟨0,ev,s,[],fun _=>none,rfl,Nat.zero_le _,h_ (by rw[hs0];rfl),HQ0,HDQ,HMQ,HC,HBe⟩
 case round =>
  obtain⟨wl,hwl⟩:∃ q,q=wr:=⟨_,rfl⟩
  subst hwl;clear HMQ HC HBe HF HBg HQ0 HDQ
  try clear ev
  obtain⟨j,ev,sj,L,Qm,rfl,hj,HST,HQO,HDQ,HMQ,HC,HBe⟩:=hrel;have HBg:=h_ HC.out.blk;have HF:Hid (Fc wl wl kg bs):=h_ (Fc.refl _ _ _)
  by_cases hi:j<qs.length
  ·obtain⟨hAt,hRj⟩:=HQE.out j hi;have hpm:(qs[j]).q ∈ p.qs:=by rw[<-HQS.out];exact List.mem_map_of_mem (List.getElem_mem hi)
   have hnx:((qs.map Qd.q).take (j+1)).foldl (kQStep g0.fs) ([],none)=kQStep g0.fs (L,sj.er) qs[j].q:=by rw[foldl_take _ _ j (by rw[List.length_map];exact hi),HST.out,List.getElem_map]
   obtain⟨⟨q,v,px⟩,hqd⟩:∃ z,z=qs[j]:=⟨_,rfl⟩
   rw[<-hqd] at hAt hRj hpm hnx;obtain⟨hone,hux,hpm2⟩:=hRj;have hone2:v.oneCell'=true:=hone;have e12:qlE.f ⟨q,v,px⟩=qlC q v px:=if_pos hone2;have hAt2:AtN 12 w0 qo j (qlC q v px):=by rw[<-e12];exact hAt
   obtain⟨B,hB⟩:∃ z,z=qlC q v px:=⟨_,rfl⟩
   rw[<-hB] at hAt2;obtain⟨a,rfl,hc⟩:=hAt2;have hcb:∀ i u,B[i]?=some u->wl.cell? ((a.add (j*12)).add i)=some u:=fun i u hu=>by have:=hc i u hu;rw[HC.out.bw.cell (cell_lt this)];exact this
   have HCB:=h_ hcb;have HB1:Hid (B.length=12):=h_ (by rw[hB];rfl);have HB2:Hid (∀ u ∈ B,u.oneCell'=true):=h_ (by rw[hB];exact qlC_one hone2);have HBD:=h_ hB;have HUX:=h_ (show Um w0 S px q.body from hux);have HPM:=h_ (show PmsAt w0 S v q.ps from hpm2);have HPP:=h_ (show q ∈ p.qs from hpm);have HNX:=h_ (show _=kQStep g0.fs (L,sj.er) q from hnx);clear hAt hux hpm hpm2 hone hone2 e12 hc hcb hB hqd hnx;have hqz:bq<wl.heap.size:=HMQ.out.lt;have HMQ0:=HMQ;go_upto_region 4 with fail
   refine wp_region_lit ?_;refine wpList_plain rfl fun K0 hK0=>?_
   go_simp
   refine hK0 _ _ ?_;clear hK0;refine wpList_plain rfl fun K0 hK0=>?_
   refine wp_load_row 69 (.tmp 19) rfl _ rfl B _ HCB.out Tryz.underlying69 rfl (by rw[HB1.out];kernel_rfl) ?_;refine hK0 _ _ ?_;clear hK0;refine wpList_plain rfl fun K0 hK0=>?_
   go_simp
   refine hK0 _ _ ?_;clear hK0;refine wpList_plain rfl fun K0 hK0=>?_
   refine wp_store_row 69 (.tmp 6) (.tmp 20) rfl wl.heap.size B.toArray rfl rfl 69 _ (heap_alloc_last wl _) (by rw[List.size_toArray,HB1.out];kernel_rfl) (by rw[show B.toArray.size=12 from by rw[List.size_toArray];exact HB1.out];rfl) (by rw[List.all_toArray];exact List.all_eq_true.2 HB2.out) ?_;rw[World.setRow_alloc_new];refine hK0 _ _ ?_;clear hK0;go_upto_region 5 with fail
   obtain⟨w2,kq,hw,hkk,hb,hs1,HBq⟩:=newb wl B.toArray 69;have hgq:=lk_ hkk HBg;have hsq:bs<kq:=by rw[hkk];exact HC.out.sm.lt
   have heq:wl.heap.size<=kq:=by rw[hkk];exact HF.out.size
   have he_q:=lk_ hkk HBe;rw[hw,<-hkk];replace HBg:=kB hb HBg;replace HBe:=kB hb HBe;replace HC:=h_ (HC.out.below hb);replace HF:=fb_ HF hb;replace HMQ:=h_ (HMQ.out.keep (hb.block _ HMQ.out.lt));have hbq_q:bq<kq:=by rw[hkk];exact HMQ0.out.lt
   clear hw hb hkk hs1 HMQ0;have HBq2:Hid (w2.heap[kq]?=some (.cells #[.string ⟨q.nm.toArray⟩,v,.int .i64 px.k,.string px.nm,.string px.ot,.bool px.b,.slice px.ao px.n px.c,.slice px.ko px.kn px.kc,.int .i64 px.ln,.int .i64 px.cl,.int .i64 (q.ln:Nat),.int .i64 (q.cl:Nat)] 69 (0,0))):=h_ (by have h:=HBq.out;rw[HBD.out] at h;exact h);clear HBq;have HBq:=HBq2;clear HBq2;have HNM:Hid (q.nm.length<=maxLen):=h_ (nm_ok (HPB.out.1 _ HPP.out).1);have hqe2:kq≠bq:=by omega
   have hlt_q:=lt_of_block HBq.out;have hog:Hid (∀ q,q<1->(fun q=>bq) q<w2.heap.size):=h_ (fun q _=>by show bq<_;exact HMQ.out.lt);refine R7.region (by kernel_rfl) [[],[],[],[2],[],[1,2,3,4],[],[6],[],[8],[0,1,2,3,4,5,6,7,8,9]] [] [(5,1000)] (fun q=>bq) 1 10 (by kernel_rfl) (by kernel_rfl) (by rfl) hog.out (fun q q' h h' hn=>absurd hn (by omega)) ?_;refine R7.cd ?_ (fun T xs wr hA=>?_) ?_
   rotate_left
   ·have e0:=hA.pq 0;simp only[gsa,gsz] at e0;clear hA;go_simp<;>(try with_reducible rfl)
   refine R7.cd ?_ (fun T xs wr hA=>?_) ?_
   rotate_left
   ·have e4:=hA.pq 4;simp only[gsa,gsc,gsz] at e4;clear hA;go_simp<;>(try with_reducible rfl)
   refine R7.cd ?_ (fun T xs wr hA=>?_) ?_
   rotate_left
   ·have e6:=hA.pq 6;simp only[gsa,gsc,gsz] at e6;clear hA;go_simp<;>(try with_reducible rfl)
   refine R7.cd ?_ (fun T xs wr hA=>?_) ?_
   rotate_left
   ·have e23:=tr_ (hA.tq 2 23) (hA.fq 2)
    (try simp (disch:=decide) only [R7.mi] at e23)
    have hBq:wr.heap[kq]?=_:=(hA.bl _ hlt_q (fun q _=>by show bq≠kq;omega)).trans HBq.out;obtain⟨q0,q1,q2,q3,q4,q5,q6,q7,q8,q9,q10,q11⟩:=cl12 hBq;clear hBq;clear hA;go_simp<;>(try with_reducible rfl)
   refine R7.cd ?_ (fun T xs wr hA=>?_) ?_
   rotate_left
   ·have e6:=hA.pq 6;simp only[gsa,gsc,gsz] at e6;have hBq:wr.heap[kq]?=_:=(hA.bl _ hlt_q (fun q _=>by show bq≠kq;omega)).trans HBq.out;obtain⟨q0,q1,q2,q3,q4,q5,q6,q7,q8,q9,q10,q11⟩:=cl12 hBq;clear hBq;clear hA;go_simp<;>(try with_reducible rfl)
   refine R7.Chain.callOld 0 (fun xs v w=>v=.bool (Qm q.nm).isNone/\MapIs Tryz.prog 9 w bq (addM Qm q.nm (.agg B.toArray))) (fun _ _ _ _ ⟨h1,h2⟩ hb=>⟨h1,h2.keep (hb.block _ h2.lt)⟩) (fun _ _ _ _ q' _ hq hne _=>absurd rfl hne) (by rfl) (by rfl) (by decide) (R7.own_one (by rfl)) (fun T xs wr hA hold=>?_) ?_
   ·have hsw:=(hA.be 0 (Nat.zero_le _) (fun _ _=>Nat.zero_le _)).size;have e22:=tr_ (hA.tq 1 22) (hA.fq 1);have e24:=tr_ (hA.tq 3 24) (hA.fq 3);have e25:=tr_ (hA.tq 4 25) (hA.fq 4)
    (try simp (disch:=decide) only [R7.mi] at e22 e24 e25)
    have HMW:=h_ (HMQ.out.keep hold);clear hA;refine⟨(by rfl),fun K hK=>?_⟩;go_simp
    have hcs:=addQ_p bq Qm q.nm B HB1.out HB2.out wr HMW.out HNM.out HDQ.out (Nat.lt_of_le_of_lt (by have:=HQN.out;omega) big_ok) HQO.out.2;rw[show B.toArray=#[.string ⟨q.nm.toArray⟩,v,.int .i64 px.k,.string px.nm,.string px.ot,.bool px.b,.slice px.ao px.n px.c,.slice px.ko px.kn px.kc,.int .i64 px.ln,.int .i64 px.cl,.int .i64 (q.ln:Nat),.int .i64 (q.cl:Nat)] from by rw[HBD.out];rfl] at hcs;refine hcs.mono ?_;rintro e w' ⟨rfl,hm,hg⟩;exact hK.out _ _ ⟨rfl,by rw[show B.toArray=#[.string ⟨q.nm.toArray⟩,v,.int .i64 px.k,.string px.nm,.string px.ot,.bool px.b,.slice px.ao px.n px.c,.slice px.ko px.kn px.kc,.int .i64 px.ln,.int .i64 px.cl,.int .i64 (q.ln:Nat),.int .i64 (q.cl:Nat)] from by rw[HBD.out];rfl];exact hm⟩ (R7.Priv.of hg)
   refine R7.cd ?_ (fun T xs wr hA=>?_) ?_
   rotate_left
   ·have e6:=hA.pq 6;simp only[gsa,gsc,gsz] at e6;clear hA;go_simp<;>(try with_reducible rfl)
   refine R7.cd ?_ (fun T xs wr hA=>?_) ?_
   rotate_left
   ·have e27:=tr_ (hA.tq 6 27) (hA.fq 6)
    (try simp (disch:=decide) only [R7.mi] at e27)
    have hBq:wr.heap[kq]?=_:=(hA.bl _ hlt_q (fun q _=>by show bq≠kq;omega)).trans HBq.out;obtain⟨q0,q1,q2,q3,q4,q5,q6,q7,q8,q9,q10,q11⟩:=cl12 hBq;clear hBq;clear hA;go_simp<;>(try with_reducible rfl)
   refine R7.cd ?_ (fun T xs wr hA=>?_) ?_
   rotate_left
   ·have e6:=hA.pq 6;simp only[gsa,gsc,gsz] at e6;clear hA;go_simp<;>(try with_reducible rfl)
   refine R7.cd ?_ (fun T xs wr hA=>?_) ?_
   rotate_left
   ·have e29:=tr_ (hA.tq 8 29) (hA.fq 8)
    (try simp (disch:=decide) only [R7.mi] at e29)
    have hBq:wr.heap[kq]?=_:=(hA.bl _ hlt_q (fun q _=>by show bq≠kq;omega)).trans HBq.out;obtain⟨q0,q1,q2,q3,q4,q5,q6,q7,q8,q9,q10,q11⟩:=cl12 hBq;clear hBq;clear hA;go_simp<;>(try with_reducible rfl)
   refine R7.Chain.done (fun xs w3 hL=>?_);obtain⟨⟨hbe,hbl⟩,hf,-,-⟩:=hL;have f0:xs 0=_:=hf 0 (by decide);have f1:xs 1=_:=hf 1 (by decide);have f2:xs 2=_:=hf 2 (by decide);have f3:xs 3=_:=hf 3 (by decide);have f4:xs 4=_:=hf 4 (by decide);have F5:(xs 5)=.bool (Qm q.nm).isNone/\MapIs Tryz.prog 9 w3 bq (addM Qm q.nm (.agg B.toArray)):=hf 5 (by decide);have f6:xs 6=_:=hf 6 (by decide);have f7:xs 7=_:=hf 7 (by decide);have f8:xs 8=_:=hf 8 (by decide);have f9:xs 9=_:=hf 9 (by decide)
   (try simp (disch:=decide) only [R7.mi] at f0 f1 f2 f3 f4 f6 f7 f8 f9)
   have hb0:Below 0 w2 w3:=undrew (hbe 0 (Nat.zero_le _) (fun _ _=>Nat.zero_le _));have hgr:∀ j,j<w2.heap.size->(∀ q,q<1->(fun q=>bq) q≠j)->w3.heap[j]?=w2.heap[j]?:=hbl;clear hbe hbl hf;obtain⟨hv,hm⟩:=F5;have hg:w2.grownBy w3 (some bq):=⟨hb0.os,hb0.tape,hb0.output,hb0.size,fun k hk hn=>hgr k hk (fun q _ e=>hn (by rw[<-e]))⟩
   refine R7.rest_list (by decide) (by kernel_rfl) ?_;simp only[R7.fill,t1_,t2_,t3_,t4_,t5_,t6_,t7_,f0,f1,f2,f3,f4,f6,f7,f8,f9];simp only[hv];clear hog hv hb0 hgr hlt_q f0 f1 f2 f3 f4 f6 f7 f8 f9;replace HC:=h_ (ck_ownM HC.out HMQ.out (by omega) (by omega) (by have:=HW0.out;omega) hg);replace HBg:=kG hg HBg;replace HBe:=kG hg HBe;replace HBq:=kG hg HBq;replace HMQ:=h_ hm;clear HF;have HF:Hid (Fc w3 w3 kg bs):=h_ (Fc.refl _ _ _);clear hm hg;obtain⟨c0,c1,c2,c3,c4,c5,c6,c7,c8,c9,c10,c11⟩:=cl12 HBq.out;go_wp2_with fail
   refine (require_p HC.out (Qm q.nm).isNone q.ln q.cl 3).mono ?_;rintro e w4 ⟨rfl,⟨ev,hC⟩,hF⟩;clear c0 c1 c2 c3 c4 c5 c6 c7 c8 c9 c10 c11;replace HBe:=kF hF HBe;replace HBq:=kF hF HBq;replace HMQ:=h_ (HMQ.out.keep (hF.block _ HMQ.out.lt (by omega) (by omega)));replace HF:=h_ (HF.out.trans hF);replace HC:=h_ hC;replace HBg:=h_ hC.blk;clear hC hF;rw[isn_con HQO.out] at HC;obtain⟨sA,hsA⟩:∃ z:Ks,z=⟨sj.sc,req sj.er (!L.contains q.nm) q.ln q.cl 3⟩:=⟨_,rfl⟩
   rw[<-hsA] at HC;have HSA:=h_ hsA;clear hsA;obtain⟨c0,c1,c2,c3,c4,c5,c6,c7,c8,c9,c10,c11⟩:=cl12 HBq.out;have hks:=qual_s HC.out q v px S HPM.out HUX.out (HPB.out.1 _ HPP.out) g0.fs (all_ok (gv_none w0 S)) (HCN.out.1.1 _ HPP.out) (HWD.out.1 _ HPP.out) HA.out;have HKS:=h_ hks;clear hks;go_wp2_with fail
   refine (HKS.out).mono ?_;rintro e w5 ⟨rfl,⟨ev,hC⟩,hF⟩;clear c0 c1 c2 c3 c4 c5 c6 c7 c8 c9 c10 c11;replace HBe:=kF hF HBe;replace HBq:=kF hF HBq;replace HMQ:=h_ (HMQ.out.keep (hF.block _ HMQ.out.lt (by omega) (by omega)));replace HF:=h_ (HF.out.trans hF);replace HC:=h_ hC;replace HBg:=h_ hC.blk;clear hC hF;have HNX2:Hid (((qs.map Qd.q).take (j+1)).foldl (kQStep g0.fs) ([],none)=(if L.contains q.nm then L else q.nm::L,(kQual g0.fs q sA.er).er)):=h_ (by rw[HNX.out,HSA.out];rfl);go_wp2_with fail
   go_roundw
   case rel=>exact⟨j+1,ev,_,_,_,by go_num,hi,HNX2,h_ (qm_add HQO.out q.nm B HB1.out HB2.out),h_ (domV_add HDQ.out _ _),HMQ,HC,HBe⟩
   case measure=>simp[intOf];omega
  have hjj:j=qs.length:=by omega
  subst hjj;have hsj:=HST.out;rw[List.take_of_length_le (by rw[List.length_map];exact Nat.le_refl _),HQS.out] at hsj;have HST2:=h_ hsj;clear hsj hi HST HQO HDQ HMQ;obtain⟨c0,c1⟩:=cl2 HBe.out;go_wp2_with fail
  clear c0 c1;have HG0:=h_ (gv_none w0 S);have HDG:=h_ domV_nil
  go_loopw [39] (fun i wr=>∃ (j:Nat) (ev:Value) (sk:Ks) (G:Gfn) (Gv:Bs->Option Value),i=.int .i64 (j:Nat)/\j<=fs.length/\Hid (((fs.map Fd.q).take j).foldl kGStep (g0,sj.er)=(G,sk.er))/\Hid (GvOk w0 S Gv G)/\Hid (DomV Gv j)/\Hid (Ck w0 wr kg bf bs Gv sk false ev)/\Hid (wr.heap[ke]?=some (.cells #[.slice qo qs.length qc,.slice ko fs.length kc] 26 (0,0)))) (fun i _=>fs.length - (intOf i).toNat)
  case atStart=>exact⟨0,ev,sj,g0,fun _=>none,rfl,Nat.zero_le _,h_ rfl,HG0,HDG,HC,HBe⟩
  case round =>
   obtain⟨wl,hwl⟩:∃ q,q=wr:=⟨_,rfl⟩
   subst hwl;clear HC HBe HF HBg HG0 HDG
   try clear ev
   obtain⟨j,ev,sk,G,Gv,rfl,hj,HST,HGV,HDG,HC,HBe⟩:=hrel;have HBg:=h_ HC.out.blk;have HF:Hid (Fc wl wl kg bs):=h_ (Fc.refl _ _ _)
   by_cases hi:j<fs.length
   ·have hpm0:(fs[j]).q ∈ p.fs:=by rw[<-HFS.out];exact List.mem_map_of_mem (List.getElem_mem hi)
    have hnx:((fs.map Fd.q).take (j+1)).foldl kGStep (g0,sj.er)=kGStep (G,sk.er) fs[j].q:=by rw[foldl_take _ _ j (by rw[List.length_map];exact hi),HST.out,List.getElem_map]
    obtain⟨hAt,hRj⟩:=HEL.out j hi;obtain⟨⟨q,v,px,py⟩,hqd⟩:∃ z,z=fs[j]:=⟨_,rfl⟩
    rw[<-hqd] at hAt hRj;obtain⟨hone,hux,huy,hpm⟩:=hRj;have hone2:v.oneCell'=true:=hone;have e25:fnE.f ⟨q,v,px,py⟩=fnC q v px py:=if_pos hone2;have hAt2:AtN 25 w0 ko j (fnC q v px py):=by rw[<-e25];exact hAt
    obtain⟨B,hB⟩:∃ z,z=fnC q v px py:=⟨_,rfl⟩
    rw[<-hB] at hAt2;obtain⟨a,rfl,hc⟩:=hAt2;have hcb:∀ i u,B[i]?=some u->wl.cell? ((a.add (j*25)).add i)=some u:=fun i u hu=>by have:=hc i u hu;rw[HC.out.bw.cell (cell_lt this)];exact this
    have HCB:=h_ hcb;have HB1:Hid (B.length=25):=h_ (by rw[hB];rfl);have HB2:Hid (∀ u ∈ B,u.oneCell'=true):=h_ (by rw[hB];exact fnC_one hone2);have HBD:=h_ hB;have HQD:=h_ hqd;have HUX:=h_ (show Um w0 S px q.res.ref from hux);have HUY:=h_ (show Um w0 S py q.body from huy);have HPM:=h_ (show PmsAt w0 S v q.ps from hpm);clear hAt hux huy hpm hone hone2 e25 hc hcb hB hqd;rw[<-HQD.out] at hpm0 hnx;have HPP:=h_ (show q ∈ p.fs from hpm0);have HNX:=h_ (show _=kGStep (G,sk.er) q from hnx);clear hpm0 hnx;have hbf1:bf<wl.heap.size:=HC.out.fm.lt;have hel9:ke<wl.heap.size:=lt_of_block HBe.out;have hfk:bf≠kg:=fun e=>HC.out.gf e.symm
    have hfs:bf≠bs:=HC.out.ne;have hfe:bf≠ke:=map_ne HC.out.fm HBe.out;have HBF0:=h_ HC.out.fm.lt;go_upto_region 10 with fail
    refine wp_region_lit ?_;refine wpList_plain rfl fun K0 hK0=>?_
    go_simp
    refine hK0 _ _ ?_;clear hK0;refine wpList_plain rfl fun K0 hK0=>?_
    refine wp_load_row 50 (.tmp 41) rfl _ rfl B _ HCB.out Tryz.underlying50 rfl (by rw[HB1.out];kernel_rfl) ?_;refine hK0 _ _ ?_;clear hK0;refine wpList_plain rfl fun K0 hK0=>?_
    go_simp
    refine hK0 _ _ ?_;clear hK0;refine wpList_plain rfl fun K0 hK0=>?_
    refine wp_store_row 50 (.tmp 8) (.tmp 42) rfl wl.heap.size B.toArray rfl rfl 50 _ (heap_alloc_last wl _) (by rw[List.size_toArray,HB1.out];kernel_rfl) (by rw[show B.toArray.size=25 from by rw[List.size_toArray];exact HB1.out];rfl) (by rw[List.all_toArray];exact List.all_eq_true.2 HB2.out) ?_;rw[World.setRow_alloc_new];refine hK0 _ _ ?_;clear hK0;go_upto_region 11 with fail
    obtain⟨w2,kf,hw,hkk,hb,hs1,HBf⟩:=newb wl B.toArray 50;have hgf:=lk_ hkk HBg;have hsf:bs<kf:=by rw[hkk];exact HC.out.sm.lt
    have hef:wl.heap.size<=kf:=by rw[hkk];exact HF.out.size
    have he_f:=lk_ hkk HBe;rw[hw,<-hkk];replace HBg:=kB hb HBg;replace HBe:=kB hb HBe;replace HC:=h_ (HC.out.below hb);replace HF:=fb_ HF hb;have hbf_f:bf<kf:=by rw[hkk];exact HBF0.out
    clear hw hb hkk hs1 HBF0;have hb0:B.toArray[0]?=some (.string ⟨q.nm.toArray⟩):=by rw[HBD.out];rfl
    have hb4:B.toArray[23]?=some (.int .i64 (q.ln:Nat)):=by rw[HBD.out];rfl
    have hb5:B.toArray[24]?=some (.int .i64 (q.cl:Nat)):=by rw[HBD.out];rfl
    have HBC0:=h_ hb0;have HBC4:=h_ hb4;have HBC5:=h_ hb5;clear hb0 hb4 hb5;have HNM:Hid (q.nm.length<=maxLen):=h_ (nm_ok (HPB.out.2 _ HPP.out).1);have hlt_g:=lt_of_block HBg.out;have hlt_f:=lt_of_block HBf.out;have hog:Hid (∀ q,q<1->(fun q=>bf) q<w2.heap.size):=h_ (fun q _=>by show bf<_;exact HC.out.fm.lt);refine R7.region (by kernel_rfl) [[],[],[1],[1,2],[1,2,3],[],[5],[],[1,2,3,4,5,6,7],[],[9],[],[11],[0,1,2,3,4,5,6,7,8,9,10,11,12]] [] [(8,1000)] (fun q=>bf) 1 13 (by kernel_rfl) (by kernel_rfl) (by rfl) hog.out (fun q q' h h' hn=>absurd hn (by omega)) ?_;refine R7.cd ?_ (fun T xs wr hA=>?_) ?_
    rotate_left
    ·have e0:=hA.pq 0;simp only[gsa,gsz] at e0;clear hA;go_simp<;>(try with_reducible rfl)
    refine R7.cd ?_ (fun T xs wr hA=>?_) ?_
    rotate_left
    ·have e0:=hA.pq 0;simp only[gsa,gsz] at e0;clear hA;go_simp<;>(try with_reducible rfl)
    refine R7.cd ?_ (fun T xs wr hA=>?_) ?_
    rotate_left
    ·have e44:=tr_ (hA.tq 1 44) (hA.fq 1)
     (try simp (disch:=decide) only [R7.mi] at e44)
     clear hA;go_simp<;>(try with_reducible rfl)
    refine R7.cd ?_ (fun T xs wr hA=>?_) ?_
    rotate_left
    ·have e45:=tr_ (hA.tq 2 45) (hA.fq 2)
     (try simp (disch:=decide) only [R7.mi] at e45)
     clear hA;go_simp<;>(try with_reducible rfl)
    refine R7.cd ?_ (fun T xs wr hA=>?_) ?_
    rotate_left
    ·have e46:=tr_ (hA.tq 3 46) (hA.fq 3)
     (try simp (disch:=decide) only [R7.mi] at e46)
     have hBq:wr.heap[kg]?=_:=(hA.bl _ hlt_g (fun q _=>by show bf≠kg;omega)).trans HBg.out;obtain⟨q0,q1,q2,q3⟩:=cl4 hBq;clear hBq;clear hA;go_simp<;>(try with_reducible rfl)
    refine R7.cd ?_ (fun T xs wr hA=>?_) ?_
    rotate_left
    ·have e8:=hA.pq 8;simp only[gsa,gsc,gsz] at e8;clear hA;go_simp<;>(try with_reducible rfl)
    refine R7.Chain.call (fun xs v w=>v=.string ⟨q.nm.toArray⟩) (fun _ _ _ _ h _=>h) (fun _ _ _ _ _ h _ _=>h) (by rfl) (fun T xs wr hA=>?_) ?_
    ·have hsw:=(hA.be 0 (Nat.zero_le _) (fun _ _=>Nat.zero_le _)).size;have e48:=tr_ (hA.tq 5 48) (hA.fq 5)
     (try simp (disch:=decide) only [R7.mi] at e48)
     have hBq:wr.heap[kf]?=_:=(hA.bl _ hlt_f (fun q _=>by show bf≠kf;omega)).trans HBf.out;have qz:=cell_at (v:=.string ⟨q.nm.toArray⟩) hBq 0 HBC0.out;clear hBq;clear hA;refine⟨(by rfl),fun K hK=>?_⟩;go_simp
     exact hK.out _ _ rfl (Below.refl _ _)
    refine R7.Chain.call (fun xs v w=>v=.agg B.toArray) (fun _ _ _ _ h _=>h) (fun _ _ _ _ _ h _ _=>h) (by rfl) (fun T xs wr hA=>?_) ?_
    ·have hsw:=(hA.be 0 (Nat.zero_le _) (fun _ _=>Nat.zero_le _)).size;have e8:=hA.pq 8;simp only[gsa,gsc,gsz] at e8;have hBq:wr.heap[kf]?=_:=(hA.bl _ hlt_f (fun q _=>by show bf≠kf;omega)).trans HBf.out;have HBQ:=h_ hBq;clear hBq;clear hA;refine⟨(by rfl),fun K hK=>?_⟩;refine wp_load_row (P:=Tryz.prog) 50 (.tmp 8) rfl ⟨kf,0,none⟩ (by show T.getD 8 undef=_;rw[Array.getD_eq_getD_getElem?,e8];rfl) B _ (fun j v hv=>by rw[add_lit,Nat.zero_add];exact cell_at HBQ.out j (by rw[gsa];exact hv)) Tryz.underlying50 rfl (by rw[HB1.out];kernel_rfl) ?_;exact hK.out _ _ rfl (Below.refl _ _)
    refine R7.Chain.callOld 0 (fun xs v w=>v=.bool (Gv q.nm).isNone/\MapIs Tryz.prog 9 w bf (addM Gv q.nm (.agg B.toArray))) (fun _ _ _ _ ⟨h1,h2⟩ hb=>⟨h1,h2.keep (hb.block _ h2.lt)⟩) (fun _ _ _ _ q' _ hq hne _=>absurd rfl hne) (by rfl) (by rfl) (by decide) (R7.own_one (by rfl)) (fun T xs wr hA hold=>?_) ?_
    ·have hsw:=(hA.be 0 (Nat.zero_le _) (fun _ _=>Nat.zero_le _)).size;have e47:=tr_ (hA.tq 4 47) (hA.fq 4)
     (try simp (disch:=decide) only [R7.mi] at e47)
     have e49:=hA.tm 6 49 (by rfl) (by rfl);have f49:xs 6=(.string ⟨q.nm.toArray⟩):=hA.fa 6 (by rfl);rw[f49] at e49;clear f49;have e50:=hA.tm 7 50 (by rfl) (by rfl);have f50:xs 7=(.agg B.toArray):=hA.fa 7 (by rfl);rw[f50] at e50;clear f50;have HMW:=h_ (HC.out.fm.keep hold);clear hA;refine⟨(by rfl),fun K hK=>?_⟩;go_simp
     refine (addF_p bf Gv q.nm B HB1.out HB2.out wr HMW.out HNM.out HDG.out (Nat.lt_of_le_of_lt (by have:=HFN.out;omega) big_ok) (gv_shape HGV.out)).mono ?_;rintro e w' ⟨rfl,hm,hg⟩;exact hK.out _ _ ⟨rfl,hm⟩ (R7.Priv.of hg)
    refine R7.cd ?_ (fun T xs wr hA=>?_) ?_
    rotate_left
    ·have e8:=hA.pq 8;simp only[gsa,gsc,gsz] at e8;clear hA;go_simp<;>(try with_reducible rfl)
    refine R7.Chain.call (fun xs v w=>v=.int .i64 (q.ln:Nat)) (fun _ _ _ _ h _=>h) (fun _ _ _ _ _ h _ _=>h) (by rfl) (fun T xs wr hA=>?_) ?_
    ·have hsw:=(hA.be 0 (Nat.zero_le _) (fun _ _=>Nat.zero_le _)).size;have e52:=tr_ (hA.tq 9 52) (hA.fq 9)
     (try simp (disch:=decide) only [R7.mi] at e52)
     have hBq:wr.heap[kf]?=_:=(hA.bl _ hlt_f (fun q _=>by show bf≠kf;omega)).trans HBf.out;have qz:=cell_at (v:=.int .i64 (q.ln:Nat)) hBq 23 HBC4.out;clear hBq;clear hA;refine⟨(by rfl),fun K hK=>?_⟩;go_simp
     exact hK.out _ _ rfl (Below.refl _ _)
    refine R7.cd ?_ (fun T xs wr hA=>?_) ?_
    rotate_left
    ·have e8:=hA.pq 8;simp only[gsa,gsc,gsz] at e8;clear hA;go_simp<;>(try with_reducible rfl)
    refine R7.Chain.call (fun xs v w=>v=.int .i64 (q.cl:Nat)) (fun _ _ _ _ h _=>h) (fun _ _ _ _ _ h _ _=>h) (by rfl) (fun T xs wr hA=>?_) ?_
    ·have hsw:=(hA.be 0 (Nat.zero_le _) (fun _ _=>Nat.zero_le _)).size;have e54:=tr_ (hA.tq 11 54) (hA.fq 11)
     (try simp (disch:=decide) only [R7.mi] at e54)
     have hBq:wr.heap[kf]?=_:=(hA.bl _ hlt_f (fun q _=>by show bf≠kf;omega)).trans HBf.out;have qz:=cell_at (v:=.int .i64 (q.cl:Nat)) hBq 24 HBC5.out;clear hBq;clear hA;refine⟨(by rfl),fun K hK=>?_⟩;go_simp
     exact hK.out _ _ rfl (Below.refl _ _)
    refine R7.Chain.done (fun xs w3 hL=>?_);obtain⟨⟨hbe,hbl⟩,hf,-,-⟩:=hL;have f0:xs 0=_:=hf 0 (by decide);have f1:xs 1=_:=hf 1 (by decide);have f2:xs 2=_:=hf 2 (by decide);have f3:xs 3=_:=hf 3 (by decide);have f4:xs 4=_:=hf 4 (by decide);have f5:xs 5=_:=hf 5 (by decide);have f6:xs 6=(.string ⟨q.nm.toArray⟩):=hf 6 (by decide);have f7:xs 7=(.agg B.toArray):=hf 7 (by decide);have F8:(xs 8)=.bool (Gv q.nm).isNone/\MapIs Tryz.prog 9 w3 bf (addM Gv q.nm (.agg B.toArray)):=hf 8 (by decide);have f9:xs 9=_:=hf 9 (by decide);have f10:xs 10=(.int .i64 (q.ln:Nat)):=hf 10 (by decide);have f11:xs 11=_:=hf 11 (by decide);have f12:xs 12=(.int .i64 (q.cl:Nat)):=hf 12 (by decide)
    (try simp (disch:=decide) only [R7.mi] at f0 f1 f2 f3 f4 f5 f9 f11)
    have hb0:Below 0 w2 w3:=undrew (hbe 0 (Nat.zero_le _) (fun _ _=>Nat.zero_le _));have hgr:∀ j,j<w2.heap.size->(∀ q,q<1->(fun q=>bf) q≠j)->w3.heap[j]?=w2.heap[j]?:=hbl;clear hbe hbl hf;obtain⟨hv,hm⟩:=F8;have hg:w2.grownBy w3 (some bf):=⟨hb0.os,hb0.tape,hb0.output,hb0.size,fun k hk hn=>hgr k hk (fun q _ e=>hn (by rw[<-e]))⟩
    refine R7.rest_list (by decide) (by kernel_rfl) ?_;simp only[R7.fill,t1_,t2_,t3_,t4_,t5_,t6_,t7_,f0,f1,f2,f3,f4,f5,f6,f7,f9,f10,f11,f12];simp only[hv];clear hog hv hb0 hgr hlt_f hlt_g f0 f1 f2 f3 f4 f5 f6 f7 f9 f10 f11 f12;replace HC:=h_ (HC.out.turnF hg hm);replace HBg:=kG hg HBg;replace HBe:=kG hg HBe;replace HBf:=kG hg HBf;clear HF;have HF:Hid (Fc w3 w3 kg bs):=h_ (Fc.refl _ _ _);clear hm hg;go_wp2_with fail
    refine (require_p HC.out (Gv q.nm).isNone q.ln q.cl 3).mono ?_;rintro e w4 ⟨rfl,⟨ev,hC⟩,hF⟩;replace HBe:=kF hF HBe;replace HBf:=kF hF HBf;replace HF:=h_ (HF.out.trans hF);replace HC:=h_ hC;replace HBg:=h_ hC.blk;clear hC hF;rw[gv_has HGV.out] at HC;have HNX2:Hid (((fs.map Fd.q).take (j+1)).foldl kGStep (g0,sj.er)=(G.add q,(⟨sk.sc,req sk.er (G q.nm).isNone q.ln q.cl 3⟩:Ks).er)):=h_ (by rw[HNX.out];rfl);have HGV2:Hid (GvOk w0 S (addM Gv q.nm (.agg B.toArray)) (G.add q)):=h_ (by rw[HBD.out];exact gv_add HGV.out q v px py HPM.out (HCN.out.1.2 _ HPP.out));go_wp2_with fail
    go_roundw
    case rel=>exact⟨j+1,ev,_,_,_,by go_num,hi,HNX2,HGV2,h_ (domV_add HDG.out _ _),HC,HBe⟩
    case measure=>simp[intOf];omega
   have hjj:j=fs.length:=by omega
   subst hjj;have hsk:=HST.out;rw[List.take_of_length_le (by rw[List.length_map];exact Nat.le_refl _),HFS.out] at hsk;have HST3:=h_ hsk;clear hsk hi HST HDG;obtain⟨c0,c1⟩:=cl2 HBe.out;go_upto_region 13 with fail
   refine wp_region_lit ?_;refine wpList_plain rfl fun K0 hK0=>?_
   go_simp
   refine hK0 _ _ ?_;clear hK0;have hmn:=main_s wl S _ _ p (HPA.out.belowW HC.out.bw);have HMN:=h_ hmn;clear hmn;refine wpList_plain rfl fun K0 hK0=>?_
   go_simp
   refine HMN.out.mono ?_;rintro e wB ⟨A,rfl,hb,hA1,hA2,-⟩;have HA1:=h_ hA1;have HA2:=h_ hA2;have HBW:=h_ hb;clear hA1 hA2 hb;refine hK0 _ _ ?_;clear hK0 HMN;clear c0 c1;replace HBg:=kB HBW.out HBg;replace HBe:=kB HBW.out HBe;replace HC:=h_ (HC.out.below HBW.out);replace HF:=h_ (HF.out.trans (Fc.of_below HBW.out _ _));clear HBW
   iterate 3 (refine wpList_plain rfl fun K0 hK0=>?_;go_simp;refine hK0 _ _ ?_;clear hK0)
   have hkf:kg<wB.heap.size:=lt_of_block HBg.out;refine wpList_plain rfl fun K0 hK0=>?_
   go_simp
   refine hK0 _ _ ?_;clear hK0;refine wpList_plain rfl fun K0 hK0=>?_
   refine wp_store_row 50 (.tmp 9) (.tmp 61) rfl wB.heap.size A.toArray rfl rfl 50 _ (heap_alloc_last wB _) (by rw[List.size_toArray,HA1.out];kernel_rfl) (by rw[show A.toArray.size=25 from by rw[List.size_toArray];exact HA1.out];rfl) (by rw[List.all_toArray];exact List.all_eq_true.2 HA2.out) ?_;rw[World.setRow_alloc_new];refine hK0 _ _ ?_;clear hK0 hkf;go_upto_region 14 with fail
   obtain⟨w2,km,hw,hkk,hb,hs1,HBm⟩:=newb wB A.toArray 50;have hgm:=lk_ hkk HBg;have hsm:bs<km:=by rw[hkk];exact HC.out.sm.lt
   have hem:wl.heap.size<=km:=by rw[hkk];exact HF.out.size
   have he_m:=lk_ hkk HBe;rw[hw,<-hkk];replace HBg:=kB hb HBg;replace HBe:=kB hb HBe;replace HC:=h_ (HC.out.below hb);replace HF:=fb_ HF hb;clear hw hb hkk hs1;go_wp2_with fail
   refine (require_p HC.out (hasMain p) 1 1 5).mono ?_;rintro e w3 ⟨rfl,⟨ev,hC⟩,hF⟩;replace HBe:=kF hF HBe;replace HBm:=kF hF HBm;replace HF:=h_ (HF.out.trans hF);replace HC:=h_ hC;replace HBg:=h_ hC.blk;clear hC hF;obtain⟨sM,hsM⟩:∃ z:Ks,z=⟨sk.sc,req sk.er (hasMain p) 1 1 5⟩:=⟨_,rfl⟩
   rw[<-hsM] at HC;have HSM:=h_ hsM;clear hsM;obtain⟨c0,c1⟩:=cl2 HBe.out;go_wp2_with fail
   clear c0 c1
   go_loopw [69] (fun i wr=>∃ (j:Nat) (ev:Value) (sl:Ks),i=.int .i64 (j:Nat)/\j<=fs.length/\Hid (((fs.map Fd.q).take j).foldl (fun e f=>(kFun G.fs f e).er) sM.er=sl.er)/\Hid (Ck w0 wr kg bf bs Gv sl false ev)/\Hid (wr.heap[ke]?=some (.cells #[.slice qo qs.length qc,.slice ko fs.length kc] 26 (0,0)))) (fun i _=>fs.length - (intOf i).toNat)
   case atStart=>exact⟨0,ev,sM,rfl,Nat.zero_le _,h_ rfl,HC,HBe⟩
   case round =>
    obtain⟨wl,hwl⟩:∃ q,q=wr:=⟨_,rfl⟩
    subst hwl;clear HC HBe HF HBg HBm
    try clear ev
    obtain⟨j,ev,sl,rfl,hj,HSL,HC,HBe⟩:=hrel;have HBg:=h_ HC.out.blk;have HF:Hid (Fc wl wl kg bs):=h_ (Fc.refl _ _ _)
    by_cases hi:j<fs.length
    ·have hpm0:(fs[j]).q ∈ p.fs:=by rw[<-HFS.out];exact List.mem_map_of_mem (List.getElem_mem hi)
     have hnx:((fs.map Fd.q).take (j+1)).foldl (fun e f=>(kFun G.fs f e).er) sM.er=(kFun G.fs fs[j].q sl.er).er:=by rw[foldl_take _ _ j (by rw[List.length_map];exact hi),HSL.out,List.getElem_map]
     obtain⟨hAt,hRj⟩:=HEL.out j hi;obtain⟨⟨q,v,px,py⟩,hqd⟩:∃ z,z=fs[j]:=⟨_,rfl⟩
     rw[<-hqd] at hAt hRj;obtain⟨hone,hux,huy,hpm⟩:=hRj;have hone2:v.oneCell'=true:=hone;have e25:fnE.f ⟨q,v,px,py⟩=fnC q v px py:=if_pos hone2;have hAt2:AtN 25 w0 ko j (fnC q v px py):=by rw[<-e25];exact hAt
     obtain⟨B,hB⟩:∃ z,z=fnC q v px py:=⟨_,rfl⟩
     rw[<-hB] at hAt2;obtain⟨a,rfl,hc⟩:=hAt2;have hcb:∀ i u,B[i]?=some u->wl.cell? ((a.add (j*25)).add i)=some u:=fun i u hu=>by have:=hc i u hu;rw[HC.out.bw.cell (cell_lt this)];exact this
     have HCB:=h_ hcb;have HB1:Hid (B.length=25):=h_ (by rw[hB];rfl);have HB2:Hid (∀ u ∈ B,u.oneCell'=true):=h_ (by rw[hB];exact fnC_one hone2);have HBD:=h_ hB;have HQD:=h_ hqd;have HUX:=h_ (show Um w0 S px q.res.ref from hux);have HUY:=h_ (show Um w0 S py q.body from huy);have HPM:=h_ (show PmsAt w0 S v q.ps from hpm);clear hAt hux huy hpm hone hone2 e25 hc hcb hB hqd;rw[<-HQD.out] at hpm0 hnx;have HPP:=h_ (show q ∈ p.fs from hpm0);have HNX:=h_ (show _=(kFun G.fs q sl.er).er from hnx);clear hpm0 hnx;have hel9:ke<wl.heap.size:=lt_of_block HBe.out;go_upto_region 17 with fail
     refine wp_region_lit ?_;refine wpList_plain rfl fun K0 hK0=>?_
     go_simp
     refine hK0 _ _ ?_;clear hK0;refine wpList_plain rfl fun K0 hK0=>?_
     refine wp_load_row 50 (.tmp 71) rfl _ rfl B _ HCB.out Tryz.underlying50 rfl (by rw[HB1.out];kernel_rfl) ?_;refine hK0 _ _ ?_;clear hK0;refine wpList_plain rfl fun K0 hK0=>?_
     go_simp
     refine hK0 _ _ ?_;clear hK0;refine wpList_plain rfl fun K0 hK0=>?_
     refine wp_store_row 50 (.tmp 12) (.tmp 72) rfl wl.heap.size B.toArray rfl rfl 50 _ (heap_alloc_last wl _) (by rw[List.size_toArray,HB1.out];kernel_rfl) (by rw[show B.toArray.size=25 from by rw[List.size_toArray];exact HB1.out];rfl) (by rw[List.all_toArray];exact List.all_eq_true.2 HB2.out) ?_;rw[World.setRow_alloc_new];refine hK0 _ _ ?_;clear hK0;go_upto_region 18 with fail
     obtain⟨w4,kf,hw,hkk,hb,hs1,HBf⟩:=newb wl B.toArray 50;have hgf:=lk_ hkk HBg;have hsf:bs<kf:=by rw[hkk];exact HC.out.sm.lt
     have hef:wl.heap.size<=kf:=by rw[hkk];exact HF.out.size
     have he_f:=lk_ hkk HBe;rw[hw,<-hkk];replace HBg:=kB hb HBg;replace HBe:=kB hb HBe;replace HC:=h_ (HC.out.below hb);replace HF:=fb_ HF hb;clear hw hb hkk hs1;refine wp_region_lit ?_;refine wpList_plain rfl fun K0 hK0=>?_
     go_simp
     refine hK0 _ _ ?_;clear hK0;refine wpList_plain rfl fun K0 hK0=>?_
     refine wp_load_row 50 (.tmp 12) rfl ⟨kf,0,none⟩ rfl B _ (fun j v hv=>by rw[add_lit,Nat.zero_add];exact cell_at HBf.out j (by rw[gsa];exact hv)) Tryz.underlying50 rfl (by rw[HB1.out];kernel_rfl) ?_;refine hK0 _ _ ?_;clear hK0;have hks:=fun_s HC.out q v px py S HPM.out HUX.out HUY.out (HPB.out.2 _ HPP.out) G.fs (all_ok HGV.out) (HCN.out.1.2 _ HPP.out) (HWD.out.2 _ HPP.out) HA.out;rw[<-HBD.out] at hks;have HKS:=h_ hks;clear hks;refine wpList_plain rfl fun K0 hK0=>?_
     go_simp
     refine (HKS.out).mono ?_;rintro e w5 ⟨rfl,⟨ev,hC⟩,hF⟩;replace HBe:=kF hF HBe;replace HBf:=kF hF HBf;replace HF:=h_ (HF.out.trans hF);replace HC:=h_ hC;replace HBg:=h_ hC.blk;clear hC hF;refine hK0 _ _ ?_;clear hK0;have HNX2:Hid (((fs.map Fd.q).take (j+1)).foldl (fun e f=>(kFun G.fs f e).er) sM.er=(kFun G.fs q sl.er).er):=HNX;go_wp2_with fail
     go_roundw
     case rel=>exact⟨j+1,ev,_,by go_num,hi,HNX2,HC,HBe⟩
     case measure=>simp[intOf];omega
    have hjj:j=fs.length:=by omega
    subst hjj;have hsl:=HSL.out;rw[List.take_of_length_le (by rw[List.length_map];exact Nat.le_refl _),HFS.out] at hsl;have HSL2:=h_ hsl;clear hsl;go_wp2_with fail
    have e:kProg p=sl.er:=by
     unfold kProg;simp only[HST2.out,HST3.out];rw[<-HSL2.out,HSM.out]
    exact bodyPost_end (results_none Tryz.results30 _ _ _) rfl ⟨rfl,ev,sl,Gv,HC.out,e.symm⟩
theorem check_s (w:World) (S:Nat->Prop) (vq vf:Value) (p:PgU) (hp:ProgAt w S vq vf p) (hb:PgB p) (hw:PgDp p) (hn:PgSz p) (hA:ArT w) :
  Calls Tryz.prog 15 #[.agg #[vq,vf]] w fun e w'=>∃ ev,e=.returned ev/\ErAt w' ev (kProg p)/\Below w.heap.size w w':=by
 have HP:=h_ hp;have HB:=h_ hb;have HW:=h_ hw;have HN:=h_ hn;have HA:=h_ hA;clear hp hb hw hn hA;go_enter Tryz.func15,Tryz.ntmps15
 go_upto_region 1 with fail
 obtain⟨w1,ke,hw,hkk,hb,hs1,HBe⟩:=newb w #[vq,vf] 26;rw[hw,<-hkk];have HB1:=h_ hb;have HKK:=h_ hkk;clear hw hkk hb hs1;go_wp2_with fail
 refine (newChecker_s w1).mono ?_;rintro e w2 ⟨kg,bf,bs,rfl,hC,hb⟩;have HC:=h_ hC;have HB2:=h_ hb;replace HBe:=kB (hb.mono (Nat.le_refl _)) HBe;clear hC hb;obtain⟨c0,c1⟩:=cl2 HBe.out;go_wp2_with fail
 refine (program_s HC.out rfl S vq vf p (HP.out.belowW HB1.out) HB.out HW.out HN.out (HA.out.below HB1.out)).mono ?_;rintro e w3 ⟨rfl,ev,s,Gv,hC,he⟩;clear c0 c1;have HC3:=h_ hC;have HE:=h_ he;clear hC he;have q3:=cell_at (v:=ev) HC3.out.blk 3 rfl;go_wp2_with fail
 go_ret
 exact⟨ev,rfl,by rw[<-HE.out];exact HC3.out.er,HB1.out.trans (HC3.out.bw.mono HB1.out.size)⟩
end Go.Proofs.YtkocdbgmckdcpaaGreatDoor
namespace Go.Proofs.YtkocdbgmckdcpaaGreatDoor
open Go.RowKit
set_option maxRecDepth 100000
set_option linter.unusedVariables false
theorem lexF_ne (l:Bs) (h0:¬ (lexS l (1,1)).2=0):∃ f,lexF l=some f:=by
 unfold lexF;rw[if_neg h0]
 cases h:(lexS l (1,1)).1.getLast? with
 | none=>rw[List.getLast?_eq_none_iff] at h;exact absurd h (lex_ne l (1,1))
 | some t=>exact⟨_,rfl⟩
theorem prog_told (l:Bs) (hl:l.length<=3000):∃ r:PgU × St,(lexF l=none->cProg 3001 24015 ⟨[],[]⟩ (st0 l)=some r)/\(pgF l r=none->PgB r.1/\PgDp r.1/\PgSz r.1):=by
 by_cases h0:(lexS l (1,1)).2=0
 ·have hgt:=gt_st0 l hl h0;have hlen:(st0 l).rest.length<=3001:=toks_mem hl;obtain⟨x,h1,hB,-⟩:=prog_c (m:=3001) (n:=24015) (p:=⟨[],[]⟩) hgt ⟨by simp,by simp⟩ hlen (by omega);have hd:=prog_ud (p:=⟨[],[]⟩) ⟨by simp,by simp⟩ h1;have hw:=prog_uw (p:=⟨[],[]⟩) ⟨by simp,by simp⟩ h1;have hn:=prog_cnt (d:=3002) (p:=⟨[],[]⟩) (by omega) ⟨by simp,by simp⟩ h1;have c1:24015+3<=1000000:=by omega
  have c2:24015*24015+1<=100000000000:=by omega
  refine⟨x,fun _=>h1,fun _=>⟨hB,?_,?_⟩⟩
  ·exact⟨fun q hq=>⟨Nat.le_trans (hw.1 q hq) c1,Nat.le_trans (hd.1 q hq) c2⟩,fun f hf=>⟨fun p hp=>⟨Nat.le_trans ((hw.2 f hf).1 p hp) c1,Nat.le_trans ((hd.2 f hf).1 p hp) c2⟩,⟨Nat.le_trans (hw.2 f hf).2.1 c1,Nat.le_trans (hd.2 f hf).2.1 c2⟩,Nat.le_trans (hw.2 f hf).2.2 c1,Nat.le_trans (hd.2 f hf).2.2 c2⟩⟩
  have h:=hn.2;simp only[lsn] at h;exact⟨⟨fun q hq=>Nat.le_trans (hn.1.1 q hq) (by omega),fun f hf=>Nat.le_trans (hn.1.2 f hf) (by omega)⟩,by omega,by omega⟩
 obtain⟨f,hf⟩:=lexF_ne l h0;refine⟨(⟨[],[]⟩,st0 l),fun h=>(by rw[hf] at h;cases h),fun h=>?_⟩;unfold pgF at h;rw[hf] at h
 cases h
end Go.Proofs.YtkocdbgmckdcpaaGreatDoor
namespace Go.Proofs.YtkocdbgmckdcpaaGreatDoor
open Go.RowKit Go.Extern.Stop Go.Stop Go.Extern
set_option maxRecDepth 100000
theorem gSize:Tryz.prog.globals.size=9:=by kernel_rfl
theorem as_valueOfP (t:Addr) (w:World):(ReflectliteValue.unpack (.iface 113 (.pointer (some t)))).run Tryz.prog w
  = .ok (.agg #[.pointer (some ⟨9,113,none⟩),.pointer (some ⟨w.heap.size,0,none⟩),.int .u64 150]) (w.alloc (.cells #[.pointer (some t)] 113)):=by kernel_rfl
theorem as_typeP (a : Addr) (w : World) : (ReflectliteValue.methodAny (ReflectliteValue.valueError "reflectlite.Value.Type" 0) (fun t _ _ _ => ReflectliteType.toType t) #[.agg #[.pointer (some ⟨9, 113, none⟩), .pointer (some a), .int .u64 150]]).run Tryz.prog w
  = .ok (.iface 181 (.agg #[.pointer (some ⟨9,113,none⟩)])) w:=by kernel_rfl
theorem as_methodKind (h : Value) (w : World) : (Go.method 385 181 (.agg #[h]) "Kind").run Tryz.prog w = .ok (203, h) w := by kernel_rfl
theorem as_kindP (w:World):((ReflectliteType.abiMethod fun t=>(fun a:Nat=>Value.int IntKind.u8 (a:Int)) <$> Rtype.kind t) #[.pointer (some ⟨9,113,none⟩)]).run Tryz.prog w=.ok (.int .u8 22) w:=by kernel_rfl
theorem as_kindA (w:World):((ReflectliteType.abiMethod fun t=>(fun a:Nat=>Value.int IntKind.u8 (a:Int)) <$> Rtype.kind t) #[.pointer (some ⟨9,111,none⟩)]).run Tryz.prog w=.ok (.int .u8 22) w:=by kernel_rfl
theorem rlm (z:Sem Value) (f:TypeId->Addr->Nat->Nat->Sem Value) (v:Value) :
  ReflectliteValue.method z f #[v]=(do match <- ReflectliteValue.parts v with | none=>z | some (t,a,fl)=>f t a fl (fl % 32)):=rfl
theorem as_partsP (a:Addr) (w:World):(ReflectliteValue.parts (.agg #[.pointer (some ⟨9,113,none⟩),.pointer (some a),.int .u64 150])).run Tryz.prog w=.ok (some (113,a,150)) w:=by kernel_rfl
theorem as_isNilP (a p:Addr) (W:World) (ha:W.cell? a=some (.pointer (some p))) :
  (ReflectliteValue.method (ReflectliteValue.valueError "reflectlite.Value.IsNil" 0) ReflectliteValue.isNil #[.agg #[.pointer (some ⟨9, 113, none⟩), .pointer (some a), .int .u64 150]]).run Tryz.prog W = .ok (.bool false) W := by
 rw[rlm];simp only[Sem.run_bind,as_partsP,Result.andThen]
 simp[ReflectliteValue.isNil,loadVar,isAgg,underlying,Tryz.underlying113,ha,Result.andThen]
theorem as_methodElem (h : Value) (w : World) : (Go.method 385 181 (.agg #[h]) "Elem").run Tryz.prog w = .ok (216, .agg #[h]) w := by kernel_rfl
theorem as_methodImplements (h : Value) (w : World) : (Go.method 385 181 (.agg #[h]) "Implements").run Tryz.prog w = .ok (217, .agg #[h]) w := by kernel_rfl
theorem as_methodAssignableTo (h : Value) (w : World) : (Go.method 385 181 (.agg #[h]) "AssignableTo").run Tryz.prog w = .ok (214, .agg #[h]) w := by kernel_rfl
theorem as_elem27 (w:World):(ReflectliteType.method ReflectliteType.elem #[.agg #[.pointer (some ⟨9,113,none⟩)]]).run Tryz.prog w=.ok (.iface 181 (.agg #[.pointer (some ⟨9,111,none⟩)])) w:=by kernel_rfl
theorem as_implementsA (w : World) : (ReflectliteType.relation "Implements" ReflectliteType.implements_ #[.agg #[.pointer (some ⟨9, 111, none⟩)], .iface 181 (.agg #[.pointer (some ⟨9, 28, none⟩)])]).run Tryz.prog w = .ok (.bool true) w := by kernel_rfl
theorem as_typeOfA (v:Value) (w:World):(ReflectliteType.typeOf #[.iface 111 v]).run Tryz.prog w=.ok (.iface 181 (.agg #[.pointer (some ⟨9,111,none⟩)])) w:=by kernel_rfl
theorem as_assignableA (w : World) : (ReflectliteType.relation "AssignableTo" ReflectliteType.assignableTo #[.agg #[.pointer (some ⟨9, 111, none⟩)], .iface 181 (.agg #[.pointer (some ⟨9, 111, none⟩)])]).run Tryz.prog w = .ok (.bool true) w := by kernel_rfl
theorem as_valueOfA (e:Addr) (w:World):(ReflectliteValue.unpack (.iface 111 (.pointer (some e)))).run Tryz.prog w
  = .ok (.agg #[.pointer (some ⟨9,111,none⟩),.pointer (some ⟨w.heap.size,0,none⟩),.int .u64 150]) (w.alloc (.cells #[.pointer (some e)] 111)):=by kernel_rfl
theorem as_elemOf27 (w:World):(Rtype.elem? 113).run Tryz.prog w=.ok (some 111) w:=by kernel_rfl
theorem as_mkA (p:Addr) (w:World):(ReflectliteValue.mk 111 p ReflectliteValue.flagAddr).run Tryz.prog w=.ok (.agg #[.pointer (some ⟨9,111,none⟩),.pointer (some p),.int .u64 406]) w:=by kernel_rfl
theorem as_elemV27 (a p:Addr) (W:World) (ha:W.cell? a=some (.pointer (some p))) :
  (ReflectliteValue.method (ReflectliteValue.valueError "reflectlite.Value.Elem" 0) ReflectliteValue.elem #[.agg #[.pointer (some ⟨9, 113, none⟩), .pointer (some a), .int .u64 150]]).run Tryz.prog W
   = .ok (.agg #[.pointer (some ⟨9,111,none⟩),.pointer (some p),.int .u64 406]) W:=by
 rw[rlm];simp only[Sem.run_bind,as_partsP,Result.andThen]
 simp[ReflectliteValue.elem,loadVar,isAgg,underlying,Tryz.underlying113,ha,Result.andThen,as_elemOf27,as_mkA]
theorem rls (v x:Value):ReflectliteValue.set #[v,x]=(do
  let (some (dst,a,fl),some (src,b,_)):=(<- ReflectliteValue.parts v,<-ReflectliteValue.parts x)
   | unsupported (.noEntry "extern/(internal/reflectlite.Value).Set.zeroValue")
  if fl / ReflectliteValue.flagAddr % 2 == 0 then unsupported (.noEntry "extern/(internal/reflectlite.Value).Set.unaddressable")
  let val <- loadVar src b
  if <- Rtype.directlyAssignable dst src then storeVar dst a val
  else if <- Rtype.implements dst src then
   if (<- Rtype.kind src)==20 then
    match val with
    | .nilIface => unsupported (.noEntry "extern/reflectlite: a nil value of one interface type handed on as a value of another")
    | _=>storeVar dst a val
   else storeVar dst a (.iface src val)
  else panicString ("reflectlite.Set: value of type " ++ (← Rtype.spelt src) ++ " is not assignable to type " ++ (← Rtype.spelt dst))
  pure (.tuple #[])):=rfl
theorem as_partsAa (a:Addr) (w:World):(ReflectliteValue.parts (.agg #[.pointer (some ⟨9,111,none⟩),.pointer (some a),.int .u64 406])).run Tryz.prog w=.ok (some (111,a,406)) w:=by kernel_rfl
theorem as_partsA (a:Addr) (w:World):(ReflectliteValue.parts (.agg #[.pointer (some ⟨9,111,none⟩),.pointer (some a),.int .u64 150])).run Tryz.prog w=.ok (some (111,a,150)) w:=by kernel_rfl
theorem as_directA (w:World):(Rtype.directlyAssignable 111 111).run Tryz.prog w=.ok true w:=by kernel_rfl
theorem as_setA (ta b e:Addr) (old:Value) (W:World) (hb:W.cell? b=some (.pointer (some e))) (ht:W.cell? ta=some old) (hf:W.frozen? ta=false) :
  (ReflectliteValue.set #[.agg #[.pointer (some ⟨9,111,none⟩),.pointer (some ta),.int .u64 406],.agg #[.pointer (some ⟨9,111,none⟩),.pointer (some b),.int .u64 150]]).run Tryz.prog W
   = .ok (.tuple #[]) (W.setCell ta (.pointer (some e))):=by
 rw[rls];simp only[Sem.run_bind,as_partsAa,as_partsA,Result.andThen]
 simp[ReflectliteValue.flagAddr,loadVar,isAgg,underlying,Tryz.underlying111,hb,Result.andThen,as_directA,storeVar,Value.cells,storeCells,Addr.add]
 rw[run_store Tryz.prog W ta _ _ (by rfl)]
 simp[ht,hf]
theorem as_hit (e t:Addr) (old:Value) (w:World) (hg:w.cell? ⟨0,0,none⟩=some (.iface 181 (.agg #[.pointer (some ⟨9,28,none⟩)]))) (ht0:w.cell? t=some old) (hf0:w.frozen? t=false) :
  Calls Tryz.prog 46 #[.iface 111 (.pointer (some e)),.iface 113 (.pointer (some t))] w fun ev w'=>ev=.returned (.bool true)/\w'=((((w.alloc (.cells #[.pointer (some t)] 113)).alloc (.cells #[.pointer (some ⟨9,113,none⟩),.pointer (some ⟨w.heap.size,0,none⟩),.int .u64 150] 145)).alloc (.cells #[.pointer (some ⟨9,113,none⟩),.pointer (some ⟨w.heap.size,0,none⟩),.int .u64 150] 145)).alloc (.cells #[.pointer (some e)] 111)).setCell t (.pointer (some e)):=by
 have h6 := @run_callFunc_extern Tryz.prog 76 _ (fun args => ReflectliteValue.unpack (args.getD 0 (.tuple #[]))) Tryz.func76 (by kernel_rfl) (by kernel_rfl) (by kernel_rfl) (by kernel_rfl);have h7 := @run_callFunc_extern Tryz.prog 77 _ (ReflectliteValue.methodAny (ReflectliteValue.valueError "reflectlite.Value.Type" 0) (fun t _ _ _ => ReflectliteType.toType t)) Tryz.func77 (by kernel_rfl) (by kernel_rfl) (by kernel_rfl) (by kernel_rfl);have h8 := @run_callFunc_extern Tryz.prog 78 _ (ReflectliteValue.method (ReflectliteValue.valueError "reflectlite.Value.IsNil" 0) ReflectliteValue.isNil) Tryz.func78 (by kernel_rfl) (by kernel_rfl) (by kernel_rfl) (by kernel_rfl);have h27 := @run_callFunc_extern Tryz.prog 203 _ (ReflectliteType.abiMethod fun t => do pure (.int .u8 (← Rtype.kind t))) Tryz.func203 (by kernel_rfl) (by kernel_rfl) (by kernel_rfl) (by kernel_rfl)
 have h37 := @run_callFunc_extern Tryz.prog 216 _ (ReflectliteType.method ReflectliteType.elem) Tryz.func216 (by kernel_rfl) (by kernel_rfl) (by kernel_rfl) (by kernel_rfl);have h38 := @run_callFunc_extern Tryz.prog 217 _ (ReflectliteType.relation "Implements" ReflectliteType.implements_) Tryz.func217 (by kernel_rfl) (by kernel_rfl) (by kernel_rfl) (by kernel_rfl);have h10 := @run_callFunc_extern Tryz.prog 80 _ ReflectliteType.typeOf Tryz.func80 (by kernel_rfl) (by kernel_rfl) (by kernel_rfl) (by kernel_rfl);have h35 := @run_callFunc_extern Tryz.prog 214 _ (ReflectliteType.relation "AssignableTo" ReflectliteType.assignableTo) Tryz.func214 (by kernel_rfl) (by kernel_rfl) (by kernel_rfl) (by kernel_rfl)
 have h11 := @run_callFunc_extern Tryz.prog 108 _ (ReflectliteValue.method (ReflectliteValue.valueError "reflectlite.Value.Elem" 0) ReflectliteValue.elem) Tryz.func108 (by kernel_rfl) (by kernel_rfl) (by kernel_rfl) (by kernel_rfl);have h12 := @run_callFunc_extern Tryz.prog 109 _ ReflectliteValue.set Tryz.func109 (by kernel_rfl) (by kernel_rfl) (by kernel_rfl) (by kernel_rfl);have tO := as_typeOfA;have mA := as_methodAssignableTo;have a25 := as_assignableA;have v25 := as_valueOfA;have f6 := as_valueOfP;have f7 := as_typeP;have mK := as_methodKind;have mE := as_methodElem;have mI := as_methodImplements;have k27 := as_kindP;have k25 := as_kindA;have e27 := as_elem27;have i25 := as_implementsA
 have n8:=as_isNilP ⟨w.heap.size,0,none⟩ t ((w.alloc (.cells #[.pointer (some t)] 113)).alloc (.cells #[.pointer (some ⟨9,113,none⟩),.pointer (some ⟨w.heap.size,0,none⟩),.int .u64 150] 145)) (by simp)
 have hlt:0<w.heap.size:=by
  rcases Nat.eq_zero_or_pos w.heap.size with h0 | h
  ·simp[World.cell?,h0] at hg
  exact h
 have hg2:((w.alloc (.cells #[.pointer (some t)] 113)).alloc (.cells #[.pointer (some ⟨9,113,none⟩),.pointer (some ⟨w.heap.size,0,none⟩),.int .u64 150] 145)).cell? ⟨0,0,none⟩=some (.iface 181 (.agg #[.pointer (some ⟨9,28,none⟩)])):=by
  rw[World.cell?_alloc_lt _ _ ⟨0,0,none⟩ (by simp),World.cell?_alloc_lt _ _ ⟨0,0,none⟩ hlt];exact hg
 have htl:t.block<w.heap.size:=by
  rcases Nat.lt_or_ge t.block w.heap.size with h | h
  ·exact h
  simp[World.cell?,Array.getElem?_eq_none h] at ht0
 have el:=as_elemV27 ⟨w.heap.size,0,none⟩ t (((w.alloc (.cells #[.pointer (some t)] 113)).alloc (.cells #[.pointer (some ⟨9,113,none⟩),.pointer (some ⟨w.heap.size,0,none⟩),.int .u64 150] 145)).alloc (.cells #[.pointer (some ⟨9,113,none⟩),.pointer (some ⟨w.heap.size,0,none⟩),.int .u64 150] 145)) (by rw[World.cell?_alloc_lt _ _ ⟨w.heap.size,0,none⟩ (by simp;omega)];simp)
 have st:=as_setA t ⟨w.heap.size+1+1+1,0,none⟩ e old ((((w.alloc (.cells #[.pointer (some t)] 113)).alloc (.cells #[.pointer (some ⟨9,113,none⟩),.pointer (some ⟨w.heap.size,0,none⟩),.int .u64 150] 145)).alloc (.cells #[.pointer (some ⟨9,113,none⟩),.pointer (some ⟨w.heap.size,0,none⟩),.int .u64 150] 145)).alloc (.cells #[.pointer (some e)] 111))
  (by rw[World.cell?_alloc_at _ _ _ _ (by simp)];rfl)
  (by rw[World.cell?_alloc_lt _ _ t (by simp;omega),World.cell?_alloc_lt _ _ t (by simp;omega),World.cell?_alloc_lt _ _ t (by simp;omega),World.cell?_alloc_lt _ _ t htl];exact ht0)
  (by rw[World.frozen?_alloc_old _ _ t (by simp;omega),World.frozen?_alloc_old _ _ t (by simp;omega),World.frozen?_alloc_old _ _ t (by simp;omega),World.frozen?_alloc_old _ _ t (Nat.ne_of_lt htl)];exact hf0)
 go_enter Tryz.func46,Tryz.ntmps46
 go_wp2
 refine wp_loop_rounds 1 ?_;rw[rounds_succ]
 go_wp2
 go_ret
 exact⟨rfl,rfl⟩
theorem is_typeOf (v:Value) (w:World):(Extern.ReflectliteType.typeOf #[.iface 77 v]).run Tryz.prog w=.ok (.iface 181 (.agg #[.pointer (some ⟨9,77,none⟩)])) w:=by kernel_rfl
def cmpEntry : Array Value → Sem Value := Extern.ReflectliteType.method fun t => do Extern.Rtype.noPackHeld "Comparable" t; pure (.bool (← typeInfo t).comparable)
theorem is_comparable (w:World):(cmpEntry #[.agg #[.pointer (some ⟨9,77,none⟩)]]).run Tryz.prog w=.ok (.bool true) w:=by kernel_rfl
theorem is_methodComparable (v : Value) (w : World) : (Go.method 385 181 v "Comparable").run Tryz.prog w = .ok (215, v) w := by kernel_rfl
theorem is_comp:(Tryz.prog.info? 77).map (·.comparable)=some true:=by kernel_rfl
theorem is_noIsA (v:Value) (xT:TypeId) (w:World):(Instr.typeAssert (.iface 111 v) xT 192 true).run Tryz.prog w=.ok (.tuple #[.nilIface,.bool false]) w:=run_typeAssert_lacksB Tryz.underlying192 (by kernel_rfl) (by kernel_rfl) v xT w
theorem is_hasUnwrapA (v:Value) (xT:TypeId) (w:World):(Instr.typeAssert (.iface 111 v) xT 188 true).run Tryz.prog w=.ok (.tuple #[.iface 111 v,.bool true]) w:=run_typeAssert_hasB Tryz.underlying188 (by kernel_rfl) v xT w
theorem is_methodUnwrap (v : Value) (w : World) : (Go.method 385 111 v "Unwrap").run Tryz.prog w = .ok (209, v) w := by kernel_rfl
theorem is_noIsE (v:Value) (xT:TypeId) (w:World):(Instr.typeAssert (.iface 77 v) xT 192 true).run Tryz.prog w=.ok (.tuple #[.nilIface,.bool false]) w:=run_typeAssert_lacksB Tryz.underlying192 (by kernel_rfl) (by kernel_rfl) v xT w
theorem is_noUnwrapE (v:Value) (xT:TypeId) (w:World):(Instr.typeAssert (.iface 77 v) xT 188 true).run Tryz.prog w=.ok (.tuple #[.nilIface,.bool false]) w:=run_typeAssert_lacksB Tryz.underlying188 (by kernel_rfl) (by kernel_rfl) v xT w
theorem is_noUnwrapsE (v:Value) (xT:TypeId) (w:World):(Instr.typeAssert (.iface 77 v) xT 189 true).run Tryz.prog w=.ok (.tuple #[.nilIface,.bool false]) w:=run_typeAssert_lacksB Tryz.underlying189 (by kernel_rfl) (by kernel_rfl) v xT w
theorem is_yes (q:Nat) (p:Nat × Nat) (c k:Int) (w:World) (hA:AtB w q p (.iface 77 (.int .i64 c))) (hck:(c==k)=true) :
  Calls Tryz.prog 47 #[.iface 111 (.pointer (some ⟨q,0,none⟩)),.iface 77 (.int .i64 k)] w fun e w'=>e=.returned (.bool true)/\w'=w:=by
 have h8:=@run_callFunc_extern Tryz.prog 80 _ Extern.ReflectliteType.typeOf Tryz.func80 (by kernel_rfl) (by kernel_rfl) (by kernel_rfl) (by kernel_rfl);have h32:=@run_callFunc_extern Tryz.prog 215 _ cmpEntry Tryz.func215 (by kernel_rfl) (by kernel_rfl) (by kernel_rfl) (by kernel_rfl);have tT:=is_typeOf;have cT:=is_comparable;have mR:=is_methodComparable;have nA:=is_noIsA;have uA:=is_hasUnwrapA;have mU:=is_methodUnwrap;have nE:=is_noIsE;have uE:=is_noUnwrapE;have vE:=is_noUnwrapsE;have heq:=Lib.run_eql_iface_int (P:=Tryz.prog) (k:=.i64) w c k Tryz.underlying28 is_comp Tryz.underlying77;rw[hck] at heq;have hty:=run_eql_iface_types (P:=Tryz.prog) 111 77 (.pointer (some ⟨q,0,none⟩)) (.int .i64 k) Tryz.underlying28 (by decide) w;have c2:=cell_at hA 2 rfl;clear hck;go_enter Tryz.func47,Tryz.ntmps47
 go_wp2
 refine wp_loop_rounds 2 ?_;rw[rounds_succ]
 go_wp2
 rw[rounds_succ]
 go_wp2
 go_ret
 exact⟨rfl,rfl⟩
theorem is_no (q:Nat) (p:Nat × Nat) (c k:Int) (w:World) (hA:AtB w q p (.iface 77 (.int .i64 c))) (hck:(c==k)=false) :
  Calls Tryz.prog 47 #[.iface 111 (.pointer (some ⟨q,0,none⟩)),.iface 77 (.int .i64 k)] w fun e w'=>e=.returned (.bool false)/\w'=w:=by
 have h8:=@run_callFunc_extern Tryz.prog 80 _ Extern.ReflectliteType.typeOf Tryz.func80 (by kernel_rfl) (by kernel_rfl) (by kernel_rfl) (by kernel_rfl);have h32:=@run_callFunc_extern Tryz.prog 215 _ cmpEntry Tryz.func215 (by kernel_rfl) (by kernel_rfl) (by kernel_rfl) (by kernel_rfl);have tT:=is_typeOf;have cT:=is_comparable;have mR:=is_methodComparable;have nA:=is_noIsA;have uA:=is_hasUnwrapA;have mU:=is_methodUnwrap;have nE:=is_noIsE;have uE:=is_noUnwrapE;have vE:=is_noUnwrapsE;have heq:=Lib.run_eql_iface_int (P:=Tryz.prog) (k:=.i64) w c k Tryz.underlying28 is_comp Tryz.underlying77;rw[hck] at heq;have hty:=run_eql_iface_types (P:=Tryz.prog) 111 77 (.pointer (some ⟨q,0,none⟩)) (.int .i64 k) Tryz.underlying28 (by decide) w;have c2:=cell_at hA 2 rfl;clear hck;go_enter Tryz.func47,Tryz.ntmps47
 go_wp2
 refine wp_loop_rounds 2 ?_;rw[rounds_succ]
 go_wp2
 rw[rounds_succ]
 go_wp2
 go_ret
 exact⟨rfl,rfl⟩
def ErrType (w:World):Prop:=w.cell? ⟨0,0,none⟩=some (.iface 181 (.agg #[.pointer (some ⟨9,28,none⟩)]))
theorem ErrType.lt {w:World} (h:ErrType w):0<w.heap.size:=by
 rcases Nat.eq_zero_or_pos w.heap.size with h0 | h'
 ·unfold ErrType at h;simp[World.cell?,h0] at h
 exact h'
theorem ErrType.below {w w':World} (h:ErrType w) (hb:Below w.heap.size w w'):ErrType w':=(hb.cell (p:=⟨0,0,none⟩) h.lt).trans h
theorem as_at (q t:Nat) (w:World) (hg:ErrType w) (ht:w.heap[t]?=some (.cells #[.pointer none] 111 (0,0))) :
  Calls Tryz.prog 46 #[.iface 111 (.pointer (some ⟨q,0,none⟩)),.iface 113 (.pointer (some ⟨t,0,none⟩))] w fun e w'=>e=.returned (.bool true)/\w'.heap[t]?=some (.cells #[.pointer (some ⟨q,0,none⟩)] 111 (0,0))/\w.grownBy w' (some t):=by
 refine (as_hit ⟨q,0,none⟩ ⟨t,0,none⟩ (.pointer none) w hg (cell_at ht 0 rfl) (froz_at ht 0)).mono ?_;rintro e w' ⟨rfl,rfl⟩;have hlt:=lt_of_block ht;refine⟨rfl,?_,?_⟩
 ·rw[heap_setCell_same _ t 0 _ _ _ (by rw[Below.heap_alloc _ _ _ (by simp;omega),Below.heap_alloc _ _ _ (by simp;omega),Below.heap_alloc _ _ _ (by simp;omega),Below.heap_alloc _ _ _ hlt];exact ht)]
  rfl
 exact grown_tr (grown_tr (grown_tr (grown_tr (alloc_grown _ _ _) (alloc_grown _ _ _)) (alloc_grown _ _ _)) (alloc_grown _ _ _)) (grown_set _ t 0 _)
theorem fault_one (q:Nat) (p:Nat × Nat) (w:World) (hg:ErrType w) (hA:AtB w q p (.iface 77 (.int .i64 1))) :
  Calls Tryz.prog 27 #[.iface 111 (.pointer (some ⟨q,0,none⟩))] w fun e w'=>e=.returned (.tuple #[.int .i64 1,.int .i64 (p.1:Nat),.int .i64 (p.2:Nat)])/\Below w.heap.size w w':=by
 have HG:=h_ hg;have HA:=h_ hA;clear hg hA;go_enter Tryz.func27,Tryz.ntmps27
 go_wp2_with fail
 refine (as_at q w.heap.size _ (HG.out.below ((Below.refl _ _).alloc (Nat.le_refl _) _)) (made_at w _ _ rfl)).mono ?_;rintro e w2 ⟨rfl,ht,hgr⟩
 have hA2:AtB w2 q p (.iface 77 (.int .i64 1)):=by
  have h:=HA.out;have hq:=lt_of_block h;unfold AtB at h ⊢;rw[hgr.block _ (by simp;omega) (fun e=>by injection e with e;omega),Below.heap_alloc _ _ _ hq];exact h
 have HB:Hid (Below w.heap.size w w2):=h_ (((Below.refl _ _).alloc (Nat.le_refl _) _).trans (grown_below hgr (by simp) (Nat.le_refl _)));have t0:=cell_at ht 0 rfl;have a0:=cell_at hA2 0 rfl;have a1:=cell_at hA2 1 rfl;have HA2:=h_ hA2;clear ht hgr hA2;go_wp2_with fail
 refine wp_loop_rounds 1 ?_;rw[rounds_succ];go_wp2_with fail
 refine (is_yes q p 1 1 w2 HA2.out rfl).mono ?_;rintro e wx ⟨rfl,hx⟩;obtain rfl:=hx.symm;clear hx;go_wp2_with fail
 go_quiet (fail)
 go_wp2
 go_ret3
 exact⟨rfl,HB.out.os,HB.out.tape,HB.out.output,HB.out.size,HB.out.block⟩
theorem fault_two (q:Nat) (p:Nat × Nat) (w:World) (hg:ErrType w) (hA:AtB w q p (.iface 77 (.int .i64 2))) :
  Calls Tryz.prog 27 #[.iface 111 (.pointer (some ⟨q,0,none⟩))] w fun e w'=>e=.returned (.tuple #[.int .i64 2,.int .i64 (p.1:Nat),.int .i64 (p.2:Nat)])/\Below w.heap.size w w':=by
 have HG:=h_ hg;have HA:=h_ hA;clear hg hA;go_enter Tryz.func27,Tryz.ntmps27
 go_wp2_with fail
 refine (as_at q w.heap.size _ (HG.out.below ((Below.refl _ _).alloc (Nat.le_refl _) _)) (made_at w _ _ rfl)).mono ?_;rintro e w2 ⟨rfl,ht,hgr⟩
 have hA2:AtB w2 q p (.iface 77 (.int .i64 2)):=by
  have h:=HA.out;have hq:=lt_of_block h;unfold AtB at h ⊢;rw[hgr.block _ (by simp;omega) (fun e=>by injection e with e;omega),Below.heap_alloc _ _ _ hq];exact h
 have HB:Hid (Below w.heap.size w w2):=h_ (((Below.refl _ _).alloc (Nat.le_refl _) _).trans (grown_below hgr (by simp) (Nat.le_refl _)));have t0:=cell_at ht 0 rfl;have a0:=cell_at hA2 0 rfl;have a1:=cell_at hA2 1 rfl;have HA2:=h_ hA2;clear ht hgr hA2;go_wp2_with fail
 refine wp_loop_rounds 2 ?_;rw[rounds_succ];go_wp2_with fail
 refine (is_no q p 2 1 w2 HA2.out rfl).mono ?_;rintro e wx ⟨rfl,hx⟩;obtain rfl:=hx.symm;clear hx;go_wp2_with fail
 rw[rounds_succ];go_wp2_with fail
 refine (is_yes q p 2 2 w2 HA2.out rfl).mono ?_;rintro e wx ⟨rfl,hx⟩;obtain rfl:=hx.symm;clear hx;go_wp2_with fail
 go_quiet (fail)
 go_wp2
 go_ret3
 exact⟨rfl,HB.out.os,HB.out.tape,HB.out.output,HB.out.size,HB.out.block⟩
set_option linter.unusedVariables false
theorem fault_n3 (q:Nat) (p:Nat × Nat) (w:World) (hg:ErrType w) (hA:AtB w q p (.iface 77 (.int .i64 3))) :
  Calls Tryz.prog 27 #[.iface 111 (.pointer (some ⟨q,0,none⟩))] w fun e w'=>e=.returned (.tuple #[.int .i64 3,.int .i64 (p.1:Nat),.int .i64 (p.2:Nat)])/\Below w.heap.size w w':=by
 have HG:=h_ hg;have HA:=h_ hA;clear hg hA;go_enter Tryz.func27,Tryz.ntmps27
 go_wp2_with fail
 refine (as_at q w.heap.size _ (HG.out.below ((Below.refl _ _).alloc (Nat.le_refl _) _)) (made_at w _ _ rfl)).mono ?_;rintro e w2 ⟨rfl,ht,hgr⟩
 have hA2:AtB w2 q p (.iface 77 (.int .i64 3)):=by
  have h:=HA.out;have hq:=lt_of_block h;unfold AtB at h ⊢;rw[hgr.block _ (by simp;omega) (fun e=>by injection e with e;omega),Below.heap_alloc _ _ _ hq];exact h
 have HB:Hid (Below w.heap.size w w2):=h_ (((Below.refl _ _).alloc (Nat.le_refl _) _).trans (grown_below hgr (by simp) (Nat.le_refl _)));have t0:=cell_at ht 0 rfl;have a0:=cell_at hA2 0 rfl;have a1:=cell_at hA2 1 rfl;have HA2:=h_ hA2;clear ht hgr hA2;go_wp2_with fail
 refine wp_loop_rounds 3 ?_;rw[rounds_succ];go_wp2_with fail
 refine (is_no q p 3 1 w2 HA2.out rfl).mono ?_;rintro e wx ⟨rfl,hx⟩;obtain rfl:=hx.symm;clear hx;go_wp2_with fail
 rw[rounds_succ];go_wp2_with fail
 refine (is_no q p 3 2 w2 HA2.out rfl).mono ?_;rintro e wx ⟨rfl,hx⟩;obtain rfl:=hx.symm;clear hx;go_wp2_with fail
 rw[rounds_succ];go_wp2_with fail
 refine (is_yes q p 3 3 w2 HA2.out rfl).mono ?_;rintro e wx ⟨rfl,hx⟩;obtain rfl:=hx.symm;clear hx;go_wp2_with fail
 go_quiet (fail)
 go_wp2
 go_ret3
 exact⟨rfl,HB.out.os,HB.out.tape,HB.out.output,HB.out.size,HB.out.block⟩
theorem fault_n4 (q:Nat) (p:Nat × Nat) (w:World) (hg:ErrType w) (hA:AtB w q p (.iface 77 (.int .i64 4))) :
  Calls Tryz.prog 27 #[.iface 111 (.pointer (some ⟨q,0,none⟩))] w fun e w'=>e=.returned (.tuple #[.int .i64 4,.int .i64 (p.1:Nat),.int .i64 (p.2:Nat)])/\Below w.heap.size w w':=by
 have HG:=h_ hg;have HA:=h_ hA;clear hg hA;go_enter Tryz.func27,Tryz.ntmps27
 go_wp2_with fail
 refine (as_at q w.heap.size _ (HG.out.below ((Below.refl _ _).alloc (Nat.le_refl _) _)) (made_at w _ _ rfl)).mono ?_;rintro e w2 ⟨rfl,ht,hgr⟩
 have hA2:AtB w2 q p (.iface 77 (.int .i64 4)):=by
  have h:=HA.out;have hq:=lt_of_block h;unfold AtB at h ⊢;rw[hgr.block _ (by simp;omega) (fun e=>by injection e with e;omega),Below.heap_alloc _ _ _ hq];exact h
 have HB:Hid (Below w.heap.size w w2):=h_ (((Below.refl _ _).alloc (Nat.le_refl _) _).trans (grown_below hgr (by simp) (Nat.le_refl _)));have t0:=cell_at ht 0 rfl;have a0:=cell_at hA2 0 rfl;have a1:=cell_at hA2 1 rfl;have HA2:=h_ hA2;clear ht hgr hA2;go_wp2_with fail
 refine wp_loop_rounds 4 ?_;rw[rounds_succ];go_wp2_with fail
 refine (is_no q p 4 1 w2 HA2.out rfl).mono ?_;rintro e wx ⟨rfl,hx⟩;obtain rfl:=hx.symm;clear hx;go_wp2_with fail
 rw[rounds_succ];go_wp2_with fail
 refine (is_no q p 4 2 w2 HA2.out rfl).mono ?_;rintro e wx ⟨rfl,hx⟩;obtain rfl:=hx.symm;clear hx;go_wp2_with fail
 rw[rounds_succ];go_wp2_with fail
 refine (is_no q p 4 3 w2 HA2.out rfl).mono ?_;rintro e wx ⟨rfl,hx⟩;obtain rfl:=hx.symm;clear hx;go_wp2_with fail
 rw[rounds_succ];go_wp2_with fail
 refine (is_yes q p 4 4 w2 HA2.out rfl).mono ?_;rintro e wx ⟨rfl,hx⟩;obtain rfl:=hx.symm;clear hx;go_wp2_with fail
 go_quiet (fail)
 go_wp2
 go_ret3
 exact⟨rfl,HB.out.os,HB.out.tape,HB.out.output,HB.out.size,HB.out.block⟩
theorem fault_n5 (q:Nat) (p:Nat × Nat) (w:World) (hg:ErrType w) (hA:AtB w q p (.iface 77 (.int .i64 5))) :
  Calls Tryz.prog 27 #[.iface 111 (.pointer (some ⟨q,0,none⟩))] w fun e w'=>e=.returned (.tuple #[.int .i64 5,.int .i64 (p.1:Nat),.int .i64 (p.2:Nat)])/\Below w.heap.size w w':=by
 have HG:=h_ hg;have HA:=h_ hA;clear hg hA;go_enter Tryz.func27,Tryz.ntmps27
 go_wp2_with fail
 refine (as_at q w.heap.size _ (HG.out.below ((Below.refl _ _).alloc (Nat.le_refl _) _)) (made_at w _ _ rfl)).mono ?_;rintro e w2 ⟨rfl,ht,hgr⟩
 have hA2:AtB w2 q p (.iface 77 (.int .i64 5)):=by
  have h:=HA.out;have hq:=lt_of_block h;unfold AtB at h ⊢;rw[hgr.block _ (by simp;omega) (fun e=>by injection e with e;omega),Below.heap_alloc _ _ _ hq];exact h
 have HB:Hid (Below w.heap.size w w2):=h_ (((Below.refl _ _).alloc (Nat.le_refl _) _).trans (grown_below hgr (by simp) (Nat.le_refl _)));have t0:=cell_at ht 0 rfl;have a0:=cell_at hA2 0 rfl;have a1:=cell_at hA2 1 rfl;have HA2:=h_ hA2;clear ht hgr hA2;go_wp2_with fail
 refine wp_loop_rounds 5 ?_;rw[rounds_succ];go_wp2_with fail
 refine (is_no q p 5 1 w2 HA2.out rfl).mono ?_;rintro e wx ⟨rfl,hx⟩;obtain rfl:=hx.symm;clear hx;go_wp2_with fail
 rw[rounds_succ];go_wp2_with fail
 refine (is_no q p 5 2 w2 HA2.out rfl).mono ?_;rintro e wx ⟨rfl,hx⟩;obtain rfl:=hx.symm;clear hx;go_wp2_with fail
 rw[rounds_succ];go_wp2_with fail
 refine (is_no q p 5 3 w2 HA2.out rfl).mono ?_;rintro e wx ⟨rfl,hx⟩;obtain rfl:=hx.symm;clear hx;go_wp2_with fail
 rw[rounds_succ];go_wp2_with fail
 refine (is_no q p 5 4 w2 HA2.out rfl).mono ?_;rintro e wx ⟨rfl,hx⟩;obtain rfl:=hx.symm;clear hx;go_wp2_with fail
 rw[rounds_succ];go_wp2_with fail
 refine (is_yes q p 5 5 w2 HA2.out rfl).mono ?_;rintro e wx ⟨rfl,hx⟩;obtain rfl:=hx.symm;clear hx;go_wp2_with fail
 go_quiet (fail)
 go_wp2
 go_ret3
 exact⟨rfl,HB.out.os,HB.out.tape,HB.out.output,HB.out.size,HB.out.block⟩
theorem fault_up (q:Nat) (p:Nat × Nat) (c:Nat) (h0:c≠0) (h5:c<=5) (w:World) (hg:ErrType w) (hA:AtB w q p (.iface 77 (.int .i64 (c:Nat)))) :
  Calls Tryz.prog 27 #[.iface 111 (.pointer (some ⟨q,0,none⟩))] w fun e w'=>e=.returned (.tuple #[.int .i64 (c:Nat),.int .i64 (p.1:Nat),.int .i64 (p.2:Nat)])/\Below w.heap.size w w':=by
 match c,h0,h5 with
 | 0,h0,_=>exact absurd rfl h0
 | 1,_,_=>exact fault_one q p w hg hA
 | 2,_,_=>exact fault_two q p w hg hA
 | 3,_,_=>exact fault_n3 q p w hg hA
 | 4,_,_=>exact fault_n4 q p w hg hA
 | 5,_,_=>exact fault_n5 q p w hg hA
 | c+6,_,h5=>exact absurd h5 (by omega)
end Go.Proofs.YtkocdbgmckdcpaaGreatDoor
namespace Go.Proofs.YtkocdbgmckdcpaaGreatDoor
open Go.RowKit
set_option maxRecDepth 1000000
set_option linter.unusedVariables false
def lexN:Nat->Bs->Nat × Nat->List Tok × Nat
 | 0,_,_=>([],9)
 | f+1,s,p =>
  match s.drop (gapL false s) with
  | []=>([⟨4,[],(adv p (s.take (gapL false s))).1,(adv p (s.take (gapL false s))).2⟩],0)
  | c::t =>
   match meas (c::t) with
   | .bad e=>([⟨4,[],(adv p (s.take (gapL false s))).1,(adv p (s.take (gapL false s))).2⟩],e)
   | .ok k n =>
    let q:=adv p (s.take (gapL false s))
    let r:=lexN f ((c::t).drop (n - 1+1)) (adv q ((c::t).take (n - 1+1)))
    (⟨k,(c::t).take n,q.1,q.2⟩::r.1,r.2)
theorem lexN_eq (f:Nat) (s:Bs) (p:Nat × Nat) (h:s.length<f):lexN f s p=lexS s p:=by
 induction f generalizing s p with
 | zero=>omega
 | succ f ih =>
  rw[lexS,lexN]
  cases hd:s.drop (gapL false s) with
  | nil=>simp
  | cons c t =>
   simp only[dif_neg (List.cons_ne_nil c t)]
   cases meas (c::t) with
   | bad e=>rfl
   | ok k n =>
    have hl:(c::t).length<=s.length:=by rw[<-hd,List.length_drop];omega
    simp only;rw[ih _ _ (by rw[List.length_drop];simp only[lsc] at hl ⊢;omega)]
def fitT:Bs:=[102,117,110,32,109,97,105,110,40,120,58,32,105,110,116,41,58,32,105,110,116,32,61,32,121]
def fitF:FnU:=⟨[109,97,105,110],[⟨[120],0,false,u0,1,10⟩],⟨[118],0,false,u0,1,19⟩,.node 3 [121] [] 0 1 25 [],1,5⟩
def fitR:PgU × St:=(⟨[],[fitF]⟩,⟨[⟨4,[],1,26⟩],none⟩)
theorem fit_lx:lexN 40 fitT (1,1)=([⟨3,[102,117,110],1,1⟩,⟨0,[109,97,105,110],1,5⟩,⟨2,[40],1,9⟩,⟨0,[120],1,10⟩,⟨2,[58],1,11⟩,⟨3,[105,110,116],1,13⟩,⟨2,[41],1,16⟩,⟨2,[58],1,17⟩,⟨3,[105,110,116],1,19⟩,⟨2,[61],1,23⟩,⟨0,[121],1,25⟩,⟨4,[],1,26⟩],0):=by kernel_rfl
theorem fit_c:cProg 3001 24015 ⟨[],[]⟩ ⟨[⟨3,[102,117,110],1,1⟩,⟨0,[109,97,105,110],1,5⟩,⟨2,[40],1,9⟩,⟨0,[120],1,10⟩,⟨2,[58],1,11⟩,⟨3,[105,110,116],1,13⟩,⟨2,[41],1,16⟩,⟨2,[58],1,17⟩,⟨3,[105,110,116],1,19⟩,⟨2,[61],1,23⟩,⟨0,[121],1,25⟩,⟨4,[],1,26⟩],none⟩=some fitR:=by kernel_rfl
theorem fit_st:st0 fitT=⟨[⟨3,[102,117,110],1,1⟩,⟨0,[109,97,105,110],1,5⟩,⟨2,[40],1,9⟩,⟨0,[120],1,10⟩,⟨2,[58],1,11⟩,⟨3,[105,110,116],1,13⟩,⟨2,[41],1,16⟩,⟨2,[58],1,17⟩,⟨3,[105,110,116],1,19⟩,⟨2,[61],1,23⟩,⟨0,[121],1,25⟩,⟨4,[],1,26⟩],none⟩:=by
 unfold st0;rw[<-lexN_eq 40 _ _ (by decide),fit_lx]
theorem fit_no:lexF fitT=none:=by
 unfold lexF;rw[<-lexN_eq 40 _ _ (by decide),fit_lx];rfl
theorem fit_pg:pgF fitT fitR=none:=by unfold pgF;rw[fit_no];decide
theorem fit_k:kProg fitR.1=some (3,1,25):=by kernel_rfl
theorem fit_b:PgB fitR.1/\PgDp fitR.1/\PgSz fitR.1:=by
 obtain⟨r,h1,h2⟩:=prog_told fitT (by decide);have h:=h1 fit_no;rw[fit_st,fit_c] at h;injection h with h;subst h;exact h2 fit_pg
theorem fault_er {w:World} {ev:Value} {f:Flt} (h:ErAt w ev (some f)) (h0:f.1≠0) (h5:f.1<=5) (hg:ErrType w):Calls Tryz.prog 27 #[ev] w fun e w'=>e=.returned (.tuple #[.int .i64 (f.1:Nat),.int .i64 (f.2.1:Nat),.int .i64 (f.2.2:Nat)])/\Below w.heap.size w w':=by
 obtain⟨q,rfl,hA⟩:=h;exact fault_up q (f.2.1,f.2.2) f.1 h0 h5 w hg hA
theorem fit_p (w:World) (hop:OpsAt w) (hg:ErrType w) (hA:ArT w):Calls Tryz.prog 10 #[] w fun e w'=>e=.returned (.bool true)/\Below w.heap.size w w':=by
 have HX:=h_ (parse_p 3001 24015 (by decide) fitT fitR w (by decide) hop (fun _=>by rw[fit_st];exact fit_c));have HG:=h_ hg;have HA:=h_ hA;clear hop hg hA;go_enter Tryz.func10,Tryz.ntmps10
 go_wp2_with fail
 refine HX.out.mono ?_;rintro e w1 ⟨hb,hcase⟩;rcases hcase with ⟨f,ev,hf,-,-⟩ | ⟨-,vq,vf,rfl,hp⟩
 ·rw[fit_pg] at hf;cases hf
 have HB:=h_ hb;have HP:=h_ hp;obtain⟨qs,fs,hqs,hfs,⟨qo,qc,rfl,-⟩,⟨fo,fc,rfl,-⟩⟩:=hp;have hq0:qs.length=0:=by have:=congrArg List.length hqs;simpa [fitR] using this
 have hf1:fs.length=1:=by have:=congrArg List.length hfs;simpa [fitR] using this
 rw[hq0,hf1] at HP;rw[hq0,hf1];clear hb hqs hfs hq0 hf1 HX;go_upto_region 2 with fail
 obtain⟨w2,kp,hw,hkk,hb,hs1,HBp⟩:=newb w1 #[.slice qo 0 qc,.slice fo 1 fc] 26;rw[hw,<-hkk];have HB1:=h_ hb;clear hw hkk hb hs1;obtain⟨c0,c1⟩:=cl2 HBp.out;go_wp2_with fail
 clear c0 c1;obtain⟨hb1,hb2,hb3⟩:=fit_b;refine (check_s w2 _ _ _ fitR.1 (HP.out.belowW HB1.out) hb1 hb2 hb3 (HA.out.below (HB.out.trans (HB1.out.mono HB.out.size)))).mono ?_;rintro e w3 ⟨ev,rfl,hev,hb⟩;have HB2:=h_ (HB.out.trans (HB1.out.mono HB.out.size));have HB3:=bw_ HB2 hb;rw[fit_k] at hev;have HEV:=h_ hev;clear hb hev hb1 hb2 hb3;go_wp2_with fail
 refine (fault_er HEV.out (by decide) (by decide) (HG.out.below HB3.out)).mono ?_;rintro e w4 ⟨rfl,hb⟩;have HB4:=bw_ HB3 hb;clear hb;go_wp2_with fail
 go_ret
 exact⟨rfl,HB4.out⟩
set_option linter.unusedSimpArgs false
structure GoodR (l:Bs) (r:PgU × St):Prop where
 len:l.length<=3000
 lex:lexF l=none
 prog:cProg 3001 24015 ⟨[],[]⟩ (st0 l)=some r
 noerr:pgF l r=none
 bd:PgB r.1
 dp:PgDp r.1
 sz:PgSz r.1
 ok:kProg r.1=none
def GoodPost (l:Bs) (w:World) (e:Ending) (w':World):Prop:=Below w.heap.size w w'/\(e=.returned (.tuple #[.agg #[.slice none 0 0,.slice none 0 0],.bool false])\/∃ r vq vf,GoodR l r/\e=.returned (.tuple #[.agg #[vq,vf],.bool true])/\ProgAt w' (fun b=>w.heap.size<=b) vq vf r.1)
theorem pgF_lex {l:Bs} {r:PgU × St} (h:pgF l r=none):lexF l=none:=by
 unfold pgF at h
 cases hl:lexF l with
 | none=>rfl
 | some f=>rw[hl] at h;cases h
theorem cells2 {w:World} {k:Nat} {a b:Value} {T:TypeId} (h:Hid (w.heap[k]?=some (.cells #[a,b] T (0,0)))):∀ j v,([a,b]:List Value)[j]?=some v->w.cell? ((⟨k,0,none⟩:Addr).add j)=some v:=fun j v hv=>by
 rw[add_lit,Nat.zero_add];exact cell_at h.out j (by rw[<-gsa] at hv;exact hv)
theorem good_long (l:Bs) (w:World) (hl:3000<l.length) (hm:l.length<=maxLen):Calls Tryz.prog 11 #[.string ⟨l.toArray⟩] w (GoodPost l w):=by
 have hsz:(⟨l.toArray⟩:ByteArray).size=l.length:=rfl;unfold maxLen at hm;go_enter Tryz.func11,Tryz.ntmps11
 go_upto_region 1 with fail
 obtain⟨w1,kr,hw,hkk,hb,hs1,HR⟩:=newb w #[.slice none 0 0,.slice none 0 0] 26;rw[hw,<-hkk];have hkr:w.heap.size<=kr:=by omega
 have HB:=h_ hb;clear hw hkk hb hs1;obtain⟨c0,c1⟩:=cl2 HR.out;obtain⟨f0,f1⟩:=fr2 HR.out;go_wp2_with fail
 obtain⟨w2,hw2⟩:∃ q,q=(w1.setCell ⟨kr,0,none⟩ (.slice none 0 0)).setCell ⟨kr,1,none⟩ (.slice none 0 0):=⟨_,rfl⟩
 rw[<-hw2];have HR2:=h_ (show w2.heap[kr]?=some (.cells #[.slice none 0 0,.slice none 0 0] 26 (0,0)) by rw[hw2];exact hset2 HR.out _ _);have hb2:Below w.heap.size w w2:=by rw[hw2];exact (HB.out.setCell (by simpa using hkr) _).setCell (by simpa using hkr) _
 refine bodyPost_ret (v:=.tuple #[.agg #[.slice none 0 0,.slice none 0 0],.bool false]) (res_cell2 Tryz.results11 (by rfl) [.slice none 0 0,.slice none 0 0] (cells2 HR2) Tryz.underlying26 rfl (by kernel_rfl)) rfl ?_;exact⟨hb2,.inl rfl⟩
theorem good_short (l:Bs) (w:World) (hl:l.length<=3000) (hop:OpsAt w) (hA:ArT w):Calls Tryz.prog 11 #[.string ⟨l.toArray⟩] w (GoodPost l w):=by
 have hsz:(⟨l.toArray⟩:ByteArray).size=l.length:=rfl;have hd3:decide ((3000:Int)<(l.length:Int))=false:=by simp;omega
 obtain⟨r,q1,q2⟩:=prog_told l hl;have HEX:Hid (∀ w',OpsAt w'->Calls Tryz.prog 7 #[.string ⟨l.toArray⟩] w' (PgPost l r w')):=h_ (fun w' ho=>parse_p 3001 24015 (by decide) l r w' (by omega) ho q1);have HQ1:=h_ q1;have HC:=h_ q2;have HO:=h_ hop;have HA:=h_ hA;have HL:=h_ hl;clear hop hA q1 q2;go_enter Tryz.func11,Tryz.ntmps11
 go_upto_region 1 with fail
 obtain⟨w1,kr,hw,hkk,hb,hs1,HR⟩:=newb w #[.slice none 0 0,.slice none 0 0] 26;rw[hw,<-hkk];have hkr:w.heap.size<=kr:=by omega
 have HB:=h_ hb;have hk1:kr<w1.heap.size:=by omega
 clear hw hkk hb hs1;go_wp2_with fail
 refine (HEX.out w1 (HO.out.below HB.out)).mono ?_;rintro e w2 ⟨hb,hp⟩;have HP:=h_ hp;replace HR:=kB hb HR;have HB2:=bw_ HB hb;have hs12:=HB.out.size;clear hb hp HEX hd3 hsz hl;rcases HP.out with ⟨f,ev,hf,rfl,q,rfl,hA⟩ | ⟨hn,vq,vf,rfl,hu⟩
 ·clear hA hf HP;go_upto_region 4 with fail
  obtain⟨w3,kb,hw,hkk,hb,hs1,HK3⟩:=newb w2 #[.slice none 0 0,.slice none 0 0] 26;rw[hw,<-hkk];have HB3:=bw_ HB2 hb;replace HR:=kB hb HR;clear hw hb hkk hs1;obtain⟨c0,c1⟩:=cl2 HR.out;obtain⟨f0,f1⟩:=fr2 HR.out;go_wp2_with fail
  obtain⟨w4,hw2⟩:∃ q,q=(w3.setCell ⟨kr,0,none⟩ (.slice none 0 0)).setCell ⟨kr,1,none⟩ (.slice none 0 0):=⟨_,rfl⟩
  rw[<-hw2];have HR2:=h_ (show w4.heap[kr]?=some (.cells #[.slice none 0 0,.slice none 0 0] 26 (0,0)) by rw[hw2];exact hset2 HR.out _ _);have hb2:Below w.heap.size w w4:=by rw[hw2];exact (HB3.out.setCell (by simpa using hkr) _).setCell (by simpa using hkr) _
  refine bodyPost_ret (v:=.tuple #[.agg #[.slice none 0 0,.slice none 0 0],.bool false]) (res_cell2 Tryz.results11 (by rfl) [.slice none 0 0,.slice none 0 0] (cells2 HR2) Tryz.underlying26 rfl (by kernel_rfl)) rfl ?_;exact⟨hb2,.inl rfl⟩
 obtain⟨hb1,hb2,hb3⟩:=HC.out hn;have HU:=h_ (hu.mono (S':=fun b=>w1.heap.size<=b) (fun b h=>h));have HB1:=h_ hb1;have HD1:=h_ hb2;have HS1:=h_ hb3;have HN:=h_ hn;obtain⟨qs,fs,hqs,hfs,⟨qo,qc,rfl,-⟩,⟨fo,fc,rfl,-⟩⟩:=hu;clear hn hb1 hb2 hb3 HP HC hqs hfs;go_upto_region 4 with fail
 obtain⟨w3,kb,hw,hkk,hb,hs1,HK3⟩:=newb w2 #[.slice qo qs.length qc,.slice fo fs.length fc] 26;rw[hw,<-hkk];have hrb:=lk_ hkk HR;have HB3:=bw_ HB2 hb;replace HR:=kB hb HR;replace HU:=h_ (HU.out.belowW hb);clear hw hb hkk hs1;obtain⟨c0,c1⟩:=cl2 HK3.out;go_wp2_with fail
 clear c0 c1;refine (check_s w3 _ _ _ r.1 HU.out HB1.out HD1.out HS1.out (HA.out.below HB3.out)).mono ?_;rintro e w4 ⟨ev,rfl,hev,hb⟩;replace HK3:=kB hb HK3;replace HR:=kB hb HR;replace HU:=h_ (HU.out.belowW hb);have HB4:=bw_ HB3 hb;clear hb;obtain⟨r0,r1⟩:=cl2 HR.out;obtain⟨f0,f1⟩:=fr2 HR.out
 cases hkp:kProg r.1 with
 | some f =>
  rw[hkp] at hev;obtain⟨q,rfl,-⟩:=hev;clear hkp;go_wp2_with fail
  obtain⟨w5,hw2⟩:∃ q,q=(w4.setCell ⟨kr,0,none⟩ (.slice none 0 0)).setCell ⟨kr,1,none⟩ (.slice none 0 0):=⟨_,rfl⟩
  rw[<-hw2];have HR2:=h_ (show w5.heap[kr]?=some (.cells #[.slice none 0 0,.slice none 0 0] 26 (0,0)) by rw[hw2];exact hset2 HR.out _ _);have hb2:Below w.heap.size w w5:=by rw[hw2];exact (HB4.out.setCell (by simpa using hkr) _).setCell (by simpa using hkr) _
  refine bodyPost_ret (v:=.tuple #[.agg #[.slice none 0 0,.slice none 0 0],.bool false]) (res_cell2 Tryz.results11 (by rfl) [.slice none 0 0,.slice none 0 0] (cells2 HR2) Tryz.underlying26 rfl (by kernel_rfl)) rfl ?_;exact⟨hb2,.inl rfl⟩
 | none =>
  rw[hkp] at hev;have hev2:ev=.nilIface:=hev;subst hev2;have HKP:=h_ hkp;clear hkp hev;obtain⟨c0,c1⟩:=cl2 HK3.out;go_wp2_with fail
  obtain⟨w5,hw2⟩:∃ q,q=(w4.setCell ⟨kr,0,none⟩ (.slice qo qs.length qc)).setCell ⟨kr,1,none⟩ (.slice fo fs.length fc):=⟨_,rfl⟩
  rw[<-hw2];have HR2:=h_ (show w5.heap[kr]?=some (.cells #[.slice qo qs.length qc,.slice fo fs.length fc] 26 (0,0)) by rw[hw2];exact hset2 HR.out _ _);have hb2:Below w.heap.size w w5:=by rw[hw2];exact (HB4.out.setCell (by simpa using hkr) _).setCell (by simpa using hkr) _
  have hg:w4.grownBy w5 (some kr):=by rw[hw2];exact grown_setCell (grown_setCell (World.grownBy.refl _ _) _) _
  refine bodyPost_ret (v:=.tuple #[.agg #[.slice qo qs.length qc,.slice fo fs.length fc],.bool true]) (res_cell2 Tryz.results11 (by rfl) [.slice qo qs.length qc,.slice fo fs.length fc] (cells2 HR2) Tryz.underlying26 rfl (by kernel_rfl)) rfl ?_;exact⟨hb2,.inr ⟨r,_,_,⟨HL.out,pgF_lex HN.out,HQ1.out (pgF_lex HN.out),HN.out,HB1.out,HD1.out,HS1.out,HKP.out⟩,rfl,(HU.out.grown hg (fun h=>by omega)).mono (fun b h=>Nat.le_trans hs12 h)⟩⟩
theorem good_p (l:Bs) (w:World) (hm:l.length<=maxLen) (hop:OpsAt w) (hA:ArT w):Calls Tryz.prog 11 #[.string ⟨l.toArray⟩] w (GoodPost l w):=by
 by_cases h:l.length<=3000
 ·exact good_short l w h hop hA
 exact good_long l w (by omega) hm
theorem ProgAt.lt {w:World} {S:Nat->Prop} {vq vf:Value} {p:PgU} (h:ProgAt w S vq vf p):ProgAt w (fun g=>S g/\g<w.heap.size) vq vf p:=by
 obtain⟨qs,fs,h1,h2,h3,h4⟩:=h;exact⟨qs,fs,h1,h2,h3.lt,h4.lt⟩
theorem flat_get {α β:Type} (f:α->List β) (l:List α) (j i:Nat) (h:j<l.length) (hi:i<(f l[j]).length):(l.flatMap f)[((l.take j).flatMap f).length+i]?=(f l[j])[i]?:=by
 have e:=List.take_append_drop j l;rw[List.drop_eq_getElem_cons h] at e
 have e2:l.flatMap f=(l.take j).flatMap f++(f l[j]++(l.drop (j+1)).flatMap f):=by
  conv=>lhs;rw[<-e]
  rw[List.flatMap_append,List.flatMap_cons]
 rw[e2,List.getElem?_append_right (by omega),Nat.add_sub_cancel_left,List.getElem?_append_left hi]
def cntF (fs:List Fd) (j:Nat):Nat:=((fs.take j).flatMap fun d=>asu (uPre d.q.body)).length
theorem kprog_main {p:PgU} (h:kProg p=none):hasMain p=true:=by
 rw[prog_t] at h;unfold fstF at h;rw[List.find?_eq_none] at h
 cases hm:hasMain p with
 | true=>rfl
 | false =>
  have:=h (5,1,1) (by unfold flts;rw[hm];simp)
  simp at this
theorem good_told {l:Bs} {r:PgU × St} (h:GoodR l r):(sitesU r.1).length<=1000000/\(∀ f ∈ r.1.fs,(asu (uPre f.body)).Pairwise pltU)/\(∀ f ∈ r.1.fs,(uPre f.body).length<=1000000)/\∀ f ∈ r.1.fs,∀ u ∈ asu (uPre f.body),1<=u.ln:=by
 have h1:=prog_asserts h.lex h.prog;have h3:(st0 l).rest.length<=3001:=toks_mem h.len
 have hz:(lexS l (1,1)).2=0:=by
  have h0:=h.lex;unfold lexF at h0
  split at h0
  ·assumption
  cases hg:(lexS l (1,1)).1.getLast? with
  | none=>rw[List.getLast?_eq_none_iff] at hg;exact absurd hg (lex_ne l (1,1))
  | some t=>rw[hg] at h0;cases h0
 have h4:=prog_cnt2 (N:=3001) (p:=⟨[],[]⟩) (good_e4 (lex_good l (1,1) hz)) h3 (fun f hf=>by cases hf) h.prog;exact⟨by omega,fun f hf=>(h1.1 f hf).1,fun f hf=>by have:=h4 f hf;omega,fun f hf=>(h1.1 f hf).2⟩
theorem scopeSites_walk (l:Bs) (w:World) (hm:l.length<=maxLen) (hop:OpsAt w) (hg:ErrType w) (hA:ArT w) :
  Calls Tryz.prog 4 #[.string ⟨l.toArray⟩] w fun e w'=>e=.returned (.bool true)/\Below w.heap.size w w':=by
 have HO:=h_ hop;have HG:=h_ hg;have HA:=h_ hA;have hm2:=hm;have HM:=h_ hm;clear hop hg hA hm hm2;go_enter Tryz.func4,Tryz.ntmps4
 go_wp2_with fail
 refine (fit_p w HO.out HG.out HA.out).mono ?_;rintro e w1 ⟨rfl,hb⟩;have HB:=h_ hb;clear hb;go_wp2_with fail
 refine (good_p l w1 HM.out (HO.out.below HB.out) (HA.out.below HB.out)).mono ?_;rintro e wg ⟨hb,rfl | ⟨r,vq,vf,hgd,rfl,hp⟩⟩
 ·replace HB:=h_ (HB.out.trans (hb.mono HB.out.size));clear hb;go_upto_region 4 with fail
  obtain⟨w11,kp,hw,hkk,hb,hs1,HBp⟩:=newb wg #[.slice none 0 0,.slice none 0 0] 26;rw[hw,<-hkk];replace HB:=h_ (HB.out.trans (hb.mono HB.out.size));clear hw hb hkk hs1;go_wp2_with fail
  go_ret
  exact⟨rfl,HB.out⟩
 obtain⟨g1,g2,g3,g4⟩:=good_told hgd;have hkm:=kprog_main hgd.ok;have HGD:=h_ hgd;have HP:=h_ hp.lt;have HB0:=bw_ HB hb;have HG1:=h_ g1;have HG2:=h_ g2;have HG3:=h_ g3;have HG4:=h_ g4;have HKM:=h_ hkm;have HWG:=h_ (Below.refl wg.heap.size wg);obtain⟨qs,fs,hqs,hfs,hatq,hat⟩:=hp.lt;obtain⟨qo,qc,hvq,-⟩:=hatq;obtain⟨ko,kc,hv,⟨hk1,hk2⟩,-,hel⟩:=hat;have HFS:=h_ hfs;have HEL:=h_ hel;subst hv hvq;have hkl:fs.length<=9223372036854775807:=Nat.le_trans hk1 hk2;obtain⟨S,hS⟩:∃ S:Nat->Prop,S=fun g=>w1.heap.size<=g/\g<wg.heap.size:=⟨_,rfl⟩
 have HSL:Hid (∀ g,S g->g<wg.heap.size):=h_ (fun g hg=>by rw[hS] at hg;exact hg.2);rw[<-hS] at HP HEL;clear hb hgd hp g1 g2 g3 g4 hkm hqs hfs hel hk1 hk2 hS;go_upto_region 4 with fail
 obtain⟨w11,kp,hw,hkk,hb,hs1,HBp⟩:=newb wg #[.slice qo qs.length qc,.slice ko fs.length kc] 26;rw[hw,<-hkk];replace HWG:=h_ (HWG.out.trans (hb.mono HWG.out.size));clear hw hb hkk hs1;obtain⟨c0,c1⟩:=cl2 HBp.out;go_wp2_with fail
 refine (sites_s w11 S _ _ r.1 (HP.out.belowW HWG.out) (fun g hg=>Nat.lt_of_lt_of_le (HSL.out g hg) HWG.out.size) HG1.out HG2.out HG3.out).mono ?_;rintro e wb ⟨hb,zo,zc,zs,rfl,hal,hzs⟩;clear c0 c1;replace HBp:=kB hb HBp;replace HWG:=h_ (HWG.out.trans (hb.mono HWG.out.size));have HAL:=h_ hal;have HZS:=h_ hzs;have HV:=h_ (Below.refl wb.heap.size wb);have HWB:=HWG;clear hal hzs hb;obtain⟨c0,c1⟩:=cl2 HBp.out;go_wp2_with fail
 clear c0 c1
 go_loopw [6,30] (fun n i wr=>∃ (j:Nat),n=.int .i64 ((cntF fs j:Nat):Int)/\i=.int .i64 (j:Nat)/\j<=fs.length/\Hid (Below wb.heap.size wb wr)) (fun _ i _=>fs.length - (intOf i).toNat)
 case atStart=>exact⟨0,rfl,rfl,Nat.zero_le _,HV⟩
 case round =>
  obtain⟨wl,hwl⟩:∃ q,q=wr:=⟨_,rfl⟩
  subst hwl;obtain⟨j,rfl,rfl,hj,HV⟩:=hrel;have HWG:=h_ (HWB.out.trans (HV.out.mono HWB.out.size))
  by_cases hi:j<fs.length
  ·obtain⟨hAt,hRj⟩:=HEL.out j hi;obtain⟨⟨q,v,px,py⟩,hqd⟩:∃ z,z=fs[j]:=⟨_,rfl⟩
   rw[<-hqd] at hAt hRj;obtain⟨hone,hux,huy,hpm⟩:=hRj;have hone2:v.oneCell'=true:=hone;have e25:fnE.f ⟨q,v,px,py⟩=fnC q v px py:=if_pos hone2;have hAt2:AtN 25 wg ko j (fnC q v px py):=by rw[<-e25];exact hAt
   obtain⟨B,hB⟩:∃ z,z=fnC q v px py:=⟨_,rfl⟩
   rw[<-hB] at hAt2;obtain⟨a,rfl,hc⟩:=hAt2;have hcb:∀ i u,B[i]?=some u->wl.cell? ((a.add (j*25)).add i)=some u:=fun i u hu=>by have:=hc i u hu;rw[HWG.out.cell (cell_lt this)];exact this
   have HCB:=h_ hcb;have HB1:Hid (B.length=25):=h_ (by rw[hB];rfl);have HB2:Hid (∀ u ∈ B,u.oneCell'=true):=h_ (by rw[hB];exact fnC_one hone2);have HBD:=h_ hB;have HQD:=h_ hqd;have HUX:=h_ (show Um wg S px q.res.ref from hux);have HUY:=h_ (show Um wg S py q.body from huy);have HPM:=h_ (show PmsAt wg S v q.ps from hpm);clear hAt hux huy hpm hone hone2 e25 hc hcb hB hqd;go_upto_region 10 with fail
   refine wp_region_lit ?_;refine wpList_plain rfl fun K0 hK0=>?_
   go_simp
   refine hK0 _ _ ?_;clear hK0;refine wpList_plain rfl fun K0 hK0=>?_
   refine wp_load_row 50 (.tmp 32) rfl _ rfl B _ HCB.out Tryz.underlying50 rfl (by rw[HB1.out];kernel_rfl) ?_;refine hK0 _ _ ?_;clear hK0;refine wpList_plain rfl fun K0 hK0=>?_
   go_simp
   refine hK0 _ _ ?_;clear hK0;refine wpList_plain rfl fun K0 hK0=>?_
   refine wp_store_row 50 (.tmp 8) (.tmp 33) rfl wl.heap.size B.toArray rfl rfl 50 _ (heap_alloc_last wl _) (by rw[List.size_toArray,HB1.out];kernel_rfl) (by rw[show B.toArray.size=25 from by rw[List.size_toArray];exact HB1.out];rfl) (by rw[List.all_toArray];exact List.all_eq_true.2 HB2.out) ?_;rw[World.setRow_alloc_new];refine hK0 _ _ ?_;clear hK0;go_upto_region 11 with fail
   obtain⟨w12,kf,hw,hkk,hb,hs1,HBf⟩:=newb wl B.toArray 50;rw[hw,<-hkk];replace HWG:=h_ (HWG.out.trans (hb.mono HWG.out.size));replace HV:=h_ (HV.out.trans (hb.mono HV.out.size));clear hw hb hkk hs1;have hb15:B.toArray[15]?=some (.int .i64 py.k):=by rw[HBD.out];rfl
   have hb16:B.toArray[16]?=some (.string py.nm):=by rw[HBD.out];rfl
   have hb17:B.toArray[17]?=some (.string py.ot):=by rw[HBD.out];rfl
   have hb18:B.toArray[18]?=some (.bool py.b):=by rw[HBD.out];rfl
   have hb19:B.toArray[19]?=some (.slice py.ao py.n py.c):=by rw[HBD.out];rfl
   have hb20:B.toArray[20]?=some (.slice py.ko py.kn py.kc):=by rw[HBD.out];rfl
   have hb21:B.toArray[21]?=some (.int .i64 py.ln):=by rw[HBD.out];rfl
   have hb22:B.toArray[22]?=some (.int .i64 py.cl):=by rw[HBD.out];rfl
   have q15:=cell_at (v:=.int .i64 py.k) HBf.out 15 hb15;have q16:=cell_at (v:=.string py.nm) HBf.out 16 hb16;have q17:=cell_at (v:=.string py.ot) HBf.out 17 hb17;have q18:=cell_at (v:=.bool py.b) HBf.out 18 hb18;have q19:=cell_at (v:=.slice py.ao py.n py.c) HBf.out 19 hb19;have q20:=cell_at (v:=.slice py.ko py.kn py.kc) HBf.out 20 hb20;have q21:=cell_at (v:=.int .i64 py.ln) HBf.out 21 hb21;have q22:=cell_at (v:=.int .i64 py.cl) HBf.out 22 hb22;clear hb15 hb16 hb17 hb18 hb19 hb20 hb21 hb22;have hmem:q ∈ r.1.fs:=by rw[<-HFS.out];exact List.mem_map.2 ⟨_,List.getElem_mem hi,by rw[<-HQD.out]⟩
   have HMEM:=h_ hmem;have hdq:ud q.body<=100000000000:=(HGD.out.dp.2 q hmem).2.2.2;have HDQ:=h_ hdq;have HNQ:=h_ (HG3.out q hmem);clear hmem hdq;obtain⟨n1,hn1⟩:∃ n,n=cntF fs j:=⟨_,rfl⟩
   obtain⟨n2,hn2⟩:∃ n,n=(asu (uPre q.body)).length:=⟨_,rfl⟩
   rw[<-hn1];have hsum:cntF fs (j+1)=n1+n2:=by rw[hn1,hn2];unfold cntF;rw[flat_take (fun d:Fd=>asu (uPre d.q.body)) fs j hi,lsa,<-HQD.out]
   have hle:cntF fs (j+1)<=(fs.flatMap (fun d:Fd=>asu (uPre d.q.body))).length:=flat_take_le (fun d:Fd=>asu (uPre d.q.body)) fs (j+1);have hall:(fs.flatMap (fun d:Fd=>asu (uPre d.q.body))).length<=1000000:=by have:=HG1.out;unfold sitesU at this;rw[<-HFS.out,List.flatMap_map] at this;exact this
   have h12:n1+n2<=1000000:=by omega
   have HSUM:=h_ hsum;have HN2:=h_ hn2;clear hsum hle hall hn1 hn2;go_wp2_with fail
   refine (law_asserts_p 100000000000 (by decide) py q.body _ S (HUY.out.below HWG.out) HDQ.out HNQ.out).mono ?_;rintro e w20 ⟨rfl,hb⟩;rw[<-HN2.out];clear q15 q16 q17 q18 q19 q20 q21 q22;replace HBf:=kB hb HBf;replace HWG:=h_ (HWG.out.trans (hb.mono HWG.out.size));replace HV:=h_ (HV.out.trans (hb.mono HV.out.size));clear hb;go_wp2_with fail
   go_roundw
   case rel=>exact⟨j+1,by rw[HSUM.out];go_num,by go_num,hi,HV⟩
   case measure=>simp[intOf];omega
  have hjj:j=fs.length:=by omega
  have HJ:=h_ hjj;clear hjj;have hnt:cntF fs j=zs.length:=by rw[HAL.out.1];unfold cntF sitesU;rw[HJ.out,List.take_length,<-HFS.out,List.flatMap_map]
  rw[hnt];clear hnt HJ;have hzl:zs.length<=1000000:=by rw[HAL.out.1];exact HG1.out
  have HBq:=h_ ((HV.out.block kp (lt_of_block HBp.out)).trans HBp.out);obtain⟨c0,c1⟩:=cl2 HBq.out;go_wp2_with fail
  clear c0 c1
  go_loopw [9,43] (fun n i wr=>∃ (j:Nat),n=.int .i64 ((cntF fs j:Nat):Int)/\i=.int .i64 (j:Nat)/\j<=fs.length/\Hid (Below wb.heap.size wb wr)) (fun _ i _=>fs.length - (intOf i).toNat)
  case atStart=>exact⟨0,rfl,rfl,Nat.zero_le _,HV⟩
  case round =>
   clear HV HWG HBq;obtain⟨wm,hwl⟩:∃ q,q=wr:=⟨_,rfl⟩
   subst hwl;obtain⟨j,rfl,rfl,hj,HV⟩:=hrel;have HWG:=h_ (HWB.out.trans (HV.out.mono HWB.out.size))
   by_cases hi:j<fs.length
   ·obtain⟨hAt,hRj⟩:=HEL.out j hi;obtain⟨⟨q,v,px,py⟩,hqd⟩:∃ z,z=fs[j]:=⟨_,rfl⟩
    rw[<-hqd] at hAt hRj;obtain⟨hone,hux,huy,hpm⟩:=hRj;have hone2:v.oneCell'=true:=hone;have e25:fnE.f ⟨q,v,px,py⟩=fnC q v px py:=if_pos hone2;have hAt2:AtN 25 wg ko j (fnC q v px py):=by rw[<-e25];exact hAt
    obtain⟨B,hB⟩:∃ z,z=fnC q v px py:=⟨_,rfl⟩
    rw[<-hB] at hAt2;obtain⟨a,rfl,hc⟩:=hAt2;have hcb:∀ i u,B[i]?=some u->wm.cell? ((a.add (j*25)).add i)=some u:=fun i u hu=>by have:=hc i u hu;rw[HWG.out.cell (cell_lt this)];exact this
    have HCB:=h_ hcb;have HB1:Hid (B.length=25):=h_ (by rw[hB];rfl);have HB2:Hid (∀ u ∈ B,u.oneCell'=true):=h_ (by rw[hB];exact fnC_one hone2);have HBD:=h_ hB;have HQD:=h_ hqd;have HUX:=h_ (show Um wg S px q.res.ref from hux);have HUY:=h_ (show Um wg S py q.body from huy);have HPM:=h_ (show PmsAt wg S v q.ps from hpm);clear hAt hux huy hpm hone hone2 e25 hc hcb hB hqd;go_upto_region 16 with fail
    refine wp_region_lit ?_;refine wpList_plain rfl fun K0 hK0=>?_
    go_simp
    refine hK0 _ _ ?_;clear hK0;refine wpList_plain rfl fun K0 hK0=>?_
    refine wp_load_row 50 (.tmp 45) rfl _ rfl B _ HCB.out Tryz.underlying50 rfl (by rw[HB1.out];kernel_rfl) ?_;refine hK0 _ _ ?_;clear hK0;refine wpList_plain rfl fun K0 hK0=>?_
    go_simp
    refine hK0 _ _ ?_;clear hK0;refine wpList_plain rfl fun K0 hK0=>?_
    refine wp_store_row 50 (.tmp 11) (.tmp 46) rfl wm.heap.size B.toArray rfl rfl 50 _ (heap_alloc_last wm _) (by rw[List.size_toArray,HB1.out];kernel_rfl) (by rw[show B.toArray.size=25 from by rw[List.size_toArray];exact HB1.out];rfl) (by rw[List.all_toArray];exact List.all_eq_true.2 HB2.out) ?_;rw[World.setRow_alloc_new];refine hK0 _ _ ?_;clear hK0;go_upto_region 17 with fail
    obtain⟨w12,kg,hw,hkk,hb,hs1,HBg⟩:=newb wm B.toArray 50;rw[hw,<-hkk];replace HWG:=h_ (HWG.out.trans (hb.mono HWG.out.size));replace HV:=h_ (HV.out.trans (hb.mono HV.out.size));clear hw hb hkk hs1;have hb15:B.toArray[15]?=some (.int .i64 py.k):=by rw[HBD.out];rfl
    have hb16:B.toArray[16]?=some (.string py.nm):=by rw[HBD.out];rfl
    have hb17:B.toArray[17]?=some (.string py.ot):=by rw[HBD.out];rfl
    have hb18:B.toArray[18]?=some (.bool py.b):=by rw[HBD.out];rfl
    have hb19:B.toArray[19]?=some (.slice py.ao py.n py.c):=by rw[HBD.out];rfl
    have hb20:B.toArray[20]?=some (.slice py.ko py.kn py.kc):=by rw[HBD.out];rfl
    have hb21:B.toArray[21]?=some (.int .i64 py.ln):=by rw[HBD.out];rfl
    have hb22:B.toArray[22]?=some (.int .i64 py.cl):=by rw[HBD.out];rfl
    have q15:=cell_at (v:=.int .i64 py.k) HBg.out 15 hb15;have q16:=cell_at (v:=.string py.nm) HBg.out 16 hb16;have q17:=cell_at (v:=.string py.ot) HBg.out 17 hb17;have q18:=cell_at (v:=.bool py.b) HBg.out 18 hb18;have q19:=cell_at (v:=.slice py.ao py.n py.c) HBg.out 19 hb19;have q20:=cell_at (v:=.slice py.ko py.kn py.kc) HBg.out 20 hb20;have q21:=cell_at (v:=.int .i64 py.ln) HBg.out 21 hb21;have q22:=cell_at (v:=.int .i64 py.cl) HBg.out 22 hb22;clear hb15 hb16 hb17 hb18 hb19 hb20 hb21 hb22;have hmem:q ∈ r.1.fs:=by rw[<-HFS.out];exact List.mem_map.2 ⟨_,List.getElem_mem hi,by rw[<-HQD.out]⟩
    have HMEM:=h_ hmem;have hdq:ud q.body<=100000000000:=(HGD.out.dp.2 q hmem).2.2.2;have HDQ:=h_ hdq;have HNQ:=h_ (HG3.out q hmem);clear hmem hdq;obtain⟨n1,hn1⟩:∃ n,n=cntF fs j:=⟨_,rfl⟩
    obtain⟨n2,hn2⟩:∃ n,n=(asu (uPre q.body)).length:=⟨_,rfl⟩
    rw[<-hn1];have hsum:cntF fs (j+1)=n1+n2:=by rw[hn1,hn2];unfold cntF;rw[flat_take (fun d:Fd=>asu (uPre d.q.body)) fs j hi,lsa,<-HQD.out]
    have hle:cntF fs (j+1)<=(fs.flatMap (fun d:Fd=>asu (uPre d.q.body))).length:=flat_take_le (fun d:Fd=>asu (uPre d.q.body)) fs (j+1);have hall:(fs.flatMap (fun d:Fd=>asu (uPre d.q.body))).length=zs.length:=by rw[HAL.out.1];unfold sitesU;rw[<-HFS.out,List.flatMap_map]
    have h12:n1+n2<=zs.length:=by omega
    have hfj:asu (uPre fs[j].q.body)=asu (uPre q.body):=by rw[<-HQD.out]
    have HGET:Hid (∀ i (h:i<n2) (hz:n1+i<zs.length),∃ u,(asu (uPre q.body))[i]?=some u/\Um wb S zs[n1+i] u):=h_ (fun i h hz=>by
     have e:=flat_get (fun d:Fd=>asu (uPre d.q.body)) fs j i hi (by rw[hfj,<-hn2];exact h);have e0:((fs.take j).flatMap (fun d:Fd=>asu (uPre d.q.body))).length=n1:=by rw[hn1];rfl
     rw[e0,hfj] at e;have hsu:n1+i<(sitesU r.1).length:=by rw[<-HAL.out.1];exact hz
     have hu:=HAL.out.2 (n1+i) hz hsu;have e2:(sitesU r.1)[n1+i]?=some (sitesU r.1)[n1+i]:=List.getElem?_eq_getElem hsu;have e3:sitesU r.1=fs.flatMap (fun d:Fd=>asu (uPre d.q.body)):=by unfold sitesU;rw[<-HFS.out,List.flatMap_map]
     refine⟨_,?_,hu⟩;rw[<-e,<-e3]
     exact e2)
    clear hfj;have HSUM:=h_ hsum;have HN2:=h_ hn2;clear hsum hle hall hn1 hn2;go_wp2_with fail
    refine (law_asserts_p 100000000000 (by decide) py q.body _ S (HUY.out.below HWG.out) HDQ.out HNQ.out).mono ?_;rintro e w30 ⟨rfl,hb⟩;rw[<-HN2.out];clear q15 q16 q17 q18 q19 q20 q21 q22;replace HBg:=kB hb HBg;replace HWG:=h_ (HWG.out.trans (hb.mono HWG.out.size));replace HV:=h_ (HV.out.trans (hb.mono HV.out.size));clear hb;go_wp2_with fail
    go_loopw [9,12,13,50] (fun s a b i wr=>∃ (ii nn:Nat) (za zb:Int),s=.int .i64 (nn:Nat)/\a=.int .i64 za/\b=.int .i64 zb/\i=.int .i64 (ii:Nat)/\ii<=n2/\Hid (nn=n1+ii)/\Hid (∀ (h:ii<n2) (hz:n1+ii<zs.length),za<(zs[n1+ii]).ln\/za=(zs[n1+ii]).ln/\zb<(zs[n1+ii]).cl)/\Hid (Below wb.heap.size wb wr)) (fun _ _ _ i _=>n2 - (intOf i).toNat)
    case atStart=>exact⟨0,n1,0,0,rfl,rfl,rfl,rfl,Nat.zero_le _,h_ rfl,h_ (fun h hz=>.inl (by
     obtain⟨u,hu,hum⟩:=HGET.out 0 h hz;have h2:=hum.ks.2.1;have h1:=HG4.out q HMEM.out u (List.mem_of_getElem? hu)
     omega)),HV⟩
    case round =>
     clear HV HWG;obtain⟨wn,hwl⟩:∃ q,q=wr:=⟨_,rfl⟩
     subst hwl;obtain⟨ii,nn,za,zb,rfl,rfl,rfl,rfl,hii,HNN,HNX,HV⟩:=hrel;have HWG:=h_ (HWB.out.trans (HV.out.mono HWB.out.size))
     by_cases hlt:ii<n2
     ·have hnz:nn<zs.length:=by have:=HNN.out;omega
      have hnx:=HNX.out hlt (by have:=HNN.out;omega);obtain⟨u,hu,hum⟩:=HGET.out ii hlt (by have:=HNN.out;omega);obtain⟨y,hy⟩:∃ y,y=zs[nn]'hnz:=⟨_,rfl⟩
      have hyy:zs[n1+ii]'(by have:=HNN.out;omega)=y:=by rw[hy];congr 1;exact HNN.out.symm
      rw[hyy] at hnx hum;obtain⟨ad,hzo,hcz⟩:=HZS.out nn hnz;subst hzo;rw[<-hy] at hcz;have HCY:Hid (∀ j v,(xc y)[j]?=some v->wn.cell? ((ad.add (nn*8)).add j)=some v):=h_ (fun j v hv=>by rw[HV.out.cell (cell_lt (hcz j v hv))];exact hcz j v hv);have hks:=hum.ks
      have hk28:u.k=28:=by
       have:=List.mem_of_getElem? hu;unfold asu at this
       simpa using (List.mem_filter.1 this).2
      have hyk:(y.k != 28)=false:=by rw[hks.1,hk28];rfl
      have HNXT:Hid (∀ (h:ii+1<n2) (hz:n1+(ii+1)<zs.length),y.ln<(zs[n1+(ii+1)]).ln\/y.ln=(zs[n1+(ii+1)]).ln/\y.cl<(zs[n1+(ii+1)]).cl):=h_ (fun h hz=>by
       obtain⟨u2,hu2,hum2⟩:=HGET.out (ii+1) h hz;obtain⟨a1,a2⟩:=List.getElem?_eq_some_iff.1 hu;obtain⟨b1,b2⟩:=List.getElem?_eq_some_iff.1 hu2;have hp:=List.pairwise_iff_getElem.1 (HG2.out q HMEM.out) ii (ii+1) a1 b1 (by omega);rw[a2,b2] at hp;have hk2:=hum2.ks;unfold pltU at hp;rw[hks.2.1,hks.2.2,hk2.2.1,hk2.2.2]
       omega)
      have HNY:=h_ hnx;have hI:(nn:Int)<((zs.length:Nat):Int):=by omega
      clear hu hum hks hk28 hcz hy hyy hnx;obtain⟨z0,z1,z2,z3,z4,z5,z6,z7⟩:=cells8 HCY.out;have hge:¬ (((zs.length:Nat):Int)<=(nn:Int)):=by omega
      by_cases hln:za<y.ln
      ·have g1:¬ (y.ln<za):=by omega
       have g2:(y.ln==za)=false:=by simp;omega
       go_upto_region 22 with fail
       refine R7.r0 [[],[],[0,1],[0,1,2],[0,1,2,3],[],[],[5,6],[5,6,7],[5,6,7,8],[0,1,2,3,4],[0,1,2,3,4,5,6,7,8,9,10]] 12 ?_;refine R7.cd ?_ (fun T xs wr hA=>?_) ?_
       rotate_left
       ·have e5:=hA.pq 5;simp only[gsa,gsc,gsz] at e5;clear hA;go_simp<;>(try with_reducible rfl)
       refine R7.cd ?_ (fun T xs wr hA=>?_) ?_
       rotate_left
       ·have e9:=hA.pq 9;simp only[gsa,gsc,gsz] at e9;clear hA;go_simp<;>(try with_reducible rfl)
       refine R7.cd ?_ (fun T xs wr hA=>?_) ?_
       rotate_left
       ·have e91:=tr_ (hA.tq 0 91) (hA.fq 0);have e92:=tr_ (hA.tq 1 92) (hA.fq 1)
        (try simp (disch:=decide) only [R7.mi] at e91 e92)
        clear hA;go_simp<;>(try with_reducible rfl)
       refine R7.cd ?_ (fun T xs wr hA=>?_) ?_
       rotate_left
       ·have e93:=tr_ (hA.tq 2 93) (hA.fq 2)
        (try simp (disch:=decide) only [R7.mi] at e93)
        clear hA;go_simp<;>(try with_reducible rfl)
       refine R7.cd ?_ (fun T xs wr hA=>?_) ?_
       rotate_left
       ·have e94:=tr_ (hA.tq 3 94) (hA.fq 3)
        (try simp (disch:=decide) only [R7.mi] at e94)
        have hbw:=undrew (hA.be wn.heap.size (Nat.le_refl _) (fun q h=>absurd h (Nat.not_lt_zero _)));obtain⟨d0,d1,d2,d3,d4,d5,d6,d7⟩:=cells8 (w:=wr) (p:=ad.add (nn*8)) (y:=y) (fun j v hv=>by rw[hbw.cell (cell_lt (HCY.out j v hv))];exact HCY.out j v hv);clear hbw;clear hA;go_simp<;>(try with_reducible rfl)
       refine R7.cd ?_ (fun T xs wr hA=>?_) ?_
       rotate_left
       ·have e5:=hA.pq 5;simp only[gsa,gsc,gsz] at e5;clear hA;go_simp<;>(try with_reducible rfl)
       refine R7.cd ?_ (fun T xs wr hA=>?_) ?_
       rotate_left
       ·have e9:=hA.pq 9;simp only[gsa,gsc,gsz] at e9;clear hA;go_simp<;>(try with_reducible rfl)
       refine R7.cd ?_ (fun T xs wr hA=>?_) ?_
       rotate_left
       ·have e96:=tr_ (hA.tq 5 96) (hA.fq 5);have e97:=tr_ (hA.tq 6 97) (hA.fq 6)
        (try simp (disch:=decide) only [R7.mi] at e96 e97)
        clear hA;go_simp<;>(try with_reducible rfl)
       refine R7.cd ?_ (fun T xs wr hA=>?_) ?_
       rotate_left
       ·have e98:=tr_ (hA.tq 7 98) (hA.fq 7)
        (try simp (disch:=decide) only [R7.mi] at e98)
        clear hA;go_simp<;>(try with_reducible rfl)
       refine R7.cd ?_ (fun T xs wr hA=>?_) ?_
       rotate_left
       ·have e99:=tr_ (hA.tq 8 99) (hA.fq 8)
        (try simp (disch:=decide) only [R7.mi] at e99)
        have hbw:=undrew (hA.be wn.heap.size (Nat.le_refl _) (fun q h=>absurd h (Nat.not_lt_zero _)));obtain⟨d0,d1,d2,d3,d4,d5,d6,d7⟩:=cells8 (w:=wr) (p:=ad.add (nn*8)) (y:=y) (fun j v hv=>by rw[hbw.cell (cell_lt (HCY.out j v hv))];exact HCY.out j v hv);clear hbw;clear hA;go_simp<;>(try with_reducible rfl)
       refine R7.cd ?_ (fun T xs wr hA=>?_) ?_
       rotate_left
       ·have e95:=tr_ (hA.tq 4 95) (hA.fq 4)
        (try simp (disch:=decide) only [R7.mi] at e95)
        clear hA;go_simp<;>(try with_reducible rfl)
       refine R7.cd ?_ (fun T xs wr hA=>?_) ?_
       rotate_left
       ·have e100:=tr_ (hA.tq 9 100) (hA.fq 9)
        (try simp (disch:=decide) only [R7.mi] at e100)
        clear hA;go_simp<;>(try with_reducible rfl)
       refine R7.Chain.done (fun xs w13 hL=>?_);obtain⟨⟨hbe,hbl⟩,hf,-,-⟩:=hL;have f0:xs 0=_:=hf 0 (by decide);have f1:xs 1=_:=hf 1 (by decide);have f2:xs 2=_:=hf 2 (by decide);have f3:xs 3=_:=hf 3 (by decide);have f4:xs 4=_:=hf 4 (by decide);have f5:xs 5=_:=hf 5 (by decide);have f6:xs 6=_:=hf 6 (by decide);have f7:xs 7=_:=hf 7 (by decide);have f8:xs 8=_:=hf 8 (by decide);have f9:xs 9=_:=hf 9 (by decide);have f10:xs 10=_:=hf 10 (by decide);have f11:xs 11=_:=hf 11 (by decide)
       (try simp (disch:=decide) only [R7.mi] at f0 f1 f2 f3 f4 f5 f6 f7 f8 f9 f10 f11)
       have hb:Below wn.heap.size wn w13:=R7.b0_ hbe;clear hbe hbl hf;refine R7.rest_done ?_;simp only[R7.fill,t5_,t6_,t7_,f0,f1,f2,f3,f4,f5,f6,f7,f8,f9,f10,f11];clear  f0 f1 f2 f3 f4 f5 f6 f7 f8 f9 f10 f11;replace HWG:=h_ (HWG.out.trans (hb.mono HWG.out.size));replace HV:=h_ (HV.out.trans (hb.mono HV.out.size));clear hb;go_wp2_with fail
       go_roundw
       case rel=>exact⟨ii+1,nn+1,y.ln,y.cl,by go_num,rfl,rfl,by go_num,hlt,h_ (by rw[HNN.out];rfl),HNXT,HV⟩
       case measure=>simp[intOf];omega
      have heq:za=y.ln/\zb<y.cl:=by have:=HNY.out;omega
      have g1:¬ (y.ln<za):=by omega
      have g2:(y.ln==za)=true:=by simp;omega
      have g3:¬ (y.cl<=zb):=by omega
      have HEQ:=h_ heq;clear heq hln;go_upto_region 22 with fail
      refine R7.r0 [[],[],[0,1],[0,1,2],[0,1,2,3],[],[],[5,6],[5,6,7],[5,6,7,8],[0,1,2,3,4],[0,1,2,3,4,5,6,7,8,9,10]] 12 ?_;refine R7.cd ?_ (fun T xs wr hA=>?_) ?_
      rotate_left
      ·have e5:=hA.pq 5;simp only[gsa,gsc,gsz] at e5;clear hA;go_simp<;>(try with_reducible rfl)
      refine R7.cd ?_ (fun T xs wr hA=>?_) ?_
      rotate_left
      ·have e9:=hA.pq 9;simp only[gsa,gsc,gsz] at e9;clear hA;go_simp<;>(try with_reducible rfl)
      refine R7.cd ?_ (fun T xs wr hA=>?_) ?_
      rotate_left
      ·have e91:=tr_ (hA.tq 0 91) (hA.fq 0);have e92:=tr_ (hA.tq 1 92) (hA.fq 1)
       (try simp (disch:=decide) only [R7.mi] at e91 e92)
       clear hA;go_simp<;>(try with_reducible rfl)
      refine R7.cd ?_ (fun T xs wr hA=>?_) ?_
      rotate_left
      ·have e93:=tr_ (hA.tq 2 93) (hA.fq 2)
       (try simp (disch:=decide) only [R7.mi] at e93)
       clear hA;go_simp<;>(try with_reducible rfl)
      refine R7.cd ?_ (fun T xs wr hA=>?_) ?_
      rotate_left
      ·have e94:=tr_ (hA.tq 3 94) (hA.fq 3)
       (try simp (disch:=decide) only [R7.mi] at e94)
       have hbw:=undrew (hA.be wn.heap.size (Nat.le_refl _) (fun q h=>absurd h (Nat.not_lt_zero _)));obtain⟨d0,d1,d2,d3,d4,d5,d6,d7⟩:=cells8 (w:=wr) (p:=ad.add (nn*8)) (y:=y) (fun j v hv=>by rw[hbw.cell (cell_lt (HCY.out j v hv))];exact HCY.out j v hv);clear hbw;clear hA;go_simp<;>(try with_reducible rfl)
      refine R7.cd ?_ (fun T xs wr hA=>?_) ?_
      rotate_left
      ·have e5:=hA.pq 5;simp only[gsa,gsc,gsz] at e5;clear hA;go_simp<;>(try with_reducible rfl)
      refine R7.cd ?_ (fun T xs wr hA=>?_) ?_
      rotate_left
      ·have e9:=hA.pq 9;simp only[gsa,gsc,gsz] at e9;clear hA;go_simp<;>(try with_reducible rfl)
      refine R7.cd ?_ (fun T xs wr hA=>?_) ?_
      rotate_left
      ·have e96:=tr_ (hA.tq 5 96) (hA.fq 5);have e97:=tr_ (hA.tq 6 97) (hA.fq 6)
       (try simp (disch:=decide) only [R7.mi] at e96 e97)
       clear hA;go_simp<;>(try with_reducible rfl)
      refine R7.cd ?_ (fun T xs wr hA=>?_) ?_
      rotate_left
      ·have e98:=tr_ (hA.tq 7 98) (hA.fq 7)
       (try simp (disch:=decide) only [R7.mi] at e98)
       clear hA;go_simp<;>(try with_reducible rfl)
      refine R7.cd ?_ (fun T xs wr hA=>?_) ?_
      rotate_left
      ·have e99:=tr_ (hA.tq 8 99) (hA.fq 8)
       (try simp (disch:=decide) only [R7.mi] at e99)
       have hbw:=undrew (hA.be wn.heap.size (Nat.le_refl _) (fun q h=>absurd h (Nat.not_lt_zero _)));obtain⟨d0,d1,d2,d3,d4,d5,d6,d7⟩:=cells8 (w:=wr) (p:=ad.add (nn*8)) (y:=y) (fun j v hv=>by rw[hbw.cell (cell_lt (HCY.out j v hv))];exact HCY.out j v hv);clear hbw;clear hA;go_simp<;>(try with_reducible rfl)
      refine R7.cd ?_ (fun T xs wr hA=>?_) ?_
      rotate_left
      ·have e95:=tr_ (hA.tq 4 95) (hA.fq 4)
       (try simp (disch:=decide) only [R7.mi] at e95)
       clear hA;go_simp<;>(try with_reducible rfl)
      refine R7.cd ?_ (fun T xs wr hA=>?_) ?_
      rotate_left
      ·have e100:=tr_ (hA.tq 9 100) (hA.fq 9)
       (try simp (disch:=decide) only [R7.mi] at e100)
       clear hA;go_simp<;>(try with_reducible rfl)
      refine R7.Chain.done (fun xs w13 hL=>?_);obtain⟨⟨hbe,hbl⟩,hf,-,-⟩:=hL;have f0:xs 0=_:=hf 0 (by decide);have f1:xs 1=_:=hf 1 (by decide);have f2:xs 2=_:=hf 2 (by decide);have f3:xs 3=_:=hf 3 (by decide);have f4:xs 4=_:=hf 4 (by decide);have f5:xs 5=_:=hf 5 (by decide);have f6:xs 6=_:=hf 6 (by decide);have f7:xs 7=_:=hf 7 (by decide);have f8:xs 8=_:=hf 8 (by decide);have f9:xs 9=_:=hf 9 (by decide);have f10:xs 10=_:=hf 10 (by decide);have f11:xs 11=_:=hf 11 (by decide)
      (try simp (disch:=decide) only [R7.mi] at f0 f1 f2 f3 f4 f5 f6 f7 f8 f9 f10 f11)
      have hb:Below wn.heap.size wn w13:=R7.b0_ hbe;clear hbe hbl hf;refine R7.rest_done ?_;simp only[R7.fill,t5_,t6_,t7_,f0,f1,f2,f3,f4,f5,f6,f7,f8,f9,f10,f11];clear  f0 f1 f2 f3 f4 f5 f6 f7 f8 f9 f10 f11;replace HWG:=h_ (HWG.out.trans (hb.mono HWG.out.size));replace HV:=h_ (HV.out.trans (hb.mono HV.out.size));clear hb;go_wp2_with fail
      go_roundw
      case rel=>exact⟨ii+1,nn+1,y.ln,y.cl,by go_num,rfl,rfl,by go_num,hlt,h_ (by rw[HNN.out];rfl),HNXT,HV⟩
      case measure=>simp[intOf];omega
     have hnn:nn=n1+n2:=by have:=HNN.out;omega
     have HX:=h_ hnn;clear hnn;go_wp2_with fail
     go_roundw
     case rel=>exact⟨j+1,by rw[HSUM.out,<-HX.out],by go_num,hi,HV⟩
     case measure=>simp[intOf];omega
   have hjj:j=fs.length:=by omega
   have HJ:=h_ hjj;clear hjj;have hnt:cntF fs j=zs.length:=by rw[HAL.out.1];unfold cntF sitesU;rw[HJ.out,List.take_length,<-HFS.out,List.flatMap_map]
   rw[hnt];clear hnt HJ;have HBq:=h_ ((HV.out.block kp (lt_of_block HBp.out)).trans HBp.out);obtain⟨c0,c1⟩:=cl2 HBq.out;go_upto_region 26 with fail
   refine wp_region_lit ?_;refine wpList_plain rfl fun K0 hK0=>?_
   go_simp
   refine hK0 _ _ ?_;clear hK0;refine wpList_plain rfl fun K0 hK0=>?_
   go_simp
   refine (main_s wm S _ _ r.1 (HP.out.belowW HWG.out)).mono ?_;rintro e w40 ⟨A,rfl,hb,hA1,hA2,hA3⟩;replace HWG:=h_ (HWG.out.trans (hb.mono HWG.out.size));replace HV:=h_ (HV.out.trans (hb.mono HV.out.size));rw[HKM.out];refine hK0 _ _ ?_;clear hK0 hb
   have hfm:∃ f,r.1.fs.find? (·.nm==wMain)=some f:=by
    have h:=has_find r.1;rw[HKM.out] at h;exact Option.isSome_iff_exists.1 h.symm
   obtain⟨f,hf⟩:=hfm;rw[hf] at hA3;obtain⟨v,px,py,hA4,-⟩:=hA3;have hnm:f.nm=wMain:=by have:=List.find?_some hf;simpa using this
   have HA1:Hid (A.length=25):=h_ hA1;have HA2:Hid (∀ u ∈ A,u.oneCell'=true):=h_ hA2;have HA4:=h_ hA4;have HNM:=h_ hnm;clear hA1 hA2 hA4 hf hnm c0 c1
   iterate 4 (refine wpList_plain rfl fun K0 hK0=>?_;go_simp;refine hK0 _ _ ?_;clear hK0)
   refine wpList_plain rfl fun K0 hK0=>?_
   refine wp_store_row 50 (.tmp 14) (.tmp 108) rfl w40.heap.size A.toArray rfl rfl 50 _ (heap_alloc_last w40 _) (by rw[List.size_toArray,HA1.out];kernel_rfl) (by rw[show A.toArray.size=25 from by rw[List.size_toArray];exact HA1.out];rfl) (by rw[List.all_toArray];exact List.all_eq_true.2 HA2.out) ?_;rw[World.setRow_alloc_new];refine hK0 _ _ ?_;clear hK0;go_upto_region 27 with fail
   obtain⟨w12,km,hw,hkk,hb,hs1,HBm⟩:=newb w40 A.toArray 50;rw[hw,<-hkk];replace HWG:=h_ (HWG.out.trans (hb.mono HWG.out.size));replace HV:=h_ (HV.out.trans (hb.mono HV.out.size));clear hw hb hkk hs1;have hb0:A.toArray[0]?=some (.string ⟨(wMain:Bs).toArray⟩):=by rw[HA4.out,<-HNM.out];rfl
   have q0:=cell_at (v:=.string ⟨(wMain:Bs).toArray⟩) HBm.out 0 hb0;clear hb0;unfold wMain at q0;go_wp2_with fail
   go_ret
   refine⟨by first | rfl | simp,?_⟩;exact (HB0.out.trans (HWG.out.mono HB0.out.size))
theorem scopeSites_all (s:ByteArray) (w:World) (hm:s.size<=maxLen) (hop:OpsAt w) (hg:ErrType w) (hA:ArT w) :
  Calls Tryz.prog 4 #[.string s] w fun e w'=>e=.returned (.bool true)/\Below w.heap.size w w':=by
 obtain⟨l,rfl⟩:∃ l:Bs,s=⟨l.toArray⟩:=⟨s.data.toList,rfl⟩
 exact scopeSites_walk l w hm hop hg hA
end Go.Proofs.YtkocdbgmckdcpaaGreatDoor
namespace Go.Proofs.YtkocdbgmckdcpaaGreatDoor
open Go.ChangeShapes Go.WideShapes Go.ChangeAt Go.RowKit
set_option maxRecDepth 100000
theorem errGlobal : Tryz.prog.globalNamed "errors.errorType" = some 0 := by kernel_rfl
theorem rtypeRow : (Tryz.prog.cutTypes.find? (·.1 == "internal/reflectlite.rtype")).map (·.2) = some 181 := by kernel_rfl
theorem errRow:((List.range Tryz.prog.types.size).filter fun t=>Tryz.prog.rowNamed t [101,114,114,111,114])=[28]:=by kernel_rfl
theorem gOps : (Tryz.prog.globalNamed "litmus/parse.operators").bind (fun g => (Tryz.prog.globals[g]?).map fun x => (Tryz.prog.underlying x.type, Tryz.prog.cellsOf x.type)) = some (some (.array 14 200), 70) := by kernel_rfl
theorem nOps : Tryz.prog.globalNamed "litmus/parse.operators" = some 4 := by kernel_rfl
theorem cells5Op:Tryz.prog.cellsOf 200=5:=by kernel_rfl
theorem cells1Int:Tryz.prog.cellsOf 3=1:=by kernel_rfl
theorem cells1Str:Tryz.prog.cellsOf 9=1:=by kernel_rfl
theorem cells1Kind:Tryz.prog.cellsOf 40=1:=by kernel_rfl
def opD (op:Bop):DataW Unit:=.agg [.lit (.string op.sign),.lit (.int .i64 (op.kind:Nat)),.lit (.int .i64 (op.level:Nat)),.lit (.int .i64 (op.left:Nat)),.lit (.int .i64 (op.right:Nat))]
theorem opsData:(Rows.laid_litmus_parse_operators:DataW Unit)=.agg (bops.map opD):=by rfl
theorem op_cells {enc:TypeId × Value->Unit} {w:World} {base:Nat} {sp:Nat->Bool} {held:Bool} {fuel:Nat} {cs:List Value} {y:DataW Unit × List MemPlace} {op:Bop}
  (h:DataW.trod enc Tryz.prog w base sp held fuel 200 cs=some y) (hy:y.1=opD op):cs=opC op:=by
 obtain⟨xs,n,rfl,rfl,hl,hx,hf⟩:=DataW.trod_struct Tryz.underlying200 h;have h0:DataW.trod enc Tryz.prog w base sp held n 9 ((cs.drop 0).take (Tryz.prog.cellsOf 9))=xs[0]?:=hf 0 _ rfl;have h1:DataW.trod enc Tryz.prog w base sp held n 40 ((cs.drop 1).take (Tryz.prog.cellsOf 40))=xs[1]?:=hf 1 _ rfl;have h2:DataW.trod enc Tryz.prog w base sp held n 3 ((cs.drop 2).take (Tryz.prog.cellsOf 3))=xs[2]?:=hf 2 _ rfl;have h3:DataW.trod enc Tryz.prog w base sp held n 3 ((cs.drop 3).take (Tryz.prog.cellsOf 3))=xs[3]?:=hf 3 _ rfl;have h4:DataW.trod enc Tryz.prog w base sp held n 3 ((cs.drop 4).take (Tryz.prog.cellsOf 3))=xs[4]?:=hf 4 _ rfl;rw[cells5Op] at hl
 match xs,hx with
 | [a0,a1,a2,a3,a4],_ =>
  match cs,hl with
  | [c0,c1,c2,c3,c4],_ =>
   simp only[gsz,gsc] at h0 h1 h2 h3 h4;simp only[opD,List.map_cons,List.map_nil,DataW.agg.injEq,List.cons.injEq,and_true] at hy;obtain⟨y0,y1,y2,y3,y4⟩:=hy;obtain⟨s0,e0,rfl,_⟩:=DataW.trod_string Tryz.underlying9 h0;obtain⟨s1,e1,rfl,_⟩:=DataW.trod_int Tryz.underlying40 h1;obtain⟨s2,e2,rfl,_⟩:=DataW.trod_int Tryz.underlying3 h2;obtain⟨s3,e3,rfl,_⟩:=DataW.trod_int Tryz.underlying3 h3;obtain⟨s4,e4,rfl,_⟩:=DataW.trod_int Tryz.underlying3 h4;simp only[cells1Int,cells1Str,cells1Kind,List.drop_zero,List.take_succ_cons,List.take_zero,List.drop_succ_cons,List.cons.injEq,and_true] at e0 e1 e2 e3 e4;simp only[DataW.lit.injEq,Lit.string.injEq,Lit.int.injEq,true_and] at y0 y1 y2 y3 y4;subst e0 e1 e2 e3 e4;rw[y1,y2,y3,y4];unfold opC;rw[<-y0]
theorem cells_of_ops {enc:TypeId × Value->Unit} {w:World} {base:Nat} {sp:Nat->Bool} {held:Bool} {fuel:Nat} {t:TypeId} {cs:List Value} {l:List Bop} {p:List MemPlace} {n:Nat}
  (ht:Tryz.prog.underlying t=some (.array n 200)) (hct:Tryz.prog.cellsOf t=n*5)
  (h:DataW.trod enc Tryz.prog w base sp held fuel t cs=some (.agg (l.map opD),p)):cs=l.flatMap opC:=by
 obtain⟨xs,m,rfl,he,hl,hx,hf⟩:=DataW.trod_array ht h;rw[hct] at hl;rw[cells5Op] at hf;have hxs:l.map opD=xs.map (·.1):=by injection he with he _;injection he
 have hln:l.length=n:=by have:=congrArg List.length hxs;simp at this;omega
 clear h he hct ht;clear hx
 induction l generalizing cs xs n with
 | nil=>simp at hln;subst hln;simpa using hl
 | cons op l ih =>
  match xs,hxs with
  | a::xs,hxs =>
   match n,hln with
   | n+1,hln =>
    simp only[List.map_cons,List.cons.injEq] at hxs;have h0:=hf 0 (by omega);simp only[Nat.zero_mul,List.drop_zero,gsz] at h0;have hc:=op_cells h0 hxs.1.symm
    have:=ih (cs:=cs.drop 5) (xs:=xs) (n:=n) (by rw[List.length_drop,hl];omega) (fun i hi=>by
     have:=hf (i+1) (by omega);simp only[gsc] at this
     rw[List.drop_drop,show 5+i*5=(i+1)*5 by omega];exact this) hxs.2 (by simpa using hln)
    rw[List.flatMap_cons,<-this,<-hc,List.take_append_drop]
theorem gArs7 : (Tryz.prog.globalNamed "litmus/tree.arities").bind (fun g => (Tryz.prog.globals[g]?).map fun x => (Tryz.prog.underlying x.type, Tryz.prog.cellsOf x.type)) = some (some (.array 29 3), 29) := by kernel_rfl
theorem nArs7 : Tryz.prog.globalNamed "litmus/tree.arities" = some 2 := by kernel_rfl
def arTab7:List Int:=(List.range 29).map arW
theorem arData7:(Rows.laid_litmus_tree_arities:DataW Unit)=Lib.tabData .i64 arTab7:=by rfl
theorem ops_of_var {W : World} {g : Nat} {t : TypeId} {cs : Array Value} {fuel : Nat} {p : List MemPlace} (hg : Tryz.prog.globalNamed "litmus/parse.operators" = some g) (ht : (Tryz.prog.globals[g]?).map (·.type) = some t) (hvar : W.var? Tryz.prog "litmus/parse.operators" = some cs)
  (hd:DataW.trod (fun _=>()) Tryz.prog W 0 (fun _=>true) false fuel t cs.toList=some (Rows.laid_litmus_parse_operators,p)):OpsAt W:=by
 have e:=gOps;rw[hg,Option.bind_some] at e;obtain⟨x,hx,ex⟩:=Option.map_eq_some_iff.1 e;rw[hx,Option.map_some] at ht;injection ht with ht;injection ex with e1 e2;rw[ht] at e1 e2;have hc:=cells_of_ops e1 (by rw[e2]) (opsData ▸ hd);intro j v hv;rw[World.var?_cell nOps hvar j];have:cs[j]?=cs.toList[j]?:=by simp
 rw[this,hc];exact hv
theorem laid_all {W:World} (h:laidMetH Tryz.prog Rows.scopeSitesRow.laid W):OpsAt W/\ArT W:=by
 have h1 : laidMet Tryz.prog [("litmus/tree.arities", Rows.laid_litmus_tree_arities), ("litmus/parse.operators", Rows.laid_litmus_parse_operators)] W := (laidMetH_iff.1 h).1;obtain ⟨_, ⟨g1, t1, cs1, fuel1, p1, q1, hg1, ht1, hvar1, hd1, ⟨g2, t2, cs2, fuel2, p2, q2, hg2, ht2, hvar2, hd2, _, _⟩, _⟩, _⟩ := h1;refine ⟨ops_of_var hg2 ht2 hvar2 hd2, fun i hi => ?_⟩;have e := gArs7;rw [hg1, Option.bind_some] at e;obtain ⟨x, hx, ex⟩ := Option.map_eq_some_iff.1 e;rw [hx, Option.map_some] at ht1;injection ht1 with ht1;injection ex with e1 e2;rw [ht1] at e1 e2;have hc := Lib.cells_of_tab e1 Tryz.underlying3 cells1Int e2 (arData7 ▸ hd1);rw [World.var?_cell nArs7 hvar1 i];have : cs1[i]? = cs1.toList[i]? := by simp
 rw[this,hc];unfold arTab7
 simp[hi]
theorem ops_of_laid {W:World} (h:laidMetH Tryz.prog Rows.scopeSitesRow.laid W):OpsAt W:=(laid_all h).1
theorem ar_of_laid {W:World} (h:laidMetH Tryz.prog Rows.scopeSitesRow.laid W):ArT W:=(laid_all h).2
theorem err_of_laid {W:World} (h:laidMetH Tryz.prog Rows.scopeSitesRow.laid W):ErrType W:=by
 have h' : handlesMet Tryz.prog [("errors.errorType", Rows.laid_errors_errorType)] W := (laidMetH_iff.1 h).2;obtain ⟨name, u, ty, e1, e2, e3, e4, e5⟩ := h' _ (List.mem_singleton.2 rfl);have en : name = [101, 114, 114, 111, 114] := (Option.some.inj e1).symm;subst en;obtain rfl := Option.some.inj (rtypeRow.symm.trans e2);have hm : ty ∈ (List.range Tryz.prog.types.size).filter fun t => Tryz.prog.rowNamed t [101, 114, 114, 111, 114] := List.mem_filter.2 ⟨List.mem_range.2 e3, e4⟩
 rw[errRow] at hm;obtain rfl:=List.mem_singleton.1 hm;have hh:typeHandle Tryz.prog 28=.pointer (some ⟨Tryz.prog.globals.size,28,none⟩):=by kernel_rfl
 rw[hh,gSize] at e5;unfold ErrType
 simpa using World.var?_cell errGlobal e5 0
noncomputable def laidWorld (os:Os):World:=
 let w0:=World.doorLaid Tryz.prog 4000 os
 { w0 with heap:=w0.heap.modify 0 fun
   | .cells _ t frozen=>.cells #[.iface 181 (.agg #[.pointer (some ⟨Tryz.prog.globals.size,28,none⟩)])] t frozen
   | o=>o }
theorem laid_met (os:Os) (args:Array Value):laidMetH Tryz.prog Rows.scopeSitesRow.laid ((laidWorld os).forCall (fun _ _=>0) ⟨#[],args,[]⟩).memory:=
 laidMetH_of_parts (laidMet_of_run' 24 (by kernel_rfl) (by kernel_rfl)) (by kernel_rfl)
end Go.Proofs.YtkocdbgmckdcpaaGreatDoor
