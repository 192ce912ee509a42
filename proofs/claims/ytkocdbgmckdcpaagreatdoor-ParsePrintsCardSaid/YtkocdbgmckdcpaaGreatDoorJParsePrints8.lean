/-
 Joined texts: PtZ,PtT,PtI,PtJ,PtL.
-/
import Derived.Deep.DeepCutAuto
import Derived.Laws.Concat
import Derived.Deep.MidRow
import Derived.Deep.WholeRow
import Derived.Test.YtkocdbgmckdcpaaGreatDoorJParsePrints7
set_option maxHeartbeats 32000000
namespace Go.Proofs.YtkocdbgmckdcpaaGreatDoor
open Go.RowKit
set_option linter.unusedVariables false
set_option maxRecDepth 100000
theorem sl_two {w0 w w':World} {ao:Option Addr} {n c:Nat} {xs:List Nat} (h:Sl w0 .u32 (.slice ao n c) xs) (h1:Below w0.heap.size w0 w) (h2:Below w.heap.size w w'):Sl w' .u32 (.slice ao n c) xs:=(h.below h1).below h2

theorem phrase_n (w0:World) (d:Nat) (E:Hid (ExprAt w0 d)) (b:Nat) (l:Bs) (k:Nat) (nm ot:Bs) (z:Nat) (ks:List T) (x:X) (S:Nat->Prop) (g:Nat) (ws:List Bs) (n c:Nat) (w:World) (hn:ks.length=n) (h:Tr w0 S (d+1) x (.node k nm ot z ks)) (ho:Og (d+1) (.node k nm ot z ks)) (hws:ws.length=n) (hwd:Words w g ws)
  (hbw:Below w0.heap.size w0 w) (hwr:Wr w0.heap.size b l w) (hlen:l.length+(phr ws (k0 ks)).length<=1000000) :
  Calls Tryz.prog 126 #[.pointer (some ⟨b,0,none⟩),xv x,.slice (some ⟨g,0,none⟩) n c] w (WrPost w0.heap.size b (l++phr ws (k0 ks)) w):=by
 subst hn;exact phrase_any w0 d E b l k nm ot z ks x S g ws c w h ho hws hwd hbw hwr hlen

theorem bare_num (w0:World) (d:Nat) (E:Hid (ExprAt w0 d)) (b:Nat) (l:Bs) (k:Nat) (nm ot:Bs) (z:Nat) (ks:List T) (x:X) (S:Nat->Prop) (w:World) (ht:Tabs w0) (hk0:k=0) (h:Tr w0 S (d+1) x (.node k nm ot z ks)) (ho:Og (d+1) (.node k nm ot z ks))
  (hbw:Below w0.heap.size w0 w) (hwr:Wr w0.heap.size b l w) (hlen:l.length+(tx (.node k nm ot z ks)).length<=1000000) :
  Calls Tryz.prog 106 #[.pointer (some ⟨b,0,none⟩),xv x] w (WrPost w0.heap.size b (l++tx (.node k nm ot z ks)) w):=by
 subst hk0;have HTX:Hid (tx (.node 0 nm ot z ks)=zText (z:Int)):=h_ (by rw[tx];rfl);rw[HTX.out] at hlen;have HOK:=h_ ho;obtain⟨hk,hn,hoo,hz,ha,hl,hks⟩:=ho;have htr:=h;obtain⟨⟨e1,e2,e3,e4⟩,⟨h2,h3⟩,⟨h4,h5,h6⟩,h7⟩:=h;obtain⟨xk,xnm,xot,xb,xao,xn,xq,xko,xkn,xkc,xln,xcl⟩:=x;simp only at e1 e2 e3 e4 h2 h3 h4 h5 h6 h7;subst e1 e2 e3 e4 h4;have HTR:=h_ htr;have HK:=h_ h7;have HKS:=h_ hks;have HS:=h_ h2;have HT:=h_ ht;have HBW:=h_ hbw;have HWR:=h_ hwr;have hsB:=hbw.size;obtain⟨k3,hk3⟩:∃ k3,k3=w.heap.size:=⟨_,rfl⟩
 obtain⟨w9,hw9⟩:∃ w9,w9=w.alloc (.cells #[.int .i64 0,.string ⟨nm.toArray⟩,.string ⟨ot.toArray⟩,.bool false,.slice xao xn xq,.slice xko ks.length xkc,.int .i64 xln,.int .i64 xcl] 46):=⟨_,rfl⟩
 have hba:Below w.heap.size w w9:=by rw[hw9];exact (Below.refl _ _).alloc (Nat.le_refl _) _
 have hx9:w9.heap[k3]?=some (.cells #[.int .i64 0,.string ⟨nm.toArray⟩,.string ⟨ot.toArray⟩,.bool false,.slice xao xn xq,.slice xko ks.length xkc,.int .i64 xln,.int .i64 xcl] 46 (0,0)):=by rw[hw9,hk3];exact made_at w _ _ rfl
 have HB_x:=h_ hx9;have HW9:=h_ (HWR.out.below hba);have HB9:=h_ (hba.mono hsB);have HF9:=h_ (fr_below hba);have hs9:=hba.size;have x0:=cell_at (v:=.int .i64 0) hx9 0 rfl;have x1:=cell_at (v:=.string ⟨nm.toArray⟩) hx9 1 rfl;have x2:=cell_at (v:=.string ⟨ot.toArray⟩) hx9 2 rfl;have x3:=cell_at (v:=.bool false) hx9 3 rfl;have x4:=cell_at (v:=.slice xao xn xq) hx9 4 rfl;have x5:=cell_at (v:=.slice xko ks.length xkc) hx9 5 rfl;have x6:=cell_at (v:=.int .i64 xln) hx9 6 rfl;have x7:=cell_at (v:=.int .i64 xcl) hx9 7 rfl;clear htr h2 h3 h6 h7 hks ha hba hx9 ht hbw hwr;simp only[xv];go_enter Tryz.func106,Tryz.ntmps106
 go_upto_region 1 with fail
 rw[<-hw9,<-hk3];clear hw9 hk3;go_wp2_with fail
 have hlt_x:=lt_of_block HB_x.out;refine Rely.region (by kernel_rfl) [[],[0],[0,1],[],[3],[3,4],[0,1,2,3,4,5]] [] [] (fun _=>0) 0 6 (by kernel_rfl) (by kernel_rfl) (fun q h=>absurd h (Nat.not_lt_zero q)) (fun q _ h=>absurd h (Nat.not_lt_zero q)) ?_;refine Rely.Chain.det ?_ (by rfl) (fun T xs wr hA=>?_) ?_
 rotate_left 1
 ·have e0:=hA.pre 0 (by kernel_rfl);simp only[gsa,gsz] at e0;clear hA;refine⟨(by rfl),?_⟩;go_simp<;>(try with_reducible rfl)
 refine Rely.Chain.det ?_ (by rfl) (fun T xs wr hA=>?_) ?_
 rotate_left 1
 ·have e11:=(hA.tm 0 11 (by rfl) (by rfl)).trans (congrArg some (hA.fa 0 (by rfl)))
  (try simp (disch:=first | rfl | decide) only [Rely.mask_in] at e11)
  clear hA;refine⟨(by rfl),?_⟩;go_simp<;>(try with_reducible rfl)
 refine Rely.Chain.det ?_ (by rfl) (fun T xs wr hA=>?_) ?_
 rotate_left 1
 ·have e12:=(hA.tm 1 12 (by rfl) (by rfl)).trans (congrArg some (hA.fa 1 (by rfl)))
  (try simp (disch:=first | rfl | decide) only [Rely.mask_in] at e12)
  clear hA;refine⟨(by rfl),?_⟩;go_simp<;>(try with_reducible rfl)
 refine Rely.Chain.det ?_ (by rfl) (fun T xs wr hA=>?_) ?_
 rotate_left 1
 ·have e3:=hA.pre 3 (by kernel_rfl);simp only[gsa,gsc,gsz] at e3;clear hA;refine⟨(by rfl),?_⟩;go_simp<;>(try with_reducible rfl)
 refine Rely.Chain.det ?_ (by rfl) (fun T xs wr hA=>?_) ?_
 rotate_left 1
 ·have e14:=(hA.tm 3 14 (by rfl) (by rfl)).trans (congrArg some (hA.fa 3 (by rfl)))
  (try simp (disch:=first | rfl | decide) only [Rely.mask_in] at e14)
  have hBq:wr.heap[k3]?=_:=(hA.bl _ hlt_x (fun q h=>absurd h (Nat.not_lt_zero q))).trans HB_x.out;obtain⟨q0,q1,q2,q3,q4,q5,q6,q7⟩:=cl8 hBq;clear hBq;clear hA;refine⟨(by rfl),?_⟩;go_simp<;>(try with_reducible rfl)
 refine Rely.Chain.grow (fun _ v _=>v=.string ⟨(zText (z:Int)).toArray⟩) (fun _ _ _ _ h _=>h) rfl (by rfl) (fun T xs wr hA=>?_) ?_
 ·have e15:=(hA.tm 4 15 (by rfl) (by rfl)).trans (congrArg some (hA.fa 4 (by rfl)))
  (try simp (disch:=first | rfl | decide) only [Rely.mask_in] at e15)
  have hbw:=undrew (hA.be _ (Nat.le_refl _) (fun q h=>absurd h (Nat.not_lt_zero q)));have hg:GI wr (.agg #[.bool false,.slice xao xn xq]) (z:Int) 40:=⟨false,_,z,rfl,gn_dig (sl_two HS.out (HBW.out.trans HB9.out) hbw) hz,rfl⟩
  have htb:=((HT.out.below (HBW.out.trans HB9.out)).below hbw).p10;have HG:=h_ hg;have HTB:=h_ htb;clear hg htb hbw;clear hA;refine⟨(by rfl),fun K hK=>?_⟩;go_simp
  refine (wtext_any _ _ 40 _ HTB.out HG.out (by decide)).mono ?_;rintro e wq ⟨rfl,hb⟩;exact hK.out _ _ rfl hb
 refine Rely.Chain.done (fun xs w10 hL=>?_);obtain⟨⟨hbe,hbl,hkp0⟩,hf,hp,hn⟩:=hL;have f0:xs 0=_:=hf 0 (by decide);have f1:xs 1=_:=hf 1 (by decide);have f2:xs 2=_:=hf 2 (by decide);have f3:xs 3=_:=hf 3 (by decide);have f4:xs 4=_:=hf 4 (by decide);have f5:xs 5=(.string ⟨(zText (z:Int)).toArray⟩):=hf 5 (by decide)
 (try simp (disch:=first | rfl | decide) only [Rely.mask_in] at f0 f1 f2 f3 f4)
 have hbx:Below w9.heap.size w9 w10:=undrew (hbe _ (Nat.le_refl _) (fun q h=>absurd h (Nat.not_lt_zero q)));clear hbe hbl hkp0 hf hp hn;replace HB_x:=h_ ((hbx.block _ hlt_x).trans HB_x.out);clear hlt_x;refine Rely.rest_list (by decide) (by kernel_rfl) ?_;simp only[Rely.fill,List.take_succ_cons,List.take_zero,List.drop_succ_cons,List.drop_zero,List.setIfInBounds_toArray,List.set_cons_zero,List.set_cons_succ,f0,f1,f2,f3,f4,f5];clear f0 f1 f2 f3 f4 f5;have HBX:=h_ hbx;have hs10:=hbx.size;have H10:=h_ (HW9.out.below hbx);have HB10:=h_ (HB9.out.trans (hbx.mono (by omega)));have HF10:=h_ (HF9.out.trans (fr_below hbx));clear hbx;clear x0 x1 x2 x3 x4 x5 x6 x7;go_wp2_with fail
 refine (wr_str w0.heap.size b l (zText (z:Int)) w10 H10.out (by omega) (by omega)).mono ?_;rintro e w11 ⟨⟨v,rfl⟩,hw5,hb5,hfr5⟩;have H11:=h_ hw5;have HB11:=h_ (HB10.out.trans hb5);have HF11:=h_ (HF10.out.trans hfr5);clear hw5 hb5 hfr5;go_wp2_with fail
 go_end0
 exact⟨⟨_,rfl⟩,(by rw[HTX.out];exact H11.out),HB11.out,HF11.out⟩
theorem bare_var (w0:World) (d:Nat) (E:Hid (ExprAt w0 d)) (b:Nat) (l:Bs) (k:Nat) (nm ot:Bs) (z:Nat) (ks:List T) (x:X) (S:Nat->Prop) (w:World) (ht:Tabs w0) (hk0:k=3) (h:Tr w0 S (d+1) x (.node k nm ot z ks)) (ho:Og (d+1) (.node k nm ot z ks))
  (hbw:Below w0.heap.size w0 w) (hwr:Wr w0.heap.size b l w) (hlen:l.length+(tx (.node k nm ot z ks)).length<=1000000) :
  Calls Tryz.prog 106 #[.pointer (some ⟨b,0,none⟩),xv x] w (WrPost w0.heap.size b (l++tx (.node k nm ot z ks)) w):=by
 subst hk0;have HTX:Hid (tx (.node 3 nm ot z ks)=nm):=h_ (by rw[tx];rfl);rw[HTX.out] at hlen;have HOK:=h_ ho;obtain⟨hk,hn,hoo,hz,ha,hl,hks⟩:=ho;have htr:=h;obtain⟨⟨e1,e2,e3,e4⟩,⟨h2,h3⟩,⟨h4,h5,h6⟩,h7⟩:=h;obtain⟨xk,xnm,xot,xb,xao,xn,xq,xko,xkn,xkc,xln,xcl⟩:=x;simp only at e1 e2 e3 e4 h2 h3 h4 h5 h6 h7;subst e1 e2 e3 e4 h4;have HTR:=h_ htr;have HK:=h_ h7;have HKS:=h_ hks;have HS:=h_ h2;have HT:=h_ ht;have HBW:=h_ hbw;have HWR:=h_ hwr;have hsB:=hbw.size;obtain⟨k3,hk3⟩:∃ k3,k3=w.heap.size:=⟨_,rfl⟩
 obtain⟨w9,hw9⟩:∃ w9,w9=w.alloc (.cells #[.int .i64 3,.string ⟨nm.toArray⟩,.string ⟨ot.toArray⟩,.bool false,.slice xao xn xq,.slice xko ks.length xkc,.int .i64 xln,.int .i64 xcl] 46):=⟨_,rfl⟩
 have hba:Below w.heap.size w w9:=by rw[hw9];exact (Below.refl _ _).alloc (Nat.le_refl _) _
 have hx9:w9.heap[k3]?=some (.cells #[.int .i64 3,.string ⟨nm.toArray⟩,.string ⟨ot.toArray⟩,.bool false,.slice xao xn xq,.slice xko ks.length xkc,.int .i64 xln,.int .i64 xcl] 46 (0,0)):=by rw[hw9,hk3];exact made_at w _ _ rfl
 have HB_x:=h_ hx9;have HW9:=h_ (HWR.out.below hba);have HB9:=h_ (hba.mono hsB);have HF9:=h_ (fr_below hba);have hs9:=hba.size;have x0:=cell_at (v:=.int .i64 3) hx9 0 rfl;have x1:=cell_at (v:=.string ⟨nm.toArray⟩) hx9 1 rfl;have x2:=cell_at (v:=.string ⟨ot.toArray⟩) hx9 2 rfl;have x3:=cell_at (v:=.bool false) hx9 3 rfl;have x4:=cell_at (v:=.slice xao xn xq) hx9 4 rfl;have x5:=cell_at (v:=.slice xko ks.length xkc) hx9 5 rfl;have x6:=cell_at (v:=.int .i64 xln) hx9 6 rfl;have x7:=cell_at (v:=.int .i64 xcl) hx9 7 rfl;clear htr h2 h3 h6 h7 hks ha hba hx9 ht hbw hwr;simp only[xv];go_enter Tryz.func106,Tryz.ntmps106
 go_upto_region 1 with fail
 rw[<-hw9,<-hk3];clear hw9 hk3;go_wp2_with fail
 have hlt_x:=lt_of_block HB_x.out;refine Rely.region (by kernel_rfl) [[],[0],[0,1],[],[3],[0,1,2,3,4]] [] [] (fun _=>0) 0 5 (by kernel_rfl) (by kernel_rfl) (fun q h=>absurd h (Nat.not_lt_zero q)) (fun q _ h=>absurd h (Nat.not_lt_zero q)) ?_;refine Rely.Chain.det ?_ (by rfl) (fun T xs wr hA=>?_) ?_
 rotate_left 1
 ·have e0:=hA.pre 0 (by kernel_rfl);simp only[gsa,gsz] at e0;clear hA;refine⟨(by rfl),?_⟩;go_simp<;>(try with_reducible rfl)
 refine Rely.Chain.det ?_ (by rfl) (fun T xs wr hA=>?_) ?_
 rotate_left 1
 ·have e20:=(hA.tm 0 20 (by rfl) (by rfl)).trans (congrArg some (hA.fa 0 (by rfl)))
  (try simp (disch:=first | rfl | decide) only [Rely.mask_in] at e20)
  clear hA;refine⟨(by rfl),?_⟩;go_simp<;>(try with_reducible rfl)
 refine Rely.Chain.det ?_ (by rfl) (fun T xs wr hA=>?_) ?_
 rotate_left 1
 ·have e21:=(hA.tm 1 21 (by rfl) (by rfl)).trans (congrArg some (hA.fa 1 (by rfl)))
  (try simp (disch:=first | rfl | decide) only [Rely.mask_in] at e21)
  clear hA;refine⟨(by rfl),?_⟩;go_simp<;>(try with_reducible rfl)
 refine Rely.Chain.det ?_ (by rfl) (fun T xs wr hA=>?_) ?_
 rotate_left 1
 ·have e3:=hA.pre 3 (by kernel_rfl);simp only[gsa,gsc,gsz] at e3;clear hA;refine⟨(by rfl),?_⟩;go_simp<;>(try with_reducible rfl)
 refine Rely.Chain.det ?_ (by rfl) (fun T xs wr hA=>?_) ?_
 rotate_left 1
 ·have e23:=(hA.tm 3 23 (by rfl) (by rfl)).trans (congrArg some (hA.fa 3 (by rfl)))
  (try simp (disch:=first | rfl | decide) only [Rely.mask_in] at e23)
  have hBq:wr.heap[k3]?=_:=(hA.bl _ hlt_x (fun q h=>absurd h (Nat.not_lt_zero q))).trans HB_x.out;obtain⟨q0,q1,q2,q3,q4,q5,q6,q7⟩:=cl8 hBq;clear hBq;clear hA;refine⟨(by rfl),?_⟩;go_simp<;>(try with_reducible rfl)
 refine Rely.Chain.done (fun xs w10 hL=>?_);obtain⟨⟨hbe,hbl,hkp0⟩,hf,hp,hn⟩:=hL;have f0:xs 0=_:=hf 0 (by decide);have f1:xs 1=_:=hf 1 (by decide);have f2:xs 2=_:=hf 2 (by decide);have f3:xs 3=_:=hf 3 (by decide);have f4:xs 4=_:=hf 4 (by decide)
 (try simp (disch:=first | rfl | decide) only [Rely.mask_in] at f0 f1 f2 f3 f4)
 have hbx:Below w9.heap.size w9 w10:=undrew (hbe _ (Nat.le_refl _) (fun q h=>absurd h (Nat.not_lt_zero q)));clear hbe hbl hkp0 hf hp hn;replace HB_x:=h_ ((hbx.block _ hlt_x).trans HB_x.out);clear hlt_x;refine Rely.rest_list (by decide) (by kernel_rfl) ?_;simp only[Rely.fill,List.take_succ_cons,List.take_zero,List.drop_succ_cons,List.drop_zero,List.setIfInBounds_toArray,List.set_cons_zero,List.set_cons_succ,f0,f1,f2,f3,f4];clear f0 f1 f2 f3 f4;have HBX:=h_ hbx;have hs10:=hbx.size;have H10:=h_ (HW9.out.below hbx);have HB10:=h_ (HB9.out.trans (hbx.mono (by omega)));have HF10:=h_ (HF9.out.trans (fr_below hbx));clear hbx;clear x0 x1 x2 x3 x4 x5 x6 x7;go_wp2_with fail
 refine (wr_str w0.heap.size b l nm w10 H10.out (by omega) (by omega)).mono ?_;rintro e w11 ⟨⟨v,rfl⟩,hw5,hb5,hfr5⟩;have H11:=h_ hw5;have HB11:=h_ (HB10.out.trans hb5);have HF11:=h_ (HF10.out.trans hfr5);clear hw5 hb5 hfr5;go_wp2_with fail
 go_end0
 exact⟨⟨_,rfl⟩,(by rw[HTX.out];exact H11.out),HB11.out,HF11.out⟩
theorem bare_c1 (w0:World) (d:Nat) (E:Hid (ExprAt w0 d)) (b:Nat) (l:Bs) (k:Nat) (nm ot:Bs) (z:Nat) (ks:List T) (x:X) (S:Nat->Prop) (w:World) (ht:Tabs w0) (hk0:k=1) (h:Tr w0 S (d+1) x (.node k nm ot z ks)) (ho:Og (d+1) (.node k nm ot z ks))
  (hbw:Below w0.heap.size w0 w) (hwr:Wr w0.heap.size b l w) (hlen:l.length+(tx (.node k nm ot z ks)).length<=1000000) :
  Calls Tryz.prog 106 #[.pointer (some ⟨b,0,none⟩),xv x] w (WrPost w0.heap.size b (l++tx (.node k nm ot z ks)) w):=by
 subst hk0;have HTX:Hid (tx (.node 1 nm ot z ks)=sg5 1):=h_ (by rw[tx];rfl);rw[HTX.out] at hlen;have hsl:=sg5_len 1 (by decide);have HOK:=h_ ho;obtain⟨hk,hn,hoo,hz,ha,hl,hks⟩:=ho;have htr:=h;obtain⟨⟨e1,e2,e3,e4⟩,⟨h2,h3⟩,⟨h4,h5,h6⟩,h7⟩:=h;obtain⟨xk,xnm,xot,xb,xao,xn,xq,xko,xkn,xkc,xln,xcl⟩:=x;simp only at e1 e2 e3 e4 h2 h3 h4 h5 h6 h7;subst e1 e2 e3 e4 h4;have HTR:=h_ htr;have HK:=h_ h7;have HKS:=h_ hks;have HS:=h_ h2;have HT:=h_ ht;have HBW:=h_ hbw;have HWR:=h_ hwr;have hsB:=hbw.size;obtain⟨k3,hk3⟩:∃ k3,k3=w.heap.size:=⟨_,rfl⟩
 obtain⟨w9,hw9⟩:∃ w9,w9=w.alloc (.cells #[.int .i64 1,.string ⟨nm.toArray⟩,.string ⟨ot.toArray⟩,.bool false,.slice xao xn xq,.slice xko ks.length xkc,.int .i64 xln,.int .i64 xcl] 46):=⟨_,rfl⟩
 have hba:Below w.heap.size w w9:=by rw[hw9];exact (Below.refl _ _).alloc (Nat.le_refl _) _
 have hx9:w9.heap[k3]?=some (.cells #[.int .i64 1,.string ⟨nm.toArray⟩,.string ⟨ot.toArray⟩,.bool false,.slice xao xn xq,.slice xko ks.length xkc,.int .i64 xln,.int .i64 xcl] 46 (0,0)):=by rw[hw9,hk3];exact made_at w _ _ rfl
 have HB_x:=h_ hx9;have HW9:=h_ (HWR.out.below hba);have HB9:=h_ (hba.mono hsB);have HF9:=h_ (fr_below hba);have hs9:=hba.size;have x0:=cell_at (v:=.int .i64 1) hx9 0 rfl;have x1:=cell_at (v:=.string ⟨nm.toArray⟩) hx9 1 rfl;have x2:=cell_at (v:=.string ⟨ot.toArray⟩) hx9 2 rfl;have x3:=cell_at (v:=.bool false) hx9 3 rfl;have x4:=cell_at (v:=.slice xao xn xq) hx9 4 rfl;have x5:=cell_at (v:=.slice xko ks.length xkc) hx9 5 rfl;have x6:=cell_at (v:=.int .i64 xln) hx9 6 rfl;have x7:=cell_at (v:=.int .i64 xcl) hx9 7 rfl;clear htr h2 h3 h6 h7 hks ha hba hx9 ht hbw hwr;simp only[xv];go_enter Tryz.func106,Tryz.ntmps106
 go_upto_region 1 with fail
 rw[<-hw9,<-hk3];clear hw9 hk3;have HSG:Hid (∀ wr,Below w9.heap.size w9 wr->wr.cell? ⟨3,1,none⟩=some (.string ⟨(sg5 1).toArray⟩)):=h_ fun wr hb=>((HT.out.below (HBW.out.trans HB9.out)).below hb).sg 1 (by decide)
 go_wp2_with fail
 have hlt_x:=lt_of_block HB_x.out;refine Rely.region (by kernel_rfl) [[],[0],[0,1],[],[3],[3,4],[3,4,5],[0,1,2,3,4,5,6]] [] [] (fun _=>0) 0 7 (by kernel_rfl) (by kernel_rfl) (fun q h=>absurd h (Nat.not_lt_zero q)) (fun q _ h=>absurd h (Nat.not_lt_zero q)) ?_;refine Rely.Chain.det ?_ (by rfl) (fun T xs wr hA=>?_) ?_
 rotate_left 1
 ·have e0:=hA.pre 0 (by kernel_rfl);simp only[gsa,gsz] at e0;clear hA;refine⟨(by rfl),?_⟩;go_simp<;>(try with_reducible rfl)
 refine Rely.Chain.det ?_ (by rfl) (fun T xs wr hA=>?_) ?_
 rotate_left 1
 ·have e30:=(hA.tm 0 30 (by rfl) (by rfl)).trans (congrArg some (hA.fa 0 (by rfl)))
  (try simp (disch:=first | rfl | decide) only [Rely.mask_in] at e30)
  clear hA;refine⟨(by rfl),?_⟩;go_simp<;>(try with_reducible rfl)
 refine Rely.Chain.det ?_ (by rfl) (fun T xs wr hA=>?_) ?_
 rotate_left 1
 ·have e31:=(hA.tm 1 31 (by rfl) (by rfl)).trans (congrArg some (hA.fa 1 (by rfl)))
  (try simp (disch:=first | rfl | decide) only [Rely.mask_in] at e31)
  clear hA;refine⟨(by rfl),?_⟩;go_simp<;>(try with_reducible rfl)
 refine Rely.Chain.det ?_ (by rfl) (fun T xs wr hA=>?_) ?_
 rotate_left 1
 ·have e3:=hA.pre 3 (by kernel_rfl);simp only[gsa,gsc,gsz] at e3;clear hA;refine⟨(by rfl),?_⟩;go_simp<;>(try with_reducible rfl)
 refine Rely.Chain.det ?_ (by rfl) (fun T xs wr hA=>?_) ?_
 rotate_left 1
 ·have e33:=(hA.tm 3 33 (by rfl) (by rfl)).trans (congrArg some (hA.fa 3 (by rfl)))
  (try simp (disch:=first | rfl | decide) only [Rely.mask_in] at e33)
  have hBq:wr.heap[k3]?=_:=(hA.bl _ hlt_x (fun q h=>absurd h (Nat.not_lt_zero q))).trans HB_x.out;obtain⟨q0,q1,q2,q3,q4,q5,q6,q7⟩:=cl8 hBq;clear hBq;clear hA;refine⟨(by rfl),?_⟩;go_simp<;>(try with_reducible rfl)
 refine Rely.Chain.det ?_ (by rfl) (fun T xs wr hA=>?_) ?_
 rotate_left 1
 ·have e34:=(hA.tm 4 34 (by rfl) (by rfl)).trans (congrArg some (hA.fa 4 (by rfl)))
  (try simp (disch:=first | rfl | decide) only [Rely.mask_in] at e34)
  clear hA;refine⟨(by rfl),?_⟩;go_simp<;>(try with_reducible rfl)
 refine Rely.Chain.det ?_ (by rfl) (fun T xs wr hA=>?_) ?_
 rotate_left 1
 ·have e35:=(hA.tm 5 35 (by rfl) (by rfl)).trans (congrArg some (hA.fa 5 (by rfl)))
  (try simp (disch:=first | rfl | decide) only [Rely.mask_in] at e35)
  have hbw:=undrew (hA.be _ (Nat.le_refl _) (fun q h=>absurd h (Nat.not_lt_zero q)));have sgc:=HSG.out wr hbw;clear hbw;clear hA;refine⟨(by rfl),?_⟩;go_simp<;>(try with_reducible rfl)
 refine Rely.Chain.done (fun xs w10 hL=>?_);obtain⟨⟨hbe,hbl,hkp0⟩,hf,hp,hn⟩:=hL;have f0:xs 0=_:=hf 0 (by decide);have f1:xs 1=_:=hf 1 (by decide);have f2:xs 2=_:=hf 2 (by decide);have f3:xs 3=_:=hf 3 (by decide);have f4:xs 4=_:=hf 4 (by decide);have f5:xs 5=_:=hf 5 (by decide);have f6:xs 6=_:=hf 6 (by decide)
 (try simp (disch:=first | rfl | decide) only [Rely.mask_in] at f0 f1 f2 f3 f4 f5 f6)
 have hbx:Below w9.heap.size w9 w10:=undrew (hbe _ (Nat.le_refl _) (fun q h=>absurd h (Nat.not_lt_zero q)));clear hbe hbl hkp0 hf hp hn;replace HB_x:=h_ ((hbx.block _ hlt_x).trans HB_x.out);clear hlt_x;refine Rely.rest_list (by decide) (by kernel_rfl) ?_;simp only[Rely.fill,List.take_succ_cons,List.take_zero,List.drop_succ_cons,List.drop_zero,List.setIfInBounds_toArray,List.set_cons_zero,List.set_cons_succ,f0,f1,f2,f3,f4,f5,f6];clear f0 f1 f2 f3 f4 f5 f6;have HBX:=h_ hbx;have hs10:=hbx.size;have H10:=h_ (HW9.out.below hbx);have HB10:=h_ (HB9.out.trans (hbx.mono (by omega)));have HF10:=h_ (HF9.out.trans (fr_below hbx));clear hbx;clear x0 x1 x2 x3 x4 x5 x6 x7;go_wp2_with fail
 refine (wr_str w0.heap.size b l (sg5 1) w10 H10.out (by omega) (by omega)).mono ?_;rintro e w11 ⟨⟨v,rfl⟩,hw5,hb5,hfr5⟩;have H11:=h_ hw5;have HB11:=h_ (HB10.out.trans hb5);have HF11:=h_ (HF10.out.trans hfr5);clear hw5 hb5 hfr5;go_wp2_with fail
 go_end0
 exact⟨⟨_,rfl⟩,(by rw[HTX.out];exact H11.out),HB11.out,HF11.out⟩
theorem bare_c2 (w0:World) (d:Nat) (E:Hid (ExprAt w0 d)) (b:Nat) (l:Bs) (k:Nat) (nm ot:Bs) (z:Nat) (ks:List T) (x:X) (S:Nat->Prop) (w:World) (ht:Tabs w0) (hk0:k=2) (h:Tr w0 S (d+1) x (.node k nm ot z ks)) (ho:Og (d+1) (.node k nm ot z ks))
  (hbw:Below w0.heap.size w0 w) (hwr:Wr w0.heap.size b l w) (hlen:l.length+(tx (.node k nm ot z ks)).length<=1000000) :
  Calls Tryz.prog 106 #[.pointer (some ⟨b,0,none⟩),xv x] w (WrPost w0.heap.size b (l++tx (.node k nm ot z ks)) w):=by
 subst hk0;have HTX:Hid (tx (.node 2 nm ot z ks)=sg5 2):=h_ (by rw[tx];rfl);rw[HTX.out] at hlen;have hsl:=sg5_len 2 (by decide);have HOK:=h_ ho;obtain⟨hk,hn,hoo,hz,ha,hl,hks⟩:=ho;have htr:=h;obtain⟨⟨e1,e2,e3,e4⟩,⟨h2,h3⟩,⟨h4,h5,h6⟩,h7⟩:=h;obtain⟨xk,xnm,xot,xb,xao,xn,xq,xko,xkn,xkc,xln,xcl⟩:=x;simp only at e1 e2 e3 e4 h2 h3 h4 h5 h6 h7;subst e1 e2 e3 e4 h4;have HTR:=h_ htr;have HK:=h_ h7;have HKS:=h_ hks;have HS:=h_ h2;have HT:=h_ ht;have HBW:=h_ hbw;have HWR:=h_ hwr;have hsB:=hbw.size;obtain⟨k3,hk3⟩:∃ k3,k3=w.heap.size:=⟨_,rfl⟩
 obtain⟨w9,hw9⟩:∃ w9,w9=w.alloc (.cells #[.int .i64 2,.string ⟨nm.toArray⟩,.string ⟨ot.toArray⟩,.bool false,.slice xao xn xq,.slice xko ks.length xkc,.int .i64 xln,.int .i64 xcl] 46):=⟨_,rfl⟩
 have hba:Below w.heap.size w w9:=by rw[hw9];exact (Below.refl _ _).alloc (Nat.le_refl _) _
 have hx9:w9.heap[k3]?=some (.cells #[.int .i64 2,.string ⟨nm.toArray⟩,.string ⟨ot.toArray⟩,.bool false,.slice xao xn xq,.slice xko ks.length xkc,.int .i64 xln,.int .i64 xcl] 46 (0,0)):=by rw[hw9,hk3];exact made_at w _ _ rfl
 have HB_x:=h_ hx9;have HW9:=h_ (HWR.out.below hba);have HB9:=h_ (hba.mono hsB);have HF9:=h_ (fr_below hba);have hs9:=hba.size;have x0:=cell_at (v:=.int .i64 2) hx9 0 rfl;have x1:=cell_at (v:=.string ⟨nm.toArray⟩) hx9 1 rfl;have x2:=cell_at (v:=.string ⟨ot.toArray⟩) hx9 2 rfl;have x3:=cell_at (v:=.bool false) hx9 3 rfl;have x4:=cell_at (v:=.slice xao xn xq) hx9 4 rfl;have x5:=cell_at (v:=.slice xko ks.length xkc) hx9 5 rfl;have x6:=cell_at (v:=.int .i64 xln) hx9 6 rfl;have x7:=cell_at (v:=.int .i64 xcl) hx9 7 rfl;clear htr h2 h3 h6 h7 hks ha hba hx9 ht hbw hwr;simp only[xv];go_enter Tryz.func106,Tryz.ntmps106
 go_upto_region 1 with fail
 rw[<-hw9,<-hk3];clear hw9 hk3;have HSG:Hid (∀ wr,Below w9.heap.size w9 wr->wr.cell? ⟨3,2,none⟩=some (.string ⟨(sg5 2).toArray⟩)):=h_ fun wr hb=>((HT.out.below (HBW.out.trans HB9.out)).below hb).sg 2 (by decide)
 go_wp2_with fail
 have hlt_x:=lt_of_block HB_x.out;refine Rely.region (by kernel_rfl) [[],[0],[0,1],[],[3],[3,4],[3,4,5],[0,1,2,3,4,5,6]] [] [] (fun _=>0) 0 7 (by kernel_rfl) (by kernel_rfl) (fun q h=>absurd h (Nat.not_lt_zero q)) (fun q _ h=>absurd h (Nat.not_lt_zero q)) ?_;refine Rely.Chain.det ?_ (by rfl) (fun T xs wr hA=>?_) ?_
 rotate_left 1
 ·have e0:=hA.pre 0 (by kernel_rfl);simp only[gsa,gsz] at e0;clear hA;refine⟨(by rfl),?_⟩;go_simp<;>(try with_reducible rfl)
 refine Rely.Chain.det ?_ (by rfl) (fun T xs wr hA=>?_) ?_
 rotate_left 1
 ·have e30:=(hA.tm 0 30 (by rfl) (by rfl)).trans (congrArg some (hA.fa 0 (by rfl)))
  (try simp (disch:=first | rfl | decide) only [Rely.mask_in] at e30)
  clear hA;refine⟨(by rfl),?_⟩;go_simp<;>(try with_reducible rfl)
 refine Rely.Chain.det ?_ (by rfl) (fun T xs wr hA=>?_) ?_
 rotate_left 1
 ·have e31:=(hA.tm 1 31 (by rfl) (by rfl)).trans (congrArg some (hA.fa 1 (by rfl)))
  (try simp (disch:=first | rfl | decide) only [Rely.mask_in] at e31)
  clear hA;refine⟨(by rfl),?_⟩;go_simp<;>(try with_reducible rfl)
 refine Rely.Chain.det ?_ (by rfl) (fun T xs wr hA=>?_) ?_
 rotate_left 1
 ·have e3:=hA.pre 3 (by kernel_rfl);simp only[gsa,gsc,gsz] at e3;clear hA;refine⟨(by rfl),?_⟩;go_simp<;>(try with_reducible rfl)
 refine Rely.Chain.det ?_ (by rfl) (fun T xs wr hA=>?_) ?_
 rotate_left 1
 ·have e33:=(hA.tm 3 33 (by rfl) (by rfl)).trans (congrArg some (hA.fa 3 (by rfl)))
  (try simp (disch:=first | rfl | decide) only [Rely.mask_in] at e33)
  have hBq:wr.heap[k3]?=_:=(hA.bl _ hlt_x (fun q h=>absurd h (Nat.not_lt_zero q))).trans HB_x.out;obtain⟨q0,q1,q2,q3,q4,q5,q6,q7⟩:=cl8 hBq;clear hBq;clear hA;refine⟨(by rfl),?_⟩;go_simp<;>(try with_reducible rfl)
 refine Rely.Chain.det ?_ (by rfl) (fun T xs wr hA=>?_) ?_
 rotate_left 1
 ·have e34:=(hA.tm 4 34 (by rfl) (by rfl)).trans (congrArg some (hA.fa 4 (by rfl)))
  (try simp (disch:=first | rfl | decide) only [Rely.mask_in] at e34)
  clear hA;refine⟨(by rfl),?_⟩;go_simp<;>(try with_reducible rfl)
 refine Rely.Chain.det ?_ (by rfl) (fun T xs wr hA=>?_) ?_
 rotate_left 1
 ·have e35:=(hA.tm 5 35 (by rfl) (by rfl)).trans (congrArg some (hA.fa 5 (by rfl)))
  (try simp (disch:=first | rfl | decide) only [Rely.mask_in] at e35)
  have hbw:=undrew (hA.be _ (Nat.le_refl _) (fun q h=>absurd h (Nat.not_lt_zero q)));have sgc:=HSG.out wr hbw;clear hbw;clear hA;refine⟨(by rfl),?_⟩;go_simp<;>(try with_reducible rfl)
 refine Rely.Chain.done (fun xs w10 hL=>?_);obtain⟨⟨hbe,hbl,hkp0⟩,hf,hp,hn⟩:=hL;have f0:xs 0=_:=hf 0 (by decide);have f1:xs 1=_:=hf 1 (by decide);have f2:xs 2=_:=hf 2 (by decide);have f3:xs 3=_:=hf 3 (by decide);have f4:xs 4=_:=hf 4 (by decide);have f5:xs 5=_:=hf 5 (by decide);have f6:xs 6=_:=hf 6 (by decide)
 (try simp (disch:=first | rfl | decide) only [Rely.mask_in] at f0 f1 f2 f3 f4 f5 f6)
 have hbx:Below w9.heap.size w9 w10:=undrew (hbe _ (Nat.le_refl _) (fun q h=>absurd h (Nat.not_lt_zero q)));clear hbe hbl hkp0 hf hp hn;replace HB_x:=h_ ((hbx.block _ hlt_x).trans HB_x.out);clear hlt_x;refine Rely.rest_list (by decide) (by kernel_rfl) ?_;simp only[Rely.fill,List.take_succ_cons,List.take_zero,List.drop_succ_cons,List.drop_zero,List.setIfInBounds_toArray,List.set_cons_zero,List.set_cons_succ,f0,f1,f2,f3,f4,f5,f6];clear f0 f1 f2 f3 f4 f5 f6;have HBX:=h_ hbx;have hs10:=hbx.size;have H10:=h_ (HW9.out.below hbx);have HB10:=h_ (HB9.out.trans (hbx.mono (by omega)));have HF10:=h_ (HF9.out.trans (fr_below hbx));clear hbx;clear x0 x1 x2 x3 x4 x5 x6 x7;go_wp2_with fail
 refine (wr_str w0.heap.size b l (sg5 2) w10 H10.out (by omega) (by omega)).mono ?_;rintro e w11 ⟨⟨v,rfl⟩,hw5,hb5,hfr5⟩;have H11:=h_ hw5;have HB11:=h_ (HB10.out.trans hb5);have HF11:=h_ (HF10.out.trans hfr5);clear hw5 hb5 hfr5;go_wp2_with fail
 go_end0
 exact⟨⟨_,rfl⟩,(by rw[HTX.out];exact H11.out),HB11.out,HF11.out⟩
theorem bare_c4 (w0:World) (d:Nat) (E:Hid (ExprAt w0 d)) (b:Nat) (l:Bs) (k:Nat) (nm ot:Bs) (z:Nat) (ks:List T) (x:X) (S:Nat->Prop) (w:World) (ht:Tabs w0) (hk0:k=4) (h:Tr w0 S (d+1) x (.node k nm ot z ks)) (ho:Og (d+1) (.node k nm ot z ks))
  (hbw:Below w0.heap.size w0 w) (hwr:Wr w0.heap.size b l w) (hlen:l.length+(tx (.node k nm ot z ks)).length<=1000000) :
  Calls Tryz.prog 106 #[.pointer (some ⟨b,0,none⟩),xv x] w (WrPost w0.heap.size b (l++tx (.node k nm ot z ks)) w):=by
 subst hk0;have HTX:Hid (tx (.node 4 nm ot z ks)=sg5 4):=h_ (by rw[tx];rfl);rw[HTX.out] at hlen;have hsl:=sg5_len 4 (by decide);have HOK:=h_ ho;obtain⟨hk,hn,hoo,hz,ha,hl,hks⟩:=ho;have htr:=h;obtain⟨⟨e1,e2,e3,e4⟩,⟨h2,h3⟩,⟨h4,h5,h6⟩,h7⟩:=h;obtain⟨xk,xnm,xot,xb,xao,xn,xq,xko,xkn,xkc,xln,xcl⟩:=x;simp only at e1 e2 e3 e4 h2 h3 h4 h5 h6 h7;subst e1 e2 e3 e4 h4;have HTR:=h_ htr;have HK:=h_ h7;have HKS:=h_ hks;have HS:=h_ h2;have HT:=h_ ht;have HBW:=h_ hbw;have HWR:=h_ hwr;have hsB:=hbw.size;obtain⟨k3,hk3⟩:∃ k3,k3=w.heap.size:=⟨_,rfl⟩
 obtain⟨w9,hw9⟩:∃ w9,w9=w.alloc (.cells #[.int .i64 4,.string ⟨nm.toArray⟩,.string ⟨ot.toArray⟩,.bool false,.slice xao xn xq,.slice xko ks.length xkc,.int .i64 xln,.int .i64 xcl] 46):=⟨_,rfl⟩
 have hba:Below w.heap.size w w9:=by rw[hw9];exact (Below.refl _ _).alloc (Nat.le_refl _) _
 have hx9:w9.heap[k3]?=some (.cells #[.int .i64 4,.string ⟨nm.toArray⟩,.string ⟨ot.toArray⟩,.bool false,.slice xao xn xq,.slice xko ks.length xkc,.int .i64 xln,.int .i64 xcl] 46 (0,0)):=by rw[hw9,hk3];exact made_at w _ _ rfl
 have HB_x:=h_ hx9;have HW9:=h_ (HWR.out.below hba);have HB9:=h_ (hba.mono hsB);have HF9:=h_ (fr_below hba);have hs9:=hba.size;have x0:=cell_at (v:=.int .i64 4) hx9 0 rfl;have x1:=cell_at (v:=.string ⟨nm.toArray⟩) hx9 1 rfl;have x2:=cell_at (v:=.string ⟨ot.toArray⟩) hx9 2 rfl;have x3:=cell_at (v:=.bool false) hx9 3 rfl;have x4:=cell_at (v:=.slice xao xn xq) hx9 4 rfl;have x5:=cell_at (v:=.slice xko ks.length xkc) hx9 5 rfl;have x6:=cell_at (v:=.int .i64 xln) hx9 6 rfl;have x7:=cell_at (v:=.int .i64 xcl) hx9 7 rfl;clear htr h2 h3 h6 h7 hks ha hba hx9 ht hbw hwr;simp only[xv];go_enter Tryz.func106,Tryz.ntmps106
 go_upto_region 1 with fail
 rw[<-hw9,<-hk3];clear hw9 hk3;have HSG:Hid (∀ wr,Below w9.heap.size w9 wr->wr.cell? ⟨3,4,none⟩=some (.string ⟨(sg5 4).toArray⟩)):=h_ fun wr hb=>((HT.out.below (HBW.out.trans HB9.out)).below hb).sg 4 (by decide)
 go_wp2_with fail
 have hlt_x:=lt_of_block HB_x.out;refine Rely.region (by kernel_rfl) [[],[0],[0,1],[],[3],[3,4],[3,4,5],[0,1,2,3,4,5,6]] [] [] (fun _=>0) 0 7 (by kernel_rfl) (by kernel_rfl) (fun q h=>absurd h (Nat.not_lt_zero q)) (fun q _ h=>absurd h (Nat.not_lt_zero q)) ?_;refine Rely.Chain.det ?_ (by rfl) (fun T xs wr hA=>?_) ?_
 rotate_left 1
 ·have e0:=hA.pre 0 (by kernel_rfl);simp only[gsa,gsz] at e0;clear hA;refine⟨(by rfl),?_⟩;go_simp<;>(try with_reducible rfl)
 refine Rely.Chain.det ?_ (by rfl) (fun T xs wr hA=>?_) ?_
 rotate_left 1
 ·have e30:=(hA.tm 0 30 (by rfl) (by rfl)).trans (congrArg some (hA.fa 0 (by rfl)))
  (try simp (disch:=first | rfl | decide) only [Rely.mask_in] at e30)
  clear hA;refine⟨(by rfl),?_⟩;go_simp<;>(try with_reducible rfl)
 refine Rely.Chain.det ?_ (by rfl) (fun T xs wr hA=>?_) ?_
 rotate_left 1
 ·have e31:=(hA.tm 1 31 (by rfl) (by rfl)).trans (congrArg some (hA.fa 1 (by rfl)))
  (try simp (disch:=first | rfl | decide) only [Rely.mask_in] at e31)
  clear hA;refine⟨(by rfl),?_⟩;go_simp<;>(try with_reducible rfl)
 refine Rely.Chain.det ?_ (by rfl) (fun T xs wr hA=>?_) ?_
 rotate_left 1
 ·have e3:=hA.pre 3 (by kernel_rfl);simp only[gsa,gsc,gsz] at e3;clear hA;refine⟨(by rfl),?_⟩;go_simp<;>(try with_reducible rfl)
 refine Rely.Chain.det ?_ (by rfl) (fun T xs wr hA=>?_) ?_
 rotate_left 1
 ·have e33:=(hA.tm 3 33 (by rfl) (by rfl)).trans (congrArg some (hA.fa 3 (by rfl)))
  (try simp (disch:=first | rfl | decide) only [Rely.mask_in] at e33)
  have hBq:wr.heap[k3]?=_:=(hA.bl _ hlt_x (fun q h=>absurd h (Nat.not_lt_zero q))).trans HB_x.out;obtain⟨q0,q1,q2,q3,q4,q5,q6,q7⟩:=cl8 hBq;clear hBq;clear hA;refine⟨(by rfl),?_⟩;go_simp<;>(try with_reducible rfl)
 refine Rely.Chain.det ?_ (by rfl) (fun T xs wr hA=>?_) ?_
 rotate_left 1
 ·have e34:=(hA.tm 4 34 (by rfl) (by rfl)).trans (congrArg some (hA.fa 4 (by rfl)))
  (try simp (disch:=first | rfl | decide) only [Rely.mask_in] at e34)
  clear hA;refine⟨(by rfl),?_⟩;go_simp<;>(try with_reducible rfl)
 refine Rely.Chain.det ?_ (by rfl) (fun T xs wr hA=>?_) ?_
 rotate_left 1
 ·have e35:=(hA.tm 5 35 (by rfl) (by rfl)).trans (congrArg some (hA.fa 5 (by rfl)))
  (try simp (disch:=first | rfl | decide) only [Rely.mask_in] at e35)
  have hbw:=undrew (hA.be _ (Nat.le_refl _) (fun q h=>absurd h (Nat.not_lt_zero q)));have sgc:=HSG.out wr hbw;clear hbw;clear hA;refine⟨(by rfl),?_⟩;go_simp<;>(try with_reducible rfl)
 refine Rely.Chain.done (fun xs w10 hL=>?_);obtain⟨⟨hbe,hbl,hkp0⟩,hf,hp,hn⟩:=hL;have f0:xs 0=_:=hf 0 (by decide);have f1:xs 1=_:=hf 1 (by decide);have f2:xs 2=_:=hf 2 (by decide);have f3:xs 3=_:=hf 3 (by decide);have f4:xs 4=_:=hf 4 (by decide);have f5:xs 5=_:=hf 5 (by decide);have f6:xs 6=_:=hf 6 (by decide)
 (try simp (disch:=first | rfl | decide) only [Rely.mask_in] at f0 f1 f2 f3 f4 f5 f6)
 have hbx:Below w9.heap.size w9 w10:=undrew (hbe _ (Nat.le_refl _) (fun q h=>absurd h (Nat.not_lt_zero q)));clear hbe hbl hkp0 hf hp hn;replace HB_x:=h_ ((hbx.block _ hlt_x).trans HB_x.out);clear hlt_x;refine Rely.rest_list (by decide) (by kernel_rfl) ?_;simp only[Rely.fill,List.take_succ_cons,List.take_zero,List.drop_succ_cons,List.drop_zero,List.setIfInBounds_toArray,List.set_cons_zero,List.set_cons_succ,f0,f1,f2,f3,f4,f5,f6];clear f0 f1 f2 f3 f4 f5 f6;have HBX:=h_ hbx;have hs10:=hbx.size;have H10:=h_ (HW9.out.below hbx);have HB10:=h_ (HB9.out.trans (hbx.mono (by omega)));have HF10:=h_ (HF9.out.trans (fr_below hbx));clear hbx;clear x0 x1 x2 x3 x4 x5 x6 x7;go_wp2_with fail
 refine (wr_str w0.heap.size b l (sg5 4) w10 H10.out (by omega) (by omega)).mono ?_;rintro e w11 ⟨⟨v,rfl⟩,hw5,hb5,hfr5⟩;have H11:=h_ hw5;have HB11:=h_ (HB10.out.trans hb5);have HF11:=h_ (HF10.out.trans hfr5);clear hw5 hb5 hfr5;go_wp2_with fail
 go_end0
 exact⟨⟨_,rfl⟩,(by rw[HTX.out];exact H11.out),HB11.out,HF11.out⟩
theorem bare_u5 (w0:World) (d:Nat) (E:Hid (ExprAt w0 d)) (b:Nat) (l:Bs) (k:Nat) (nm ot:Bs) (z:Nat) (ks:List T) (x:X) (S:Nat->Prop) (w:World) (ht:Tabs w0) (hk0:k=5) (h:Tr w0 S (d+1) x (.node k nm ot z ks)) (ho:Og (d+1) (.node k nm ot z ks))
  (hbw:Below w0.heap.size w0 w) (hwr:Wr w0.heap.size b l w) (hlen:l.length+(tx (.node k nm ot z ks)).length<=1000000) :
  Calls Tryz.prog 106 #[.pointer (some ⟨b,0,none⟩),xv x] w (WrPost w0.heap.size b (l++tx (.node k nm ot z ks)) w):=by
 subst hk0
 obtain⟨t0,hks1⟩:∃ t0,ks=[t0]:=by
  have:ks.length=1:=by
   rcases ho.2.2.2.2.1 with ha | ha
   ·omega
   exact ha
  match ks,this with
  | [a],_=>exact⟨a,rfl⟩
 subst hks1;have HTX:Hid (tx (.node 5 nm ot z [t0])=sg5 5++ex (lv 5) t0):=h_ (by rw[tx];rfl);rw[HTX.out] at hlen;simp only[lsa] at hlen;have hsl:=sg5_len 5 (by decide);have hK0:Og d t0:=ho.2.2.2.2.2.2 t0 (by simp);obtain⟨y0,hA0,hT0⟩:=h.2.2.2 0 (by simp);have HA0:=h_ hA0;have HT0:=h_ hT0;clear hA0 hT0;have HOK:=h_ ho;obtain⟨hk,hn,hoo,hz,ha,hl,hks⟩:=ho;have htr:=h;obtain⟨⟨e1,e2,e3,e4⟩,⟨h2,h3⟩,⟨h4,h5,h6⟩,h7⟩:=h;obtain⟨xk,xnm,xot,xb,xao,xn,xq,xko,xkn,xkc,xln,xcl⟩:=x;obtain⟨a,hxa,-⟩:=HA0.out;simp only at hxa;subst hxa;simp only at e1 e2 e3 e4 h2 h3 h4 h5 h6 h7;subst e1 e2 e3 e4 h4;have HTR:=h_ htr;have HK:=h_ h7;have HKS:=h_ hks;have HS:=h_ h2;have HT:=h_ ht;have HBW:=h_ hbw;have HWR:=h_ hwr;have hsB:=hbw.size;obtain⟨k3,hk3⟩:∃ k3,k3=w.heap.size:=⟨_,rfl⟩
 obtain⟨w9,hw9⟩:∃ w9,w9=w.alloc (.cells #[.int .i64 5,.string ⟨nm.toArray⟩,.string ⟨ot.toArray⟩,.bool false,.slice xao xn xq,.slice (some a) 1 xkc,.int .i64 xln,.int .i64 xcl] 46):=⟨_,rfl⟩
 have hba:Below w.heap.size w w9:=by rw[hw9];exact (Below.refl _ _).alloc (Nat.le_refl _) _
 have hx9:w9.heap[k3]?=some (.cells #[.int .i64 5,.string ⟨nm.toArray⟩,.string ⟨ot.toArray⟩,.bool false,.slice xao xn xq,.slice (some a) 1 xkc,.int .i64 xln,.int .i64 xcl] 46 (0,0)):=by rw[hw9,hk3];exact made_at w _ _ rfl
 have HB_x:=h_ hx9;have HW9:=h_ (HWR.out.below hba);have HB9:=h_ (hba.mono hsB);have HF9:=h_ (fr_below hba);have hs9:=hba.size;have x0:=cell_at (v:=.int .i64 5) hx9 0 rfl;have x1:=cell_at (v:=.string ⟨nm.toArray⟩) hx9 1 rfl;have x2:=cell_at (v:=.string ⟨ot.toArray⟩) hx9 2 rfl;have x3:=cell_at (v:=.bool false) hx9 3 rfl;have x4:=cell_at (v:=.slice xao xn xq) hx9 4 rfl;have x5:=cell_at (v:=.slice (some a) 1 xkc) hx9 5 rfl;have x6:=cell_at (v:=.int .i64 xln) hx9 6 rfl;have x7:=cell_at (v:=.int .i64 xcl) hx9 7 rfl;clear htr h2 h3 h6 h7 hks ha hba hx9 ht hbw hwr;simp only[xv,lsc,lsn];go_enter Tryz.func106,Tryz.ntmps106
 go_upto_region 1 with fail
 rw[<-hw9,<-hk3];clear hw9 hk3;have HSG:Hid (∀ wr,Below w9.heap.size w9 wr->wr.cell? ⟨3,5,none⟩=some (.string ⟨(sg5 5).toArray⟩)):=h_ fun wr hb=>((HT.out.below (HBW.out.trans HB9.out)).below hb).sg 5 (by decide)
 go_wp2_with fail
 have hlt_x:=lt_of_block HB_x.out;refine Rely.region (by kernel_rfl) [[],[0],[0,1],[],[3],[3,4],[3,4,5],[0,1,2,3,4,5,6]] [] [] (fun _=>0) 0 7 (by kernel_rfl) (by kernel_rfl) (fun q h=>absurd h (Nat.not_lt_zero q)) (fun q _ h=>absurd h (Nat.not_lt_zero q)) ?_;refine Rely.Chain.det ?_ (by rfl) (fun T xs wr hA=>?_) ?_
 rotate_left 1
 ·have e0:=hA.pre 0 (by kernel_rfl);simp only[gsa,gsz] at e0;clear hA;refine⟨(by rfl),?_⟩;go_simp<;>(try with_reducible rfl)
 refine Rely.Chain.det ?_ (by rfl) (fun T xs wr hA=>?_) ?_
 rotate_left 1
 ·have e44:=(hA.tm 0 44 (by rfl) (by rfl)).trans (congrArg some (hA.fa 0 (by rfl)))
  (try simp (disch:=first | rfl | decide) only [Rely.mask_in] at e44)
  clear hA;refine⟨(by rfl),?_⟩;go_simp<;>(try with_reducible rfl)
 refine Rely.Chain.det ?_ (by rfl) (fun T xs wr hA=>?_) ?_
 rotate_left 1
 ·have e45:=(hA.tm 1 45 (by rfl) (by rfl)).trans (congrArg some (hA.fa 1 (by rfl)))
  (try simp (disch:=first | rfl | decide) only [Rely.mask_in] at e45)
  clear hA;refine⟨(by rfl),?_⟩;go_simp<;>(try with_reducible rfl)
 refine Rely.Chain.det ?_ (by rfl) (fun T xs wr hA=>?_) ?_
 rotate_left 1
 ·have e3:=hA.pre 3 (by kernel_rfl);simp only[gsa,gsc,gsz] at e3;clear hA;refine⟨(by rfl),?_⟩;go_simp<;>(try with_reducible rfl)
 refine Rely.Chain.det ?_ (by rfl) (fun T xs wr hA=>?_) ?_
 rotate_left 1
 ·have e47:=(hA.tm 3 47 (by rfl) (by rfl)).trans (congrArg some (hA.fa 3 (by rfl)))
  (try simp (disch:=first | rfl | decide) only [Rely.mask_in] at e47)
  have hBq:wr.heap[k3]?=_:=(hA.bl _ hlt_x (fun q h=>absurd h (Nat.not_lt_zero q))).trans HB_x.out;obtain⟨q0,q1,q2,q3,q4,q5,q6,q7⟩:=cl8 hBq;clear hBq;clear hA;refine⟨(by rfl),?_⟩;go_simp<;>(try with_reducible rfl)
 refine Rely.Chain.det ?_ (by rfl) (fun T xs wr hA=>?_) ?_
 rotate_left 1
 ·have e48:=(hA.tm 4 48 (by rfl) (by rfl)).trans (congrArg some (hA.fa 4 (by rfl)))
  (try simp (disch:=first | rfl | decide) only [Rely.mask_in] at e48)
  clear hA;refine⟨(by rfl),?_⟩;go_simp<;>(try with_reducible rfl)
 refine Rely.Chain.det ?_ (by rfl) (fun T xs wr hA=>?_) ?_
 rotate_left 1
 ·have e49:=(hA.tm 5 49 (by rfl) (by rfl)).trans (congrArg some (hA.fa 5 (by rfl)))
  (try simp (disch:=first | rfl | decide) only [Rely.mask_in] at e49)
  have hbw:=undrew (hA.be _ (Nat.le_refl _) (fun q h=>absurd h (Nat.not_lt_zero q)));have sgc:=HSG.out wr hbw;clear hbw;clear hA;refine⟨(by rfl),?_⟩;go_simp<;>(try with_reducible rfl)
 refine Rely.Chain.done (fun xs w10 hL=>?_);obtain⟨⟨hbe,hbl,hkp0⟩,hf,hp,hn⟩:=hL;have f0:xs 0=_:=hf 0 (by decide);have f1:xs 1=_:=hf 1 (by decide);have f2:xs 2=_:=hf 2 (by decide);have f3:xs 3=_:=hf 3 (by decide);have f4:xs 4=_:=hf 4 (by decide);have f5:xs 5=_:=hf 5 (by decide);have f6:xs 6=_:=hf 6 (by decide)
 (try simp (disch:=first | rfl | decide) only [Rely.mask_in] at f0 f1 f2 f3 f4 f5 f6)
 have hbx:Below w9.heap.size w9 w10:=undrew (hbe _ (Nat.le_refl _) (fun q h=>absurd h (Nat.not_lt_zero q)));clear hbe hbl hkp0 hf hp hn;replace HB_x:=h_ ((hbx.block _ hlt_x).trans HB_x.out);clear hlt_x;refine Rely.rest_list (by decide) (by kernel_rfl) ?_;simp only[Rely.fill,List.take_succ_cons,List.take_zero,List.drop_succ_cons,List.drop_zero,List.setIfInBounds_toArray,List.set_cons_zero,List.set_cons_succ,f0,f1,f2,f3,f4,f5,f6];clear f0 f1 f2 f3 f4 f5 f6;have HBX:=h_ hbx;have hs10:=hbx.size;have H10:=h_ (HW9.out.below hbx);have HB10:=h_ (HB9.out.trans (hbx.mono (by omega)));have HF10:=h_ (HF9.out.trans (fr_below hbx));clear hbx;clear x0 x1 x2 x3 x4 x5 x6 x7;go_wp2_with fail
 refine (wr_str w0.heap.size b l (sg5 5) w10 H10.out (by omega) (by omega)).mono ?_;rintro e w11 ⟨⟨v,rfl⟩,hw5,hb5,hfr5⟩;have hs11:=hb5.size;replace HB_x:=h_ (hfr5 k3 _ _ _ HB_x.out (by decide) (by decide));have H11:=h_ hw5;have HB11:=h_ (HB10.out.trans hb5);have HF11:=h_ (HF10.out.trans hfr5);have HLV:Hid (∀ wr,Below w11.heap.size w11 wr->wr.cell? ⟨1,5,none⟩=some (.int .i64 (lv 5:Nat))):=h_ fun wr hb=>((HT.out.below (HBW.out.trans HB11.out)).below hb).lv 5 (by decide)
 clear hw5 hb5 hfr5;go_wp2_with fail
 have hlt_x:=lt_of_block HB_x.out;refine Rely.region (by kernel_rfl) [[],[],[1],[1,2],[1,2,3],[],[5],[5,6],[5,6,7],[0,1,2,3,4,5,6,7,8]] [] [] (fun _=>0) 0 9 (by kernel_rfl) (by kernel_rfl) (fun q h=>absurd h (Nat.not_lt_zero q)) (fun q _ h=>absurd h (Nat.not_lt_zero q)) ?_;refine Rely.Chain.det ?_ (by rfl) (fun T xs wr hA=>?_) ?_
 rotate_left 1
 ·have e0:=hA.pre 0 (by kernel_rfl);simp only[gsa,gsz] at e0;clear hA;refine⟨(by rfl),?_⟩;go_simp<;>(try with_reducible rfl)
 refine Rely.Chain.det ?_ (by rfl) (fun T xs wr hA=>?_) ?_
 rotate_left 1
 ·have e3:=hA.pre 3 (by kernel_rfl);simp only[gsa,gsc,gsz] at e3;clear hA;refine⟨(by rfl),?_⟩;go_simp<;>(try with_reducible rfl)
 refine Rely.Chain.det ?_ (by rfl) (fun T xs wr hA=>?_) ?_
 rotate_left 1
 ·have e53:=(hA.tm 1 53 (by rfl) (by rfl)).trans (congrArg some (hA.fa 1 (by rfl)))
  (try simp (disch:=first | rfl | decide) only [Rely.mask_in] at e53)
  have hBq:wr.heap[k3]?=_:=(hA.bl _ hlt_x (fun q h=>absurd h (Nat.not_lt_zero q))).trans HB_x.out;obtain⟨q0,q1,q2,q3,q4,q5,q6,q7⟩:=cl8 hBq;clear hBq;clear hA;refine⟨(by rfl),?_⟩;go_simp<;>(try with_reducible rfl)
 refine Rely.Chain.det ?_ (by rfl) (fun T xs wr hA=>?_) ?_
 rotate_left 1
 ·have e54:=(hA.tm 2 54 (by rfl) (by rfl)).trans (congrArg some (hA.fa 2 (by rfl)))
  (try simp (disch:=first | rfl | decide) only [Rely.mask_in] at e54)
  clear hA;refine⟨(by rfl),?_⟩;go_simp<;>(try with_reducible rfl)
 refine Rely.Chain.det ?_ (by rfl) (fun T xs wr hA=>?_) ?_
 rotate_left 1
 ·have e55:=(hA.tm 3 55 (by rfl) (by rfl)).trans (congrArg some (hA.fa 3 (by rfl)))
  (try simp (disch:=first | rfl | decide) only [Rely.mask_in] at e55)
  have hbw:=undrew (hA.be _ (Nat.le_refl _) (fun q h=>absurd h (Nat.not_lt_zero q)));obtain⟨a2,ea,hc0⟩:=HA0.out.keep fun a ha=>((HBW.out.trans HB11.out).trans (hbw.mono (HBW.out.trans HB11.out).size)).block _ (HA0.out.lt a ha)
  injection ea with ea;subst ea;have e0:a.add (0*8)=a:=by simp[Addr.add]
  rw[e0] at hc0;obtain⟨c0,c1,c2,c3,c4,c5,c6,c7⟩:=cells8 hc0;clear hc0 e0 hbw;clear hA;refine⟨(by rfl),?_⟩;go_simp<;>(try with_reducible rfl)
 refine Rely.Chain.det ?_ (by rfl) (fun T xs wr hA=>?_) ?_
 rotate_left 1
 ·have e3:=hA.pre 3 (by kernel_rfl);simp only[gsa,gsc,gsz] at e3;clear hA;refine⟨(by rfl),?_⟩;go_simp<;>(try with_reducible rfl)
 refine Rely.Chain.det ?_ (by rfl) (fun T xs wr hA=>?_) ?_
 rotate_left 1
 ·have e57:=(hA.tm 5 57 (by rfl) (by rfl)).trans (congrArg some (hA.fa 5 (by rfl)))
  (try simp (disch:=first | rfl | decide) only [Rely.mask_in] at e57)
  have hBq:wr.heap[k3]?=_:=(hA.bl _ hlt_x (fun q h=>absurd h (Nat.not_lt_zero q))).trans HB_x.out;obtain⟨q0,q1,q2,q3,q4,q5,q6,q7⟩:=cl8 hBq;clear hBq;clear hA;refine⟨(by rfl),?_⟩;go_simp<;>(try with_reducible rfl)
 refine Rely.Chain.det ?_ (by rfl) (fun T xs wr hA=>?_) ?_
 rotate_left 1
 ·have e58:=(hA.tm 6 58 (by rfl) (by rfl)).trans (congrArg some (hA.fa 6 (by rfl)))
  (try simp (disch:=first | rfl | decide) only [Rely.mask_in] at e58)
  clear hA;refine⟨(by rfl),?_⟩;go_simp<;>(try with_reducible rfl)
 refine Rely.Chain.det ?_ (by rfl) (fun T xs wr hA=>?_) ?_
 rotate_left 1
 ·have e59:=(hA.tm 7 59 (by rfl) (by rfl)).trans (congrArg some (hA.fa 7 (by rfl)))
  (try simp (disch:=first | rfl | decide) only [Rely.mask_in] at e59)
  have hbw:=undrew (hA.be _ (Nat.le_refl _) (fun q h=>absurd h (Nat.not_lt_zero q)));have lvc:=HLV.out wr hbw;clear hbw;clear hA;refine⟨(by rfl),?_⟩;go_simp<;>(try with_reducible rfl)
 refine Rely.Chain.done (fun xs w12 hL=>?_);obtain⟨⟨hbe,hbl,hkp0⟩,hf,hp,hn⟩:=hL;have f0:xs 0=_:=hf 0 (by decide);have f1:xs 1=_:=hf 1 (by decide);have f2:xs 2=_:=hf 2 (by decide);have f3:xs 3=_:=hf 3 (by decide);have f4:xs 4=_:=hf 4 (by decide);have f5:xs 5=_:=hf 5 (by decide);have f6:xs 6=_:=hf 6 (by decide);have f7:xs 7=_:=hf 7 (by decide);have f8:xs 8=_:=hf 8 (by decide)
 (try simp (disch:=first | rfl | decide) only [Rely.mask_in] at f0 f1 f2 f3 f4 f5 f6 f7 f8)
 have hbx:Below w11.heap.size w11 w12:=undrew (hbe _ (Nat.le_refl _) (fun q h=>absurd h (Nat.not_lt_zero q)));clear hbe hbl hkp0 hf hp hn;replace HB_x:=h_ ((hbx.block _ hlt_x).trans HB_x.out);clear hlt_x;refine Rely.rest_list (by decide) (by kernel_rfl) ?_;simp only[Rely.fill,List.take_succ_cons,List.take_zero,List.drop_succ_cons,List.drop_zero,List.setIfInBounds_toArray,List.set_cons_zero,List.set_cons_succ,f0,f1,f2,f3,f4,f5,f6,f7,f8];clear f0 f1 f2 f3 f4 f5 f6 f7 f8;have hs12:=hbx.size;have H12:=h_ (H11.out.below hbx);have HB12:=h_ (HB11.out.trans (hbx.mono (by omega)));have HF12:=h_ (HF11.out.trans (fr_below hbx));clear hbx;go_wp2_with fail
 refine (E.out b _ (lv 5) y0 t0 S w12 HT0.out hK0 (by decide) (HBW.out.trans HB12.out) H12.out (by simp only[lsa];omega)).mono ?_;rintro e w13 ⟨⟨v2,rfl⟩,hw7,hb7,hfr7⟩;have H13:=h_ hw7;have HB13:=h_ (HB12.out.trans hb7);have HF13:=h_ (HF12.out.trans hfr7);clear hw7 hb7 hfr7;go_wp2_with fail
 go_end0
 exact⟨⟨_,rfl⟩,(by rw[HTX.out,<-List.append_assoc];exact H13.out),HB13.out,HF13.out⟩
theorem bare_u6 (w0:World) (d:Nat) (E:Hid (ExprAt w0 d)) (b:Nat) (l:Bs) (k:Nat) (nm ot:Bs) (z:Nat) (ks:List T) (x:X) (S:Nat->Prop) (w:World) (ht:Tabs w0) (hk0:k=6) (h:Tr w0 S (d+1) x (.node k nm ot z ks)) (ho:Og (d+1) (.node k nm ot z ks))
  (hbw:Below w0.heap.size w0 w) (hwr:Wr w0.heap.size b l w) (hlen:l.length+(tx (.node k nm ot z ks)).length<=1000000) :
  Calls Tryz.prog 106 #[.pointer (some ⟨b,0,none⟩),xv x] w (WrPost w0.heap.size b (l++tx (.node k nm ot z ks)) w):=by
 subst hk0
 obtain⟨t0,hks1⟩:∃ t0,ks=[t0]:=by
  have:ks.length=1:=by
   rcases ho.2.2.2.2.1 with ha | ha
   ·omega
   exact ha
  match ks,this with
  | [a],_=>exact⟨a,rfl⟩
 subst hks1;have HTX:Hid (tx (.node 6 nm ot z [t0])=sg5 6++ex (lv 6) t0):=h_ (by rw[tx];rfl);rw[HTX.out] at hlen;simp only[lsa] at hlen;have hsl:=sg5_len 6 (by decide);have hK0:Og d t0:=ho.2.2.2.2.2.2 t0 (by simp);obtain⟨y0,hA0,hT0⟩:=h.2.2.2 0 (by simp);have HA0:=h_ hA0;have HT0:=h_ hT0;clear hA0 hT0;have HOK:=h_ ho;obtain⟨hk,hn,hoo,hz,ha,hl,hks⟩:=ho;have htr:=h;obtain⟨⟨e1,e2,e3,e4⟩,⟨h2,h3⟩,⟨h4,h5,h6⟩,h7⟩:=h;obtain⟨xk,xnm,xot,xb,xao,xn,xq,xko,xkn,xkc,xln,xcl⟩:=x;obtain⟨a,hxa,-⟩:=HA0.out;simp only at hxa;subst hxa;simp only at e1 e2 e3 e4 h2 h3 h4 h5 h6 h7;subst e1 e2 e3 e4 h4;have HTR:=h_ htr;have HK:=h_ h7;have HKS:=h_ hks;have HS:=h_ h2;have HT:=h_ ht;have HBW:=h_ hbw;have HWR:=h_ hwr;have hsB:=hbw.size;obtain⟨k3,hk3⟩:∃ k3,k3=w.heap.size:=⟨_,rfl⟩
 obtain⟨w9,hw9⟩:∃ w9,w9=w.alloc (.cells #[.int .i64 6,.string ⟨nm.toArray⟩,.string ⟨ot.toArray⟩,.bool false,.slice xao xn xq,.slice (some a) 1 xkc,.int .i64 xln,.int .i64 xcl] 46):=⟨_,rfl⟩
 have hba:Below w.heap.size w w9:=by rw[hw9];exact (Below.refl _ _).alloc (Nat.le_refl _) _
 have hx9:w9.heap[k3]?=some (.cells #[.int .i64 6,.string ⟨nm.toArray⟩,.string ⟨ot.toArray⟩,.bool false,.slice xao xn xq,.slice (some a) 1 xkc,.int .i64 xln,.int .i64 xcl] 46 (0,0)):=by rw[hw9,hk3];exact made_at w _ _ rfl
 have HB_x:=h_ hx9;have HW9:=h_ (HWR.out.below hba);have HB9:=h_ (hba.mono hsB);have HF9:=h_ (fr_below hba);have hs9:=hba.size;have x0:=cell_at (v:=.int .i64 6) hx9 0 rfl;have x1:=cell_at (v:=.string ⟨nm.toArray⟩) hx9 1 rfl;have x2:=cell_at (v:=.string ⟨ot.toArray⟩) hx9 2 rfl;have x3:=cell_at (v:=.bool false) hx9 3 rfl;have x4:=cell_at (v:=.slice xao xn xq) hx9 4 rfl;have x5:=cell_at (v:=.slice (some a) 1 xkc) hx9 5 rfl;have x6:=cell_at (v:=.int .i64 xln) hx9 6 rfl;have x7:=cell_at (v:=.int .i64 xcl) hx9 7 rfl;clear htr h2 h3 h6 h7 hks ha hba hx9 ht hbw hwr;simp only[xv,lsc,lsn];go_enter Tryz.func106,Tryz.ntmps106
 go_upto_region 1 with fail
 rw[<-hw9,<-hk3];clear hw9 hk3;have HSG:Hid (∀ wr,Below w9.heap.size w9 wr->wr.cell? ⟨3,6,none⟩=some (.string ⟨(sg5 6).toArray⟩)):=h_ fun wr hb=>((HT.out.below (HBW.out.trans HB9.out)).below hb).sg 6 (by decide)
 go_wp2_with fail
 have hlt_x:=lt_of_block HB_x.out;refine Rely.region (by kernel_rfl) [[],[0],[0,1],[],[3],[3,4],[3,4,5],[0,1,2,3,4,5,6]] [] [] (fun _=>0) 0 7 (by kernel_rfl) (by kernel_rfl) (fun q h=>absurd h (Nat.not_lt_zero q)) (fun q _ h=>absurd h (Nat.not_lt_zero q)) ?_;refine Rely.Chain.det ?_ (by rfl) (fun T xs wr hA=>?_) ?_
 rotate_left 1
 ·have e0:=hA.pre 0 (by kernel_rfl);simp only[gsa,gsz] at e0;clear hA;refine⟨(by rfl),?_⟩;go_simp<;>(try with_reducible rfl)
 refine Rely.Chain.det ?_ (by rfl) (fun T xs wr hA=>?_) ?_
 rotate_left 1
 ·have e44:=(hA.tm 0 44 (by rfl) (by rfl)).trans (congrArg some (hA.fa 0 (by rfl)))
  (try simp (disch:=first | rfl | decide) only [Rely.mask_in] at e44)
  clear hA;refine⟨(by rfl),?_⟩;go_simp<;>(try with_reducible rfl)
 refine Rely.Chain.det ?_ (by rfl) (fun T xs wr hA=>?_) ?_
 rotate_left 1
 ·have e45:=(hA.tm 1 45 (by rfl) (by rfl)).trans (congrArg some (hA.fa 1 (by rfl)))
  (try simp (disch:=first | rfl | decide) only [Rely.mask_in] at e45)
  clear hA;refine⟨(by rfl),?_⟩;go_simp<;>(try with_reducible rfl)
 refine Rely.Chain.det ?_ (by rfl) (fun T xs wr hA=>?_) ?_
 rotate_left 1
 ·have e3:=hA.pre 3 (by kernel_rfl);simp only[gsa,gsc,gsz] at e3;clear hA;refine⟨(by rfl),?_⟩;go_simp<;>(try with_reducible rfl)
 refine Rely.Chain.det ?_ (by rfl) (fun T xs wr hA=>?_) ?_
 rotate_left 1
 ·have e47:=(hA.tm 3 47 (by rfl) (by rfl)).trans (congrArg some (hA.fa 3 (by rfl)))
  (try simp (disch:=first | rfl | decide) only [Rely.mask_in] at e47)
  have hBq:wr.heap[k3]?=_:=(hA.bl _ hlt_x (fun q h=>absurd h (Nat.not_lt_zero q))).trans HB_x.out;obtain⟨q0,q1,q2,q3,q4,q5,q6,q7⟩:=cl8 hBq;clear hBq;clear hA;refine⟨(by rfl),?_⟩;go_simp<;>(try with_reducible rfl)
 refine Rely.Chain.det ?_ (by rfl) (fun T xs wr hA=>?_) ?_
 rotate_left 1
 ·have e48:=(hA.tm 4 48 (by rfl) (by rfl)).trans (congrArg some (hA.fa 4 (by rfl)))
  (try simp (disch:=first | rfl | decide) only [Rely.mask_in] at e48)
  clear hA;refine⟨(by rfl),?_⟩;go_simp<;>(try with_reducible rfl)
 refine Rely.Chain.det ?_ (by rfl) (fun T xs wr hA=>?_) ?_
 rotate_left 1
 ·have e49:=(hA.tm 5 49 (by rfl) (by rfl)).trans (congrArg some (hA.fa 5 (by rfl)))
  (try simp (disch:=first | rfl | decide) only [Rely.mask_in] at e49)
  have hbw:=undrew (hA.be _ (Nat.le_refl _) (fun q h=>absurd h (Nat.not_lt_zero q)));have sgc:=HSG.out wr hbw;clear hbw;clear hA;refine⟨(by rfl),?_⟩;go_simp<;>(try with_reducible rfl)
 refine Rely.Chain.done (fun xs w10 hL=>?_);obtain⟨⟨hbe,hbl,hkp0⟩,hf,hp,hn⟩:=hL;have f0:xs 0=_:=hf 0 (by decide);have f1:xs 1=_:=hf 1 (by decide);have f2:xs 2=_:=hf 2 (by decide);have f3:xs 3=_:=hf 3 (by decide);have f4:xs 4=_:=hf 4 (by decide);have f5:xs 5=_:=hf 5 (by decide);have f6:xs 6=_:=hf 6 (by decide)
 (try simp (disch:=first | rfl | decide) only [Rely.mask_in] at f0 f1 f2 f3 f4 f5 f6)
 have hbx:Below w9.heap.size w9 w10:=undrew (hbe _ (Nat.le_refl _) (fun q h=>absurd h (Nat.not_lt_zero q)));clear hbe hbl hkp0 hf hp hn;replace HB_x:=h_ ((hbx.block _ hlt_x).trans HB_x.out);clear hlt_x;refine Rely.rest_list (by decide) (by kernel_rfl) ?_;simp only[Rely.fill,List.take_succ_cons,List.take_zero,List.drop_succ_cons,List.drop_zero,List.setIfInBounds_toArray,List.set_cons_zero,List.set_cons_succ,f0,f1,f2,f3,f4,f5,f6];clear f0 f1 f2 f3 f4 f5 f6;have HBX:=h_ hbx;have hs10:=hbx.size;have H10:=h_ (HW9.out.below hbx);have HB10:=h_ (HB9.out.trans (hbx.mono (by omega)));have HF10:=h_ (HF9.out.trans (fr_below hbx));clear hbx;clear x0 x1 x2 x3 x4 x5 x6 x7;go_wp2_with fail
 refine (wr_str w0.heap.size b l (sg5 6) w10 H10.out (by omega) (by omega)).mono ?_;rintro e w11 ⟨⟨v,rfl⟩,hw5,hb5,hfr5⟩;have hs11:=hb5.size;replace HB_x:=h_ (hfr5 k3 _ _ _ HB_x.out (by decide) (by decide));have H11:=h_ hw5;have HB11:=h_ (HB10.out.trans hb5);have HF11:=h_ (HF10.out.trans hfr5);have HLV:Hid (∀ wr,Below w11.heap.size w11 wr->wr.cell? ⟨1,6,none⟩=some (.int .i64 (lv 6:Nat))):=h_ fun wr hb=>((HT.out.below (HBW.out.trans HB11.out)).below hb).lv 6 (by decide)
 clear hw5 hb5 hfr5;go_wp2_with fail
 have hlt_x:=lt_of_block HB_x.out;refine Rely.region (by kernel_rfl) [[],[],[1],[1,2],[1,2,3],[],[5],[5,6],[5,6,7],[0,1,2,3,4,5,6,7,8]] [] [] (fun _=>0) 0 9 (by kernel_rfl) (by kernel_rfl) (fun q h=>absurd h (Nat.not_lt_zero q)) (fun q _ h=>absurd h (Nat.not_lt_zero q)) ?_;refine Rely.Chain.det ?_ (by rfl) (fun T xs wr hA=>?_) ?_
 rotate_left 1
 ·have e0:=hA.pre 0 (by kernel_rfl);simp only[gsa,gsz] at e0;clear hA;refine⟨(by rfl),?_⟩;go_simp<;>(try with_reducible rfl)
 refine Rely.Chain.det ?_ (by rfl) (fun T xs wr hA=>?_) ?_
 rotate_left 1
 ·have e3:=hA.pre 3 (by kernel_rfl);simp only[gsa,gsc,gsz] at e3;clear hA;refine⟨(by rfl),?_⟩;go_simp<;>(try with_reducible rfl)
 refine Rely.Chain.det ?_ (by rfl) (fun T xs wr hA=>?_) ?_
 rotate_left 1
 ·have e53:=(hA.tm 1 53 (by rfl) (by rfl)).trans (congrArg some (hA.fa 1 (by rfl)))
  (try simp (disch:=first | rfl | decide) only [Rely.mask_in] at e53)
  have hBq:wr.heap[k3]?=_:=(hA.bl _ hlt_x (fun q h=>absurd h (Nat.not_lt_zero q))).trans HB_x.out;obtain⟨q0,q1,q2,q3,q4,q5,q6,q7⟩:=cl8 hBq;clear hBq;clear hA;refine⟨(by rfl),?_⟩;go_simp<;>(try with_reducible rfl)
 refine Rely.Chain.det ?_ (by rfl) (fun T xs wr hA=>?_) ?_
 rotate_left 1
 ·have e54:=(hA.tm 2 54 (by rfl) (by rfl)).trans (congrArg some (hA.fa 2 (by rfl)))
  (try simp (disch:=first | rfl | decide) only [Rely.mask_in] at e54)
  clear hA;refine⟨(by rfl),?_⟩;go_simp<;>(try with_reducible rfl)
 refine Rely.Chain.det ?_ (by rfl) (fun T xs wr hA=>?_) ?_
 rotate_left 1
 ·have e55:=(hA.tm 3 55 (by rfl) (by rfl)).trans (congrArg some (hA.fa 3 (by rfl)))
  (try simp (disch:=first | rfl | decide) only [Rely.mask_in] at e55)
  have hbw:=undrew (hA.be _ (Nat.le_refl _) (fun q h=>absurd h (Nat.not_lt_zero q)));obtain⟨a2,ea,hc0⟩:=HA0.out.keep fun a ha=>((HBW.out.trans HB11.out).trans (hbw.mono (HBW.out.trans HB11.out).size)).block _ (HA0.out.lt a ha)
  injection ea with ea;subst ea;have e0:a.add (0*8)=a:=by simp[Addr.add]
  rw[e0] at hc0;obtain⟨c0,c1,c2,c3,c4,c5,c6,c7⟩:=cells8 hc0;clear hc0 e0 hbw;clear hA;refine⟨(by rfl),?_⟩;go_simp<;>(try with_reducible rfl)
 refine Rely.Chain.det ?_ (by rfl) (fun T xs wr hA=>?_) ?_
 rotate_left 1
 ·have e3:=hA.pre 3 (by kernel_rfl);simp only[gsa,gsc,gsz] at e3;clear hA;refine⟨(by rfl),?_⟩;go_simp<;>(try with_reducible rfl)
 refine Rely.Chain.det ?_ (by rfl) (fun T xs wr hA=>?_) ?_
 rotate_left 1
 ·have e57:=(hA.tm 5 57 (by rfl) (by rfl)).trans (congrArg some (hA.fa 5 (by rfl)))
  (try simp (disch:=first | rfl | decide) only [Rely.mask_in] at e57)
  have hBq:wr.heap[k3]?=_:=(hA.bl _ hlt_x (fun q h=>absurd h (Nat.not_lt_zero q))).trans HB_x.out;obtain⟨q0,q1,q2,q3,q4,q5,q6,q7⟩:=cl8 hBq;clear hBq;clear hA;refine⟨(by rfl),?_⟩;go_simp<;>(try with_reducible rfl)
 refine Rely.Chain.det ?_ (by rfl) (fun T xs wr hA=>?_) ?_
 rotate_left 1
 ·have e58:=(hA.tm 6 58 (by rfl) (by rfl)).trans (congrArg some (hA.fa 6 (by rfl)))
  (try simp (disch:=first | rfl | decide) only [Rely.mask_in] at e58)
  clear hA;refine⟨(by rfl),?_⟩;go_simp<;>(try with_reducible rfl)
 refine Rely.Chain.det ?_ (by rfl) (fun T xs wr hA=>?_) ?_
 rotate_left 1
 ·have e59:=(hA.tm 7 59 (by rfl) (by rfl)).trans (congrArg some (hA.fa 7 (by rfl)))
  (try simp (disch:=first | rfl | decide) only [Rely.mask_in] at e59)
  have hbw:=undrew (hA.be _ (Nat.le_refl _) (fun q h=>absurd h (Nat.not_lt_zero q)));have lvc:=HLV.out wr hbw;clear hbw;clear hA;refine⟨(by rfl),?_⟩;go_simp<;>(try with_reducible rfl)
 refine Rely.Chain.done (fun xs w12 hL=>?_);obtain⟨⟨hbe,hbl,hkp0⟩,hf,hp,hn⟩:=hL;have f0:xs 0=_:=hf 0 (by decide);have f1:xs 1=_:=hf 1 (by decide);have f2:xs 2=_:=hf 2 (by decide);have f3:xs 3=_:=hf 3 (by decide);have f4:xs 4=_:=hf 4 (by decide);have f5:xs 5=_:=hf 5 (by decide);have f6:xs 6=_:=hf 6 (by decide);have f7:xs 7=_:=hf 7 (by decide);have f8:xs 8=_:=hf 8 (by decide)
 (try simp (disch:=first | rfl | decide) only [Rely.mask_in] at f0 f1 f2 f3 f4 f5 f6 f7 f8)
 have hbx:Below w11.heap.size w11 w12:=undrew (hbe _ (Nat.le_refl _) (fun q h=>absurd h (Nat.not_lt_zero q)));clear hbe hbl hkp0 hf hp hn;replace HB_x:=h_ ((hbx.block _ hlt_x).trans HB_x.out);clear hlt_x;refine Rely.rest_list (by decide) (by kernel_rfl) ?_;simp only[Rely.fill,List.take_succ_cons,List.take_zero,List.drop_succ_cons,List.drop_zero,List.setIfInBounds_toArray,List.set_cons_zero,List.set_cons_succ,f0,f1,f2,f3,f4,f5,f6,f7,f8];clear f0 f1 f2 f3 f4 f5 f6 f7 f8;have hs12:=hbx.size;have H12:=h_ (H11.out.below hbx);have HB12:=h_ (HB11.out.trans (hbx.mono (by omega)));have HF12:=h_ (HF11.out.trans (fr_below hbx));clear hbx;go_wp2_with fail
 refine (E.out b _ (lv 6) y0 t0 S w12 HT0.out hK0 (by decide) (HBW.out.trans HB12.out) H12.out (by simp only[lsa];omega)).mono ?_;rintro e w13 ⟨⟨v2,rfl⟩,hw7,hb7,hfr7⟩;have H13:=h_ hw7;have HB13:=h_ (HB12.out.trans hb7);have HF13:=h_ (HF12.out.trans hfr7);clear hw7 hb7 hfr7;go_wp2_with fail
 go_end0
 exact⟨⟨_,rfl⟩,(by rw[HTX.out,<-List.append_assoc];exact H13.out),HB13.out,HF13.out⟩
theorem bare_u7 (w0:World) (d:Nat) (E:Hid (ExprAt w0 d)) (b:Nat) (l:Bs) (k:Nat) (nm ot:Bs) (z:Nat) (ks:List T) (x:X) (S:Nat->Prop) (w:World) (ht:Tabs w0) (hk0:k=7) (h:Tr w0 S (d+1) x (.node k nm ot z ks)) (ho:Og (d+1) (.node k nm ot z ks))
  (hbw:Below w0.heap.size w0 w) (hwr:Wr w0.heap.size b l w) (hlen:l.length+(tx (.node k nm ot z ks)).length<=1000000) :
  Calls Tryz.prog 106 #[.pointer (some ⟨b,0,none⟩),xv x] w (WrPost w0.heap.size b (l++tx (.node k nm ot z ks)) w):=by
 subst hk0
 obtain⟨t0,hks1⟩:∃ t0,ks=[t0]:=by
  have:ks.length=1:=by
   rcases ho.2.2.2.2.1 with ha | ha
   ·omega
   exact ha
  match ks,this with
  | [a],_=>exact⟨a,rfl⟩
 subst hks1;have HTX:Hid (tx (.node 7 nm ot z [t0])=sg5 7++ex (lv 7) t0):=h_ (by rw[tx];rfl);rw[HTX.out] at hlen;simp only[lsa] at hlen;have hsl:=sg5_len 7 (by decide);have hK0:Og d t0:=ho.2.2.2.2.2.2 t0 (by simp);obtain⟨y0,hA0,hT0⟩:=h.2.2.2 0 (by simp);have HA0:=h_ hA0;have HT0:=h_ hT0;clear hA0 hT0;have HOK:=h_ ho;obtain⟨hk,hn,hoo,hz,ha,hl,hks⟩:=ho;have htr:=h;obtain⟨⟨e1,e2,e3,e4⟩,⟨h2,h3⟩,⟨h4,h5,h6⟩,h7⟩:=h;obtain⟨xk,xnm,xot,xb,xao,xn,xq,xko,xkn,xkc,xln,xcl⟩:=x;obtain⟨a,hxa,-⟩:=HA0.out;simp only at hxa;subst hxa;simp only at e1 e2 e3 e4 h2 h3 h4 h5 h6 h7;subst e1 e2 e3 e4 h4;have HTR:=h_ htr;have HK:=h_ h7;have HKS:=h_ hks;have HS:=h_ h2;have HT:=h_ ht;have HBW:=h_ hbw;have HWR:=h_ hwr;have hsB:=hbw.size;obtain⟨k3,hk3⟩:∃ k3,k3=w.heap.size:=⟨_,rfl⟩
 obtain⟨w9,hw9⟩:∃ w9,w9=w.alloc (.cells #[.int .i64 7,.string ⟨nm.toArray⟩,.string ⟨ot.toArray⟩,.bool false,.slice xao xn xq,.slice (some a) 1 xkc,.int .i64 xln,.int .i64 xcl] 46):=⟨_,rfl⟩
 have hba:Below w.heap.size w w9:=by rw[hw9];exact (Below.refl _ _).alloc (Nat.le_refl _) _
 have hx9:w9.heap[k3]?=some (.cells #[.int .i64 7,.string ⟨nm.toArray⟩,.string ⟨ot.toArray⟩,.bool false,.slice xao xn xq,.slice (some a) 1 xkc,.int .i64 xln,.int .i64 xcl] 46 (0,0)):=by rw[hw9,hk3];exact made_at w _ _ rfl
 have HB_x:=h_ hx9;have HW9:=h_ (HWR.out.below hba);have HB9:=h_ (hba.mono hsB);have HF9:=h_ (fr_below hba);have hs9:=hba.size;have x0:=cell_at (v:=.int .i64 7) hx9 0 rfl;have x1:=cell_at (v:=.string ⟨nm.toArray⟩) hx9 1 rfl;have x2:=cell_at (v:=.string ⟨ot.toArray⟩) hx9 2 rfl;have x3:=cell_at (v:=.bool false) hx9 3 rfl;have x4:=cell_at (v:=.slice xao xn xq) hx9 4 rfl;have x5:=cell_at (v:=.slice (some a) 1 xkc) hx9 5 rfl;have x6:=cell_at (v:=.int .i64 xln) hx9 6 rfl;have x7:=cell_at (v:=.int .i64 xcl) hx9 7 rfl;clear htr h2 h3 h6 h7 hks ha hba hx9 ht hbw hwr;simp only[xv,lsc,lsn];go_enter Tryz.func106,Tryz.ntmps106
 go_upto_region 1 with fail
 rw[<-hw9,<-hk3];clear hw9 hk3;have HSG:Hid (∀ wr,Below w9.heap.size w9 wr->wr.cell? ⟨3,7,none⟩=some (.string ⟨(sg5 7).toArray⟩)):=h_ fun wr hb=>((HT.out.below (HBW.out.trans HB9.out)).below hb).sg 7 (by decide)
 go_wp2_with fail
 have hlt_x:=lt_of_block HB_x.out;refine Rely.region (by kernel_rfl) [[],[0],[0,1],[],[3],[3,4],[3,4,5],[0,1,2,3,4,5,6]] [] [] (fun _=>0) 0 7 (by kernel_rfl) (by kernel_rfl) (fun q h=>absurd h (Nat.not_lt_zero q)) (fun q _ h=>absurd h (Nat.not_lt_zero q)) ?_;refine Rely.Chain.det ?_ (by rfl) (fun T xs wr hA=>?_) ?_
 rotate_left 1
 ·have e0:=hA.pre 0 (by kernel_rfl);simp only[gsa,gsz] at e0;clear hA;refine⟨(by rfl),?_⟩;go_simp<;>(try with_reducible rfl)
 refine Rely.Chain.det ?_ (by rfl) (fun T xs wr hA=>?_) ?_
 rotate_left 1
 ·have e44:=(hA.tm 0 44 (by rfl) (by rfl)).trans (congrArg some (hA.fa 0 (by rfl)))
  (try simp (disch:=first | rfl | decide) only [Rely.mask_in] at e44)
  clear hA;refine⟨(by rfl),?_⟩;go_simp<;>(try with_reducible rfl)
 refine Rely.Chain.det ?_ (by rfl) (fun T xs wr hA=>?_) ?_
 rotate_left 1
 ·have e45:=(hA.tm 1 45 (by rfl) (by rfl)).trans (congrArg some (hA.fa 1 (by rfl)))
  (try simp (disch:=first | rfl | decide) only [Rely.mask_in] at e45)
  clear hA;refine⟨(by rfl),?_⟩;go_simp<;>(try with_reducible rfl)
 refine Rely.Chain.det ?_ (by rfl) (fun T xs wr hA=>?_) ?_
 rotate_left 1
 ·have e3:=hA.pre 3 (by kernel_rfl);simp only[gsa,gsc,gsz] at e3;clear hA;refine⟨(by rfl),?_⟩;go_simp<;>(try with_reducible rfl)
 refine Rely.Chain.det ?_ (by rfl) (fun T xs wr hA=>?_) ?_
 rotate_left 1
 ·have e47:=(hA.tm 3 47 (by rfl) (by rfl)).trans (congrArg some (hA.fa 3 (by rfl)))
  (try simp (disch:=first | rfl | decide) only [Rely.mask_in] at e47)
  have hBq:wr.heap[k3]?=_:=(hA.bl _ hlt_x (fun q h=>absurd h (Nat.not_lt_zero q))).trans HB_x.out;obtain⟨q0,q1,q2,q3,q4,q5,q6,q7⟩:=cl8 hBq;clear hBq;clear hA;refine⟨(by rfl),?_⟩;go_simp<;>(try with_reducible rfl)
 refine Rely.Chain.det ?_ (by rfl) (fun T xs wr hA=>?_) ?_
 rotate_left 1
 ·have e48:=(hA.tm 4 48 (by rfl) (by rfl)).trans (congrArg some (hA.fa 4 (by rfl)))
  (try simp (disch:=first | rfl | decide) only [Rely.mask_in] at e48)
  clear hA;refine⟨(by rfl),?_⟩;go_simp<;>(try with_reducible rfl)
 refine Rely.Chain.det ?_ (by rfl) (fun T xs wr hA=>?_) ?_
 rotate_left 1
 ·have e49:=(hA.tm 5 49 (by rfl) (by rfl)).trans (congrArg some (hA.fa 5 (by rfl)))
  (try simp (disch:=first | rfl | decide) only [Rely.mask_in] at e49)
  have hbw:=undrew (hA.be _ (Nat.le_refl _) (fun q h=>absurd h (Nat.not_lt_zero q)));have sgc:=HSG.out wr hbw;clear hbw;clear hA;refine⟨(by rfl),?_⟩;go_simp<;>(try with_reducible rfl)
 refine Rely.Chain.done (fun xs w10 hL=>?_);obtain⟨⟨hbe,hbl,hkp0⟩,hf,hp,hn⟩:=hL;have f0:xs 0=_:=hf 0 (by decide);have f1:xs 1=_:=hf 1 (by decide);have f2:xs 2=_:=hf 2 (by decide);have f3:xs 3=_:=hf 3 (by decide);have f4:xs 4=_:=hf 4 (by decide);have f5:xs 5=_:=hf 5 (by decide);have f6:xs 6=_:=hf 6 (by decide)
 (try simp (disch:=first | rfl | decide) only [Rely.mask_in] at f0 f1 f2 f3 f4 f5 f6)
 have hbx:Below w9.heap.size w9 w10:=undrew (hbe _ (Nat.le_refl _) (fun q h=>absurd h (Nat.not_lt_zero q)));clear hbe hbl hkp0 hf hp hn;replace HB_x:=h_ ((hbx.block _ hlt_x).trans HB_x.out);clear hlt_x;refine Rely.rest_list (by decide) (by kernel_rfl) ?_;simp only[Rely.fill,List.take_succ_cons,List.take_zero,List.drop_succ_cons,List.drop_zero,List.setIfInBounds_toArray,List.set_cons_zero,List.set_cons_succ,f0,f1,f2,f3,f4,f5,f6];clear f0 f1 f2 f3 f4 f5 f6;have HBX:=h_ hbx;have hs10:=hbx.size;have H10:=h_ (HW9.out.below hbx);have HB10:=h_ (HB9.out.trans (hbx.mono (by omega)));have HF10:=h_ (HF9.out.trans (fr_below hbx));clear hbx;clear x0 x1 x2 x3 x4 x5 x6 x7;go_wp2_with fail
 refine (wr_str w0.heap.size b l (sg5 7) w10 H10.out (by omega) (by omega)).mono ?_;rintro e w11 ⟨⟨v,rfl⟩,hw5,hb5,hfr5⟩;have hs11:=hb5.size;replace HB_x:=h_ (hfr5 k3 _ _ _ HB_x.out (by decide) (by decide));have H11:=h_ hw5;have HB11:=h_ (HB10.out.trans hb5);have HF11:=h_ (HF10.out.trans hfr5);have HLV:Hid (∀ wr,Below w11.heap.size w11 wr->wr.cell? ⟨1,7,none⟩=some (.int .i64 (lv 7:Nat))):=h_ fun wr hb=>((HT.out.below (HBW.out.trans HB11.out)).below hb).lv 7 (by decide)
 clear hw5 hb5 hfr5;go_wp2_with fail
 have hlt_x:=lt_of_block HB_x.out;refine Rely.region (by kernel_rfl) [[],[],[1],[1,2],[1,2,3],[],[5],[5,6],[5,6,7],[0,1,2,3,4,5,6,7,8]] [] [] (fun _=>0) 0 9 (by kernel_rfl) (by kernel_rfl) (fun q h=>absurd h (Nat.not_lt_zero q)) (fun q _ h=>absurd h (Nat.not_lt_zero q)) ?_;refine Rely.Chain.det ?_ (by rfl) (fun T xs wr hA=>?_) ?_
 rotate_left 1
 ·have e0:=hA.pre 0 (by kernel_rfl);simp only[gsa,gsz] at e0;clear hA;refine⟨(by rfl),?_⟩;go_simp<;>(try with_reducible rfl)
 refine Rely.Chain.det ?_ (by rfl) (fun T xs wr hA=>?_) ?_
 rotate_left 1
 ·have e3:=hA.pre 3 (by kernel_rfl);simp only[gsa,gsc,gsz] at e3;clear hA;refine⟨(by rfl),?_⟩;go_simp<;>(try with_reducible rfl)
 refine Rely.Chain.det ?_ (by rfl) (fun T xs wr hA=>?_) ?_
 rotate_left 1
 ·have e53:=(hA.tm 1 53 (by rfl) (by rfl)).trans (congrArg some (hA.fa 1 (by rfl)))
  (try simp (disch:=first | rfl | decide) only [Rely.mask_in] at e53)
  have hBq:wr.heap[k3]?=_:=(hA.bl _ hlt_x (fun q h=>absurd h (Nat.not_lt_zero q))).trans HB_x.out;obtain⟨q0,q1,q2,q3,q4,q5,q6,q7⟩:=cl8 hBq;clear hBq;clear hA;refine⟨(by rfl),?_⟩;go_simp<;>(try with_reducible rfl)
 refine Rely.Chain.det ?_ (by rfl) (fun T xs wr hA=>?_) ?_
 rotate_left 1
 ·have e54:=(hA.tm 2 54 (by rfl) (by rfl)).trans (congrArg some (hA.fa 2 (by rfl)))
  (try simp (disch:=first | rfl | decide) only [Rely.mask_in] at e54)
  clear hA;refine⟨(by rfl),?_⟩;go_simp<;>(try with_reducible rfl)
 refine Rely.Chain.det ?_ (by rfl) (fun T xs wr hA=>?_) ?_
 rotate_left 1
 ·have e55:=(hA.tm 3 55 (by rfl) (by rfl)).trans (congrArg some (hA.fa 3 (by rfl)))
  (try simp (disch:=first | rfl | decide) only [Rely.mask_in] at e55)
  have hbw:=undrew (hA.be _ (Nat.le_refl _) (fun q h=>absurd h (Nat.not_lt_zero q)));obtain⟨a2,ea,hc0⟩:=HA0.out.keep fun a ha=>((HBW.out.trans HB11.out).trans (hbw.mono (HBW.out.trans HB11.out).size)).block _ (HA0.out.lt a ha)
  injection ea with ea;subst ea;have e0:a.add (0*8)=a:=by simp[Addr.add]
  rw[e0] at hc0;obtain⟨c0,c1,c2,c3,c4,c5,c6,c7⟩:=cells8 hc0;clear hc0 e0 hbw;clear hA;refine⟨(by rfl),?_⟩;go_simp<;>(try with_reducible rfl)
 refine Rely.Chain.det ?_ (by rfl) (fun T xs wr hA=>?_) ?_
 rotate_left 1
 ·have e3:=hA.pre 3 (by kernel_rfl);simp only[gsa,gsc,gsz] at e3;clear hA;refine⟨(by rfl),?_⟩;go_simp<;>(try with_reducible rfl)
 refine Rely.Chain.det ?_ (by rfl) (fun T xs wr hA=>?_) ?_
 rotate_left 1
 ·have e57:=(hA.tm 5 57 (by rfl) (by rfl)).trans (congrArg some (hA.fa 5 (by rfl)))
  (try simp (disch:=first | rfl | decide) only [Rely.mask_in] at e57)
  have hBq:wr.heap[k3]?=_:=(hA.bl _ hlt_x (fun q h=>absurd h (Nat.not_lt_zero q))).trans HB_x.out;obtain⟨q0,q1,q2,q3,q4,q5,q6,q7⟩:=cl8 hBq;clear hBq;clear hA;refine⟨(by rfl),?_⟩;go_simp<;>(try with_reducible rfl)
 refine Rely.Chain.det ?_ (by rfl) (fun T xs wr hA=>?_) ?_
 rotate_left 1
 ·have e58:=(hA.tm 6 58 (by rfl) (by rfl)).trans (congrArg some (hA.fa 6 (by rfl)))
  (try simp (disch:=first | rfl | decide) only [Rely.mask_in] at e58)
  clear hA;refine⟨(by rfl),?_⟩;go_simp<;>(try with_reducible rfl)
 refine Rely.Chain.det ?_ (by rfl) (fun T xs wr hA=>?_) ?_
 rotate_left 1
 ·have e59:=(hA.tm 7 59 (by rfl) (by rfl)).trans (congrArg some (hA.fa 7 (by rfl)))
  (try simp (disch:=first | rfl | decide) only [Rely.mask_in] at e59)
  have hbw:=undrew (hA.be _ (Nat.le_refl _) (fun q h=>absurd h (Nat.not_lt_zero q)));have lvc:=HLV.out wr hbw;clear hbw;clear hA;refine⟨(by rfl),?_⟩;go_simp<;>(try with_reducible rfl)
 refine Rely.Chain.done (fun xs w12 hL=>?_);obtain⟨⟨hbe,hbl,hkp0⟩,hf,hp,hn⟩:=hL;have f0:xs 0=_:=hf 0 (by decide);have f1:xs 1=_:=hf 1 (by decide);have f2:xs 2=_:=hf 2 (by decide);have f3:xs 3=_:=hf 3 (by decide);have f4:xs 4=_:=hf 4 (by decide);have f5:xs 5=_:=hf 5 (by decide);have f6:xs 6=_:=hf 6 (by decide);have f7:xs 7=_:=hf 7 (by decide);have f8:xs 8=_:=hf 8 (by decide)
 (try simp (disch:=first | rfl | decide) only [Rely.mask_in] at f0 f1 f2 f3 f4 f5 f6 f7 f8)
 have hbx:Below w11.heap.size w11 w12:=undrew (hbe _ (Nat.le_refl _) (fun q h=>absurd h (Nat.not_lt_zero q)));clear hbe hbl hkp0 hf hp hn;replace HB_x:=h_ ((hbx.block _ hlt_x).trans HB_x.out);clear hlt_x;refine Rely.rest_list (by decide) (by kernel_rfl) ?_;simp only[Rely.fill,List.take_succ_cons,List.take_zero,List.drop_succ_cons,List.drop_zero,List.setIfInBounds_toArray,List.set_cons_zero,List.set_cons_succ,f0,f1,f2,f3,f4,f5,f6,f7,f8];clear f0 f1 f2 f3 f4 f5 f6 f7 f8;have hs12:=hbx.size;have H12:=h_ (H11.out.below hbx);have HB12:=h_ (HB11.out.trans (hbx.mono (by omega)));have HF12:=h_ (HF11.out.trans (fr_below hbx));clear hbx;go_wp2_with fail
 refine (E.out b _ (lv 7) y0 t0 S w12 HT0.out hK0 (by decide) (HBW.out.trans HB12.out) H12.out (by simp only[lsa];omega)).mono ?_;rintro e w13 ⟨⟨v2,rfl⟩,hw7,hb7,hfr7⟩;have H13:=h_ hw7;have HB13:=h_ (HB12.out.trans hb7);have HF13:=h_ (HF12.out.trans hfr7);clear hw7 hb7 hfr7;go_wp2_with fail
 go_end0
 exact⟨⟨_,rfl⟩,(by rw[HTX.out,<-List.append_assoc];exact H13.out),HB13.out,HF13.out⟩
theorem bare_u8 (w0:World) (d:Nat) (E:Hid (ExprAt w0 d)) (b:Nat) (l:Bs) (k:Nat) (nm ot:Bs) (z:Nat) (ks:List T) (x:X) (S:Nat->Prop) (w:World) (ht:Tabs w0) (hk0:k=8) (h:Tr w0 S (d+1) x (.node k nm ot z ks)) (ho:Og (d+1) (.node k nm ot z ks))
  (hbw:Below w0.heap.size w0 w) (hwr:Wr w0.heap.size b l w) (hlen:l.length+(tx (.node k nm ot z ks)).length<=1000000) :
  Calls Tryz.prog 106 #[.pointer (some ⟨b,0,none⟩),xv x] w (WrPost w0.heap.size b (l++tx (.node k nm ot z ks)) w):=by
 subst hk0
 obtain⟨t0,hks1⟩:∃ t0,ks=[t0]:=by
  have:ks.length=1:=by
   rcases ho.2.2.2.2.1 with ha | ha
   ·omega
   exact ha
  match ks,this with
  | [a],_=>exact⟨a,rfl⟩
 subst hks1;have HTX:Hid (tx (.node 8 nm ot z [t0])=sg5 8++ex (lv 8) t0):=h_ (by rw[tx];rfl);rw[HTX.out] at hlen;simp only[lsa] at hlen;have hsl:=sg5_len 8 (by decide);have hK0:Og d t0:=ho.2.2.2.2.2.2 t0 (by simp);obtain⟨y0,hA0,hT0⟩:=h.2.2.2 0 (by simp);have HA0:=h_ hA0;have HT0:=h_ hT0;clear hA0 hT0;have HOK:=h_ ho;obtain⟨hk,hn,hoo,hz,ha,hl,hks⟩:=ho;have htr:=h;obtain⟨⟨e1,e2,e3,e4⟩,⟨h2,h3⟩,⟨h4,h5,h6⟩,h7⟩:=h;obtain⟨xk,xnm,xot,xb,xao,xn,xq,xko,xkn,xkc,xln,xcl⟩:=x;obtain⟨a,hxa,-⟩:=HA0.out;simp only at hxa;subst hxa;simp only at e1 e2 e3 e4 h2 h3 h4 h5 h6 h7;subst e1 e2 e3 e4 h4;have HTR:=h_ htr;have HK:=h_ h7;have HKS:=h_ hks;have HS:=h_ h2;have HT:=h_ ht;have HBW:=h_ hbw;have HWR:=h_ hwr;have hsB:=hbw.size;obtain⟨k3,hk3⟩:∃ k3,k3=w.heap.size:=⟨_,rfl⟩
 obtain⟨w9,hw9⟩:∃ w9,w9=w.alloc (.cells #[.int .i64 8,.string ⟨nm.toArray⟩,.string ⟨ot.toArray⟩,.bool false,.slice xao xn xq,.slice (some a) 1 xkc,.int .i64 xln,.int .i64 xcl] 46):=⟨_,rfl⟩
 have hba:Below w.heap.size w w9:=by rw[hw9];exact (Below.refl _ _).alloc (Nat.le_refl _) _
 have hx9:w9.heap[k3]?=some (.cells #[.int .i64 8,.string ⟨nm.toArray⟩,.string ⟨ot.toArray⟩,.bool false,.slice xao xn xq,.slice (some a) 1 xkc,.int .i64 xln,.int .i64 xcl] 46 (0,0)):=by rw[hw9,hk3];exact made_at w _ _ rfl
 have HB_x:=h_ hx9;have HW9:=h_ (HWR.out.below hba);have HB9:=h_ (hba.mono hsB);have HF9:=h_ (fr_below hba);have hs9:=hba.size;have x0:=cell_at (v:=.int .i64 8) hx9 0 rfl;have x1:=cell_at (v:=.string ⟨nm.toArray⟩) hx9 1 rfl;have x2:=cell_at (v:=.string ⟨ot.toArray⟩) hx9 2 rfl;have x3:=cell_at (v:=.bool false) hx9 3 rfl;have x4:=cell_at (v:=.slice xao xn xq) hx9 4 rfl;have x5:=cell_at (v:=.slice (some a) 1 xkc) hx9 5 rfl;have x6:=cell_at (v:=.int .i64 xln) hx9 6 rfl;have x7:=cell_at (v:=.int .i64 xcl) hx9 7 rfl;clear htr h2 h3 h6 h7 hks ha hba hx9 ht hbw hwr;simp only[xv,lsc,lsn];go_enter Tryz.func106,Tryz.ntmps106
 go_upto_region 1 with fail
 rw[<-hw9,<-hk3];clear hw9 hk3;have HSG:Hid (∀ wr,Below w9.heap.size w9 wr->wr.cell? ⟨3,8,none⟩=some (.string ⟨(sg5 8).toArray⟩)):=h_ fun wr hb=>((HT.out.below (HBW.out.trans HB9.out)).below hb).sg 8 (by decide)
 go_wp2_with fail
 have hlt_x:=lt_of_block HB_x.out;refine Rely.region (by kernel_rfl) [[],[0],[0,1],[],[3],[3,4],[3,4,5],[0,1,2,3,4,5,6]] [] [] (fun _=>0) 0 7 (by kernel_rfl) (by kernel_rfl) (fun q h=>absurd h (Nat.not_lt_zero q)) (fun q _ h=>absurd h (Nat.not_lt_zero q)) ?_;refine Rely.Chain.det ?_ (by rfl) (fun T xs wr hA=>?_) ?_
 rotate_left 1
 ·have e0:=hA.pre 0 (by kernel_rfl);simp only[gsa,gsz] at e0;clear hA;refine⟨(by rfl),?_⟩;go_simp<;>(try with_reducible rfl)
 refine Rely.Chain.det ?_ (by rfl) (fun T xs wr hA=>?_) ?_
 rotate_left 1
 ·have e44:=(hA.tm 0 44 (by rfl) (by rfl)).trans (congrArg some (hA.fa 0 (by rfl)))
  (try simp (disch:=first | rfl | decide) only [Rely.mask_in] at e44)
  clear hA;refine⟨(by rfl),?_⟩;go_simp<;>(try with_reducible rfl)
 refine Rely.Chain.det ?_ (by rfl) (fun T xs wr hA=>?_) ?_
 rotate_left 1
 ·have e45:=(hA.tm 1 45 (by rfl) (by rfl)).trans (congrArg some (hA.fa 1 (by rfl)))
  (try simp (disch:=first | rfl | decide) only [Rely.mask_in] at e45)
  clear hA;refine⟨(by rfl),?_⟩;go_simp<;>(try with_reducible rfl)
 refine Rely.Chain.det ?_ (by rfl) (fun T xs wr hA=>?_) ?_
 rotate_left 1
 ·have e3:=hA.pre 3 (by kernel_rfl);simp only[gsa,gsc,gsz] at e3;clear hA;refine⟨(by rfl),?_⟩;go_simp<;>(try with_reducible rfl)
 refine Rely.Chain.det ?_ (by rfl) (fun T xs wr hA=>?_) ?_
 rotate_left 1
 ·have e47:=(hA.tm 3 47 (by rfl) (by rfl)).trans (congrArg some (hA.fa 3 (by rfl)))
  (try simp (disch:=first | rfl | decide) only [Rely.mask_in] at e47)
  have hBq:wr.heap[k3]?=_:=(hA.bl _ hlt_x (fun q h=>absurd h (Nat.not_lt_zero q))).trans HB_x.out;obtain⟨q0,q1,q2,q3,q4,q5,q6,q7⟩:=cl8 hBq;clear hBq;clear hA;refine⟨(by rfl),?_⟩;go_simp<;>(try with_reducible rfl)
 refine Rely.Chain.det ?_ (by rfl) (fun T xs wr hA=>?_) ?_
 rotate_left 1
 ·have e48:=(hA.tm 4 48 (by rfl) (by rfl)).trans (congrArg some (hA.fa 4 (by rfl)))
  (try simp (disch:=first | rfl | decide) only [Rely.mask_in] at e48)
  clear hA;refine⟨(by rfl),?_⟩;go_simp<;>(try with_reducible rfl)
 refine Rely.Chain.det ?_ (by rfl) (fun T xs wr hA=>?_) ?_
 rotate_left 1
 ·have e49:=(hA.tm 5 49 (by rfl) (by rfl)).trans (congrArg some (hA.fa 5 (by rfl)))
  (try simp (disch:=first | rfl | decide) only [Rely.mask_in] at e49)
  have hbw:=undrew (hA.be _ (Nat.le_refl _) (fun q h=>absurd h (Nat.not_lt_zero q)));have sgc:=HSG.out wr hbw;clear hbw;clear hA;refine⟨(by rfl),?_⟩;go_simp<;>(try with_reducible rfl)
 refine Rely.Chain.done (fun xs w10 hL=>?_);obtain⟨⟨hbe,hbl,hkp0⟩,hf,hp,hn⟩:=hL;have f0:xs 0=_:=hf 0 (by decide);have f1:xs 1=_:=hf 1 (by decide);have f2:xs 2=_:=hf 2 (by decide);have f3:xs 3=_:=hf 3 (by decide);have f4:xs 4=_:=hf 4 (by decide);have f5:xs 5=_:=hf 5 (by decide);have f6:xs 6=_:=hf 6 (by decide)
 (try simp (disch:=first | rfl | decide) only [Rely.mask_in] at f0 f1 f2 f3 f4 f5 f6)
 have hbx:Below w9.heap.size w9 w10:=undrew (hbe _ (Nat.le_refl _) (fun q h=>absurd h (Nat.not_lt_zero q)));clear hbe hbl hkp0 hf hp hn;replace HB_x:=h_ ((hbx.block _ hlt_x).trans HB_x.out);clear hlt_x;refine Rely.rest_list (by decide) (by kernel_rfl) ?_;simp only[Rely.fill,List.take_succ_cons,List.take_zero,List.drop_succ_cons,List.drop_zero,List.setIfInBounds_toArray,List.set_cons_zero,List.set_cons_succ,f0,f1,f2,f3,f4,f5,f6];clear f0 f1 f2 f3 f4 f5 f6;have HBX:=h_ hbx;have hs10:=hbx.size;have H10:=h_ (HW9.out.below hbx);have HB10:=h_ (HB9.out.trans (hbx.mono (by omega)));have HF10:=h_ (HF9.out.trans (fr_below hbx));clear hbx;clear x0 x1 x2 x3 x4 x5 x6 x7;go_wp2_with fail
 refine (wr_str w0.heap.size b l (sg5 8) w10 H10.out (by omega) (by omega)).mono ?_;rintro e w11 ⟨⟨v,rfl⟩,hw5,hb5,hfr5⟩;have hs11:=hb5.size;replace HB_x:=h_ (hfr5 k3 _ _ _ HB_x.out (by decide) (by decide));have H11:=h_ hw5;have HB11:=h_ (HB10.out.trans hb5);have HF11:=h_ (HF10.out.trans hfr5);have HLV:Hid (∀ wr,Below w11.heap.size w11 wr->wr.cell? ⟨1,8,none⟩=some (.int .i64 (lv 8:Nat))):=h_ fun wr hb=>((HT.out.below (HBW.out.trans HB11.out)).below hb).lv 8 (by decide)
 clear hw5 hb5 hfr5;go_wp2_with fail
 have hlt_x:=lt_of_block HB_x.out;refine Rely.region (by kernel_rfl) [[],[],[1],[1,2],[1,2,3],[],[5],[5,6],[5,6,7],[0,1,2,3,4,5,6,7,8]] [] [] (fun _=>0) 0 9 (by kernel_rfl) (by kernel_rfl) (fun q h=>absurd h (Nat.not_lt_zero q)) (fun q _ h=>absurd h (Nat.not_lt_zero q)) ?_;refine Rely.Chain.det ?_ (by rfl) (fun T xs wr hA=>?_) ?_
 rotate_left 1
 ·have e0:=hA.pre 0 (by kernel_rfl);simp only[gsa,gsz] at e0;clear hA;refine⟨(by rfl),?_⟩;go_simp<;>(try with_reducible rfl)
 refine Rely.Chain.det ?_ (by rfl) (fun T xs wr hA=>?_) ?_
 rotate_left 1
 ·have e3:=hA.pre 3 (by kernel_rfl);simp only[gsa,gsc,gsz] at e3;clear hA;refine⟨(by rfl),?_⟩;go_simp<;>(try with_reducible rfl)
 refine Rely.Chain.det ?_ (by rfl) (fun T xs wr hA=>?_) ?_
 rotate_left 1
 ·have e53:=(hA.tm 1 53 (by rfl) (by rfl)).trans (congrArg some (hA.fa 1 (by rfl)))
  (try simp (disch:=first | rfl | decide) only [Rely.mask_in] at e53)
  have hBq:wr.heap[k3]?=_:=(hA.bl _ hlt_x (fun q h=>absurd h (Nat.not_lt_zero q))).trans HB_x.out;obtain⟨q0,q1,q2,q3,q4,q5,q6,q7⟩:=cl8 hBq;clear hBq;clear hA;refine⟨(by rfl),?_⟩;go_simp<;>(try with_reducible rfl)
 refine Rely.Chain.det ?_ (by rfl) (fun T xs wr hA=>?_) ?_
 rotate_left 1
 ·have e54:=(hA.tm 2 54 (by rfl) (by rfl)).trans (congrArg some (hA.fa 2 (by rfl)))
  (try simp (disch:=first | rfl | decide) only [Rely.mask_in] at e54)
  clear hA;refine⟨(by rfl),?_⟩;go_simp<;>(try with_reducible rfl)
 refine Rely.Chain.det ?_ (by rfl) (fun T xs wr hA=>?_) ?_
 rotate_left 1
 ·have e55:=(hA.tm 3 55 (by rfl) (by rfl)).trans (congrArg some (hA.fa 3 (by rfl)))
  (try simp (disch:=first | rfl | decide) only [Rely.mask_in] at e55)
  have hbw:=undrew (hA.be _ (Nat.le_refl _) (fun q h=>absurd h (Nat.not_lt_zero q)));obtain⟨a2,ea,hc0⟩:=HA0.out.keep fun a ha=>((HBW.out.trans HB11.out).trans (hbw.mono (HBW.out.trans HB11.out).size)).block _ (HA0.out.lt a ha)
  injection ea with ea;subst ea;have e0:a.add (0*8)=a:=by simp[Addr.add]
  rw[e0] at hc0;obtain⟨c0,c1,c2,c3,c4,c5,c6,c7⟩:=cells8 hc0;clear hc0 e0 hbw;clear hA;refine⟨(by rfl),?_⟩;go_simp<;>(try with_reducible rfl)
 refine Rely.Chain.det ?_ (by rfl) (fun T xs wr hA=>?_) ?_
 rotate_left 1
 ·have e3:=hA.pre 3 (by kernel_rfl);simp only[gsa,gsc,gsz] at e3;clear hA;refine⟨(by rfl),?_⟩;go_simp<;>(try with_reducible rfl)
 refine Rely.Chain.det ?_ (by rfl) (fun T xs wr hA=>?_) ?_
 rotate_left 1
 ·have e57:=(hA.tm 5 57 (by rfl) (by rfl)).trans (congrArg some (hA.fa 5 (by rfl)))
  (try simp (disch:=first | rfl | decide) only [Rely.mask_in] at e57)
  have hBq:wr.heap[k3]?=_:=(hA.bl _ hlt_x (fun q h=>absurd h (Nat.not_lt_zero q))).trans HB_x.out;obtain⟨q0,q1,q2,q3,q4,q5,q6,q7⟩:=cl8 hBq;clear hBq;clear hA;refine⟨(by rfl),?_⟩;go_simp<;>(try with_reducible rfl)
 refine Rely.Chain.det ?_ (by rfl) (fun T xs wr hA=>?_) ?_
 rotate_left 1
 ·have e58:=(hA.tm 6 58 (by rfl) (by rfl)).trans (congrArg some (hA.fa 6 (by rfl)))
  (try simp (disch:=first | rfl | decide) only [Rely.mask_in] at e58)
  clear hA;refine⟨(by rfl),?_⟩;go_simp<;>(try with_reducible rfl)
 refine Rely.Chain.det ?_ (by rfl) (fun T xs wr hA=>?_) ?_
 rotate_left 1
 ·have e59:=(hA.tm 7 59 (by rfl) (by rfl)).trans (congrArg some (hA.fa 7 (by rfl)))
  (try simp (disch:=first | rfl | decide) only [Rely.mask_in] at e59)
  have hbw:=undrew (hA.be _ (Nat.le_refl _) (fun q h=>absurd h (Nat.not_lt_zero q)));have lvc:=HLV.out wr hbw;clear hbw;clear hA;refine⟨(by rfl),?_⟩;go_simp<;>(try with_reducible rfl)
 refine Rely.Chain.done (fun xs w12 hL=>?_);obtain⟨⟨hbe,hbl,hkp0⟩,hf,hp,hn⟩:=hL;have f0:xs 0=_:=hf 0 (by decide);have f1:xs 1=_:=hf 1 (by decide);have f2:xs 2=_:=hf 2 (by decide);have f3:xs 3=_:=hf 3 (by decide);have f4:xs 4=_:=hf 4 (by decide);have f5:xs 5=_:=hf 5 (by decide);have f6:xs 6=_:=hf 6 (by decide);have f7:xs 7=_:=hf 7 (by decide);have f8:xs 8=_:=hf 8 (by decide)
 (try simp (disch:=first | rfl | decide) only [Rely.mask_in] at f0 f1 f2 f3 f4 f5 f6 f7 f8)
 have hbx:Below w11.heap.size w11 w12:=undrew (hbe _ (Nat.le_refl _) (fun q h=>absurd h (Nat.not_lt_zero q)));clear hbe hbl hkp0 hf hp hn;replace HB_x:=h_ ((hbx.block _ hlt_x).trans HB_x.out);clear hlt_x;refine Rely.rest_list (by decide) (by kernel_rfl) ?_;simp only[Rely.fill,List.take_succ_cons,List.take_zero,List.drop_succ_cons,List.drop_zero,List.setIfInBounds_toArray,List.set_cons_zero,List.set_cons_succ,f0,f1,f2,f3,f4,f5,f6,f7,f8];clear f0 f1 f2 f3 f4 f5 f6 f7 f8;have hs12:=hbx.size;have H12:=h_ (H11.out.below hbx);have HB12:=h_ (HB11.out.trans (hbx.mono (by omega)));have HF12:=h_ (HF11.out.trans (fr_below hbx));clear hbx;go_wp2_with fail
 refine (E.out b _ (lv 8) y0 t0 S w12 HT0.out hK0 (by decide) (HBW.out.trans HB12.out) H12.out (by simp only[lsa];omega)).mono ?_;rintro e w13 ⟨⟨v2,rfl⟩,hw7,hb7,hfr7⟩;have H13:=h_ hw7;have HB13:=h_ (HB12.out.trans hb7);have HF13:=h_ (HF12.out.trans hfr7);clear hw7 hb7 hfr7;go_wp2_with fail
 go_end0
 exact⟨⟨_,rfl⟩,(by rw[HTX.out,<-List.append_assoc];exact H13.out),HB13.out,HF13.out⟩
theorem bare_u9 (w0:World) (d:Nat) (E:Hid (ExprAt w0 d)) (b:Nat) (l:Bs) (k:Nat) (nm ot:Bs) (z:Nat) (ks:List T) (x:X) (S:Nat->Prop) (w:World) (ht:Tabs w0) (hk0:k=9) (h:Tr w0 S (d+1) x (.node k nm ot z ks)) (ho:Og (d+1) (.node k nm ot z ks))
  (hbw:Below w0.heap.size w0 w) (hwr:Wr w0.heap.size b l w) (hlen:l.length+(tx (.node k nm ot z ks)).length<=1000000) :
  Calls Tryz.prog 106 #[.pointer (some ⟨b,0,none⟩),xv x] w (WrPost w0.heap.size b (l++tx (.node k nm ot z ks)) w):=by
 subst hk0
 obtain⟨t0,hks1⟩:∃ t0,ks=[t0]:=by
  have:ks.length=1:=by
   rcases ho.2.2.2.2.1 with ha | ha
   ·omega
   exact ha
  match ks,this with
  | [a],_=>exact⟨a,rfl⟩
 subst hks1;have HTX:Hid (tx (.node 9 nm ot z [t0])=sg5 9++ex (lv 9) t0):=h_ (by rw[tx];rfl);rw[HTX.out] at hlen;simp only[lsa] at hlen;have hsl:=sg5_len 9 (by decide);have hK0:Og d t0:=ho.2.2.2.2.2.2 t0 (by simp);obtain⟨y0,hA0,hT0⟩:=h.2.2.2 0 (by simp);have HA0:=h_ hA0;have HT0:=h_ hT0;clear hA0 hT0;have HOK:=h_ ho;obtain⟨hk,hn,hoo,hz,ha,hl,hks⟩:=ho;have htr:=h;obtain⟨⟨e1,e2,e3,e4⟩,⟨h2,h3⟩,⟨h4,h5,h6⟩,h7⟩:=h;obtain⟨xk,xnm,xot,xb,xao,xn,xq,xko,xkn,xkc,xln,xcl⟩:=x;obtain⟨a,hxa,-⟩:=HA0.out;simp only at hxa;subst hxa;simp only at e1 e2 e3 e4 h2 h3 h4 h5 h6 h7;subst e1 e2 e3 e4 h4;have HTR:=h_ htr;have HK:=h_ h7;have HKS:=h_ hks;have HS:=h_ h2;have HT:=h_ ht;have HBW:=h_ hbw;have HWR:=h_ hwr;have hsB:=hbw.size;obtain⟨k3,hk3⟩:∃ k3,k3=w.heap.size:=⟨_,rfl⟩
 obtain⟨w9,hw9⟩:∃ w9,w9=w.alloc (.cells #[.int .i64 9,.string ⟨nm.toArray⟩,.string ⟨ot.toArray⟩,.bool false,.slice xao xn xq,.slice (some a) 1 xkc,.int .i64 xln,.int .i64 xcl] 46):=⟨_,rfl⟩
 have hba:Below w.heap.size w w9:=by rw[hw9];exact (Below.refl _ _).alloc (Nat.le_refl _) _
 have hx9:w9.heap[k3]?=some (.cells #[.int .i64 9,.string ⟨nm.toArray⟩,.string ⟨ot.toArray⟩,.bool false,.slice xao xn xq,.slice (some a) 1 xkc,.int .i64 xln,.int .i64 xcl] 46 (0,0)):=by rw[hw9,hk3];exact made_at w _ _ rfl
 have HB_x:=h_ hx9;have HW9:=h_ (HWR.out.below hba);have HB9:=h_ (hba.mono hsB);have HF9:=h_ (fr_below hba);have hs9:=hba.size;have x0:=cell_at (v:=.int .i64 9) hx9 0 rfl;have x1:=cell_at (v:=.string ⟨nm.toArray⟩) hx9 1 rfl;have x2:=cell_at (v:=.string ⟨ot.toArray⟩) hx9 2 rfl;have x3:=cell_at (v:=.bool false) hx9 3 rfl;have x4:=cell_at (v:=.slice xao xn xq) hx9 4 rfl;have x5:=cell_at (v:=.slice (some a) 1 xkc) hx9 5 rfl;have x6:=cell_at (v:=.int .i64 xln) hx9 6 rfl;have x7:=cell_at (v:=.int .i64 xcl) hx9 7 rfl;clear htr h2 h3 h6 h7 hks ha hba hx9 ht hbw hwr;simp only[xv,lsc,lsn];go_enter Tryz.func106,Tryz.ntmps106
 go_upto_region 1 with fail
 rw[<-hw9,<-hk3];clear hw9 hk3;have HSG:Hid (∀ wr,Below w9.heap.size w9 wr->wr.cell? ⟨3,9,none⟩=some (.string ⟨(sg5 9).toArray⟩)):=h_ fun wr hb=>((HT.out.below (HBW.out.trans HB9.out)).below hb).sg 9 (by decide)
 go_wp2_with fail
 have hlt_x:=lt_of_block HB_x.out;refine Rely.region (by kernel_rfl) [[],[0],[0,1],[],[3],[3,4],[3,4,5],[0,1,2,3,4,5,6]] [] [] (fun _=>0) 0 7 (by kernel_rfl) (by kernel_rfl) (fun q h=>absurd h (Nat.not_lt_zero q)) (fun q _ h=>absurd h (Nat.not_lt_zero q)) ?_;refine Rely.Chain.det ?_ (by rfl) (fun T xs wr hA=>?_) ?_
 rotate_left 1
 ·have e0:=hA.pre 0 (by kernel_rfl);simp only[gsa,gsz] at e0;clear hA;refine⟨(by rfl),?_⟩;go_simp<;>(try with_reducible rfl)
 refine Rely.Chain.det ?_ (by rfl) (fun T xs wr hA=>?_) ?_
 rotate_left 1
 ·have e44:=(hA.tm 0 44 (by rfl) (by rfl)).trans (congrArg some (hA.fa 0 (by rfl)))
  (try simp (disch:=first | rfl | decide) only [Rely.mask_in] at e44)
  clear hA;refine⟨(by rfl),?_⟩;go_simp<;>(try with_reducible rfl)
 refine Rely.Chain.det ?_ (by rfl) (fun T xs wr hA=>?_) ?_
 rotate_left 1
 ·have e45:=(hA.tm 1 45 (by rfl) (by rfl)).trans (congrArg some (hA.fa 1 (by rfl)))
  (try simp (disch:=first | rfl | decide) only [Rely.mask_in] at e45)
  clear hA;refine⟨(by rfl),?_⟩;go_simp<;>(try with_reducible rfl)
 refine Rely.Chain.det ?_ (by rfl) (fun T xs wr hA=>?_) ?_
 rotate_left 1
 ·have e3:=hA.pre 3 (by kernel_rfl);simp only[gsa,gsc,gsz] at e3;clear hA;refine⟨(by rfl),?_⟩;go_simp<;>(try with_reducible rfl)
 refine Rely.Chain.det ?_ (by rfl) (fun T xs wr hA=>?_) ?_
 rotate_left 1
 ·have e47:=(hA.tm 3 47 (by rfl) (by rfl)).trans (congrArg some (hA.fa 3 (by rfl)))
  (try simp (disch:=first | rfl | decide) only [Rely.mask_in] at e47)
  have hBq:wr.heap[k3]?=_:=(hA.bl _ hlt_x (fun q h=>absurd h (Nat.not_lt_zero q))).trans HB_x.out;obtain⟨q0,q1,q2,q3,q4,q5,q6,q7⟩:=cl8 hBq;clear hBq;clear hA;refine⟨(by rfl),?_⟩;go_simp<;>(try with_reducible rfl)
 refine Rely.Chain.det ?_ (by rfl) (fun T xs wr hA=>?_) ?_
 rotate_left 1
 ·have e48:=(hA.tm 4 48 (by rfl) (by rfl)).trans (congrArg some (hA.fa 4 (by rfl)))
  (try simp (disch:=first | rfl | decide) only [Rely.mask_in] at e48)
  clear hA;refine⟨(by rfl),?_⟩;go_simp<;>(try with_reducible rfl)
 refine Rely.Chain.det ?_ (by rfl) (fun T xs wr hA=>?_) ?_
 rotate_left 1
 ·have e49:=(hA.tm 5 49 (by rfl) (by rfl)).trans (congrArg some (hA.fa 5 (by rfl)))
  (try simp (disch:=first | rfl | decide) only [Rely.mask_in] at e49)
  have hbw:=undrew (hA.be _ (Nat.le_refl _) (fun q h=>absurd h (Nat.not_lt_zero q)));have sgc:=HSG.out wr hbw;clear hbw;clear hA;refine⟨(by rfl),?_⟩;go_simp<;>(try with_reducible rfl)
 refine Rely.Chain.done (fun xs w10 hL=>?_);obtain⟨⟨hbe,hbl,hkp0⟩,hf,hp,hn⟩:=hL;have f0:xs 0=_:=hf 0 (by decide);have f1:xs 1=_:=hf 1 (by decide);have f2:xs 2=_:=hf 2 (by decide);have f3:xs 3=_:=hf 3 (by decide);have f4:xs 4=_:=hf 4 (by decide);have f5:xs 5=_:=hf 5 (by decide);have f6:xs 6=_:=hf 6 (by decide)
 (try simp (disch:=first | rfl | decide) only [Rely.mask_in] at f0 f1 f2 f3 f4 f5 f6)
 have hbx:Below w9.heap.size w9 w10:=undrew (hbe _ (Nat.le_refl _) (fun q h=>absurd h (Nat.not_lt_zero q)));clear hbe hbl hkp0 hf hp hn;replace HB_x:=h_ ((hbx.block _ hlt_x).trans HB_x.out);clear hlt_x;refine Rely.rest_list (by decide) (by kernel_rfl) ?_;simp only[Rely.fill,List.take_succ_cons,List.take_zero,List.drop_succ_cons,List.drop_zero,List.setIfInBounds_toArray,List.set_cons_zero,List.set_cons_succ,f0,f1,f2,f3,f4,f5,f6];clear f0 f1 f2 f3 f4 f5 f6;have HBX:=h_ hbx;have hs10:=hbx.size;have H10:=h_ (HW9.out.below hbx);have HB10:=h_ (HB9.out.trans (hbx.mono (by omega)));have HF10:=h_ (HF9.out.trans (fr_below hbx));clear hbx;clear x0 x1 x2 x3 x4 x5 x6 x7;go_wp2_with fail
 refine (wr_str w0.heap.size b l (sg5 9) w10 H10.out (by omega) (by omega)).mono ?_;rintro e w11 ⟨⟨v,rfl⟩,hw5,hb5,hfr5⟩;have hs11:=hb5.size;replace HB_x:=h_ (hfr5 k3 _ _ _ HB_x.out (by decide) (by decide));have H11:=h_ hw5;have HB11:=h_ (HB10.out.trans hb5);have HF11:=h_ (HF10.out.trans hfr5);have HLV:Hid (∀ wr,Below w11.heap.size w11 wr->wr.cell? ⟨1,9,none⟩=some (.int .i64 (lv 9:Nat))):=h_ fun wr hb=>((HT.out.below (HBW.out.trans HB11.out)).below hb).lv 9 (by decide)
 clear hw5 hb5 hfr5;go_wp2_with fail
 have hlt_x:=lt_of_block HB_x.out;refine Rely.region (by kernel_rfl) [[],[],[1],[1,2],[1,2,3],[],[5],[5,6],[5,6,7],[0,1,2,3,4,5,6,7,8]] [] [] (fun _=>0) 0 9 (by kernel_rfl) (by kernel_rfl) (fun q h=>absurd h (Nat.not_lt_zero q)) (fun q _ h=>absurd h (Nat.not_lt_zero q)) ?_;refine Rely.Chain.det ?_ (by rfl) (fun T xs wr hA=>?_) ?_
 rotate_left 1
 ·have e0:=hA.pre 0 (by kernel_rfl);simp only[gsa,gsz] at e0;clear hA;refine⟨(by rfl),?_⟩;go_simp<;>(try with_reducible rfl)
 refine Rely.Chain.det ?_ (by rfl) (fun T xs wr hA=>?_) ?_
 rotate_left 1
 ·have e3:=hA.pre 3 (by kernel_rfl);simp only[gsa,gsc,gsz] at e3;clear hA;refine⟨(by rfl),?_⟩;go_simp<;>(try with_reducible rfl)
 refine Rely.Chain.det ?_ (by rfl) (fun T xs wr hA=>?_) ?_
 rotate_left 1
 ·have e53:=(hA.tm 1 53 (by rfl) (by rfl)).trans (congrArg some (hA.fa 1 (by rfl)))
  (try simp (disch:=first | rfl | decide) only [Rely.mask_in] at e53)
  have hBq:wr.heap[k3]?=_:=(hA.bl _ hlt_x (fun q h=>absurd h (Nat.not_lt_zero q))).trans HB_x.out;obtain⟨q0,q1,q2,q3,q4,q5,q6,q7⟩:=cl8 hBq;clear hBq;clear hA;refine⟨(by rfl),?_⟩;go_simp<;>(try with_reducible rfl)
 refine Rely.Chain.det ?_ (by rfl) (fun T xs wr hA=>?_) ?_
 rotate_left 1
 ·have e54:=(hA.tm 2 54 (by rfl) (by rfl)).trans (congrArg some (hA.fa 2 (by rfl)))
  (try simp (disch:=first | rfl | decide) only [Rely.mask_in] at e54)
  clear hA;refine⟨(by rfl),?_⟩;go_simp<;>(try with_reducible rfl)
 refine Rely.Chain.det ?_ (by rfl) (fun T xs wr hA=>?_) ?_
 rotate_left 1
 ·have e55:=(hA.tm 3 55 (by rfl) (by rfl)).trans (congrArg some (hA.fa 3 (by rfl)))
  (try simp (disch:=first | rfl | decide) only [Rely.mask_in] at e55)
  have hbw:=undrew (hA.be _ (Nat.le_refl _) (fun q h=>absurd h (Nat.not_lt_zero q)));obtain⟨a2,ea,hc0⟩:=HA0.out.keep fun a ha=>((HBW.out.trans HB11.out).trans (hbw.mono (HBW.out.trans HB11.out).size)).block _ (HA0.out.lt a ha)
  injection ea with ea;subst ea;have e0:a.add (0*8)=a:=by simp[Addr.add]
  rw[e0] at hc0;obtain⟨c0,c1,c2,c3,c4,c5,c6,c7⟩:=cells8 hc0;clear hc0 e0 hbw;clear hA;refine⟨(by rfl),?_⟩;go_simp<;>(try with_reducible rfl)
 refine Rely.Chain.det ?_ (by rfl) (fun T xs wr hA=>?_) ?_
 rotate_left 1
 ·have e3:=hA.pre 3 (by kernel_rfl);simp only[gsa,gsc,gsz] at e3;clear hA;refine⟨(by rfl),?_⟩;go_simp<;>(try with_reducible rfl)
 refine Rely.Chain.det ?_ (by rfl) (fun T xs wr hA=>?_) ?_
 rotate_left 1
 ·have e57:=(hA.tm 5 57 (by rfl) (by rfl)).trans (congrArg some (hA.fa 5 (by rfl)))
  (try simp (disch:=first | rfl | decide) only [Rely.mask_in] at e57)
  have hBq:wr.heap[k3]?=_:=(hA.bl _ hlt_x (fun q h=>absurd h (Nat.not_lt_zero q))).trans HB_x.out;obtain⟨q0,q1,q2,q3,q4,q5,q6,q7⟩:=cl8 hBq;clear hBq;clear hA;refine⟨(by rfl),?_⟩;go_simp<;>(try with_reducible rfl)
 refine Rely.Chain.det ?_ (by rfl) (fun T xs wr hA=>?_) ?_
 rotate_left 1
 ·have e58:=(hA.tm 6 58 (by rfl) (by rfl)).trans (congrArg some (hA.fa 6 (by rfl)))
  (try simp (disch:=first | rfl | decide) only [Rely.mask_in] at e58)
  clear hA;refine⟨(by rfl),?_⟩;go_simp<;>(try with_reducible rfl)
 refine Rely.Chain.det ?_ (by rfl) (fun T xs wr hA=>?_) ?_
 rotate_left 1
 ·have e59:=(hA.tm 7 59 (by rfl) (by rfl)).trans (congrArg some (hA.fa 7 (by rfl)))
  (try simp (disch:=first | rfl | decide) only [Rely.mask_in] at e59)
  have hbw:=undrew (hA.be _ (Nat.le_refl _) (fun q h=>absurd h (Nat.not_lt_zero q)));have lvc:=HLV.out wr hbw;clear hbw;clear hA;refine⟨(by rfl),?_⟩;go_simp<;>(try with_reducible rfl)
 refine Rely.Chain.done (fun xs w12 hL=>?_);obtain⟨⟨hbe,hbl,hkp0⟩,hf,hp,hn⟩:=hL;have f0:xs 0=_:=hf 0 (by decide);have f1:xs 1=_:=hf 1 (by decide);have f2:xs 2=_:=hf 2 (by decide);have f3:xs 3=_:=hf 3 (by decide);have f4:xs 4=_:=hf 4 (by decide);have f5:xs 5=_:=hf 5 (by decide);have f6:xs 6=_:=hf 6 (by decide);have f7:xs 7=_:=hf 7 (by decide);have f8:xs 8=_:=hf 8 (by decide)
 (try simp (disch:=first | rfl | decide) only [Rely.mask_in] at f0 f1 f2 f3 f4 f5 f6 f7 f8)
 have hbx:Below w11.heap.size w11 w12:=undrew (hbe _ (Nat.le_refl _) (fun q h=>absurd h (Nat.not_lt_zero q)));clear hbe hbl hkp0 hf hp hn;replace HB_x:=h_ ((hbx.block _ hlt_x).trans HB_x.out);clear hlt_x;refine Rely.rest_list (by decide) (by kernel_rfl) ?_;simp only[Rely.fill,List.take_succ_cons,List.take_zero,List.drop_succ_cons,List.drop_zero,List.setIfInBounds_toArray,List.set_cons_zero,List.set_cons_succ,f0,f1,f2,f3,f4,f5,f6,f7,f8];clear f0 f1 f2 f3 f4 f5 f6 f7 f8;have hs12:=hbx.size;have H12:=h_ (H11.out.below hbx);have HB12:=h_ (HB11.out.trans (hbx.mono (by omega)));have HF12:=h_ (HF11.out.trans (fr_below hbx));clear hbx;go_wp2_with fail
 refine (E.out b _ (lv 9) y0 t0 S w12 HT0.out hK0 (by decide) (HBW.out.trans HB12.out) H12.out (by simp only[lsa];omega)).mono ?_;rintro e w13 ⟨⟨v2,rfl⟩,hw7,hb7,hfr7⟩;have H13:=h_ hw7;have HB13:=h_ (HB12.out.trans hb7);have HF13:=h_ (HF12.out.trans hfr7);clear hw7 hb7 hfr7;go_wp2_with fail
 go_end0
 exact⟨⟨_,rfl⟩,(by rw[HTX.out,<-List.append_assoc];exact H13.out),HB13.out,HF13.out⟩
theorem bare_call (w0:World) (d:Nat) (E:Hid (ExprAt w0 d)) (b:Nat) (l:Bs) (k:Nat) (nm ot:Bs) (z:Nat) (ks:List T) (x:X) (S:Nat->Prop) (w:World) (ht:Tabs w0) (hk0:k=24) (h:Tr w0 S (d+1) x (.node k nm ot z ks)) (ho:Og (d+1) (.node k nm ot z ks))
  (hbw:Below w0.heap.size w0 w) (hwr:Wr w0.heap.size b l w) (hlen:l.length+(tx (.node k nm ot z ks)).length<=1000000) :
  Calls Tryz.prog 106 #[.pointer (some ⟨b,0,none⟩),xv x] w (WrPost w0.heap.size b (l++tx (.node k nm ot z ks)) w):=by
 subst hk0;have HTX:Hid (tx (.node 24 nm ot z ks)=nm++[40]++com (k0 ks)++[41]):=h_ (by rw[tx,exs_k0 24 (by decide)];rfl);rw[HTX.out] at hlen;have HOK:=h_ ho;obtain⟨hk,hn,hoo,hz,ha,hl,hks⟩:=ho;have htr:=h;obtain⟨⟨e1,e2,e3,e4⟩,⟨h2,h3⟩,⟨h4,h5,h6⟩,h7⟩:=h;obtain⟨xk,xnm,xot,xb,xao,xn,xq,xko,xkn,xkc,xln,xcl⟩:=x;simp only at e1 e2 e3 e4 h2 h3 h4 h5 h6 h7;subst e1 e2 e3 e4 h4;have HTR:=h_ htr;have HK:=h_ h7;have HKS:=h_ hks;have HS:=h_ h2;have HT:=h_ ht;have HBW:=h_ hbw;have HWR:=h_ hwr;have hsB:=hbw.size;obtain⟨k3,hk3⟩:∃ k3,k3=w.heap.size:=⟨_,rfl⟩
 obtain⟨w9,hw9⟩:∃ w9,w9=w.alloc (.cells #[.int .i64 24,.string ⟨nm.toArray⟩,.string ⟨ot.toArray⟩,.bool false,.slice xao xn xq,.slice xko ks.length xkc,.int .i64 xln,.int .i64 xcl] 46):=⟨_,rfl⟩
 have hba:Below w.heap.size w w9:=by rw[hw9];exact (Below.refl _ _).alloc (Nat.le_refl _) _
 have hx9:w9.heap[k3]?=some (.cells #[.int .i64 24,.string ⟨nm.toArray⟩,.string ⟨ot.toArray⟩,.bool false,.slice xao xn xq,.slice xko ks.length xkc,.int .i64 xln,.int .i64 xcl] 46 (0,0)):=by rw[hw9,hk3];exact made_at w _ _ rfl
 have HB_x:=h_ hx9;have HW9:=h_ (HWR.out.below hba);have HB9:=h_ (hba.mono hsB);have HF9:=h_ (fr_below hba);have hs9:=hba.size;have x0:=cell_at (v:=.int .i64 24) hx9 0 rfl;have x1:=cell_at (v:=.string ⟨nm.toArray⟩) hx9 1 rfl;have x2:=cell_at (v:=.string ⟨ot.toArray⟩) hx9 2 rfl;have x3:=cell_at (v:=.bool false) hx9 3 rfl;have x4:=cell_at (v:=.slice xao xn xq) hx9 4 rfl;have x5:=cell_at (v:=.slice xko ks.length xkc) hx9 5 rfl;have x6:=cell_at (v:=.int .i64 xln) hx9 6 rfl;have x7:=cell_at (v:=.int .i64 xcl) hx9 7 rfl;clear htr h2 h3 h6 h7 hks ha hba hx9 ht hbw hwr;simp only[xv];go_enter Tryz.func106,Tryz.ntmps106
 go_upto_region 1 with fail
 rw[<-hw9,<-hk3];clear hw9 hk3;go_wp2_with fail
 refine (call_any w0 d E b l 24 nm ot z ks ⟨((24:Nat):Int),⟨nm.toArray⟩,⟨ot.toArray⟩,false,xao,xn,xq,xko,ks.length,xkc,xln,xcl⟩ S w9 HTR.out HOK.out (HBW.out.trans HB9.out) HW9.out hlen).mono ?_;have HB10:=HB9;have HF10:=HF9;clear x0 x1 x2 x3 x4 x5 x6 x7;rintro e w11 ⟨⟨v,rfl⟩,hw5,hb5,hfr5⟩;have H11:=h_ hw5;have HB11:=h_ (HB10.out.trans hb5);have HF11:=h_ (HF10.out.trans hfr5);clear hw5 hb5 hfr5;go_wp2_with fail
 go_end0
 exact⟨⟨_,rfl⟩,(by rw[HTX.out];exact H11.out),HB11.out,HF11.out⟩
theorem bare_bin (w0:World) (d:Nat) (E:Hid (ExprAt w0 d)) (b:Nat) (l:Bs) (k:Nat) (nm ot:Bs) (z:Nat) (ks:List T) (x:X) (S:Nat->Prop) (w:World) (ht:Tabs w0) (h10:10<=k) (h24:k<24) (h:Tr w0 S (d+1) x (.node k nm ot z ks)) (ho:Og (d+1) (.node k nm ot z ks))
  (hbw:Below w0.heap.size w0 w) (hwr:Wr w0.heap.size b l w) (hlen:l.length+(tx (.node k nm ot z ks)).length<=1000000) :
  Calls Tryz.prog 106 #[.pointer (some ⟨b,0,none⟩),xv x] w (WrPost w0.heap.size b (l++tx (.node k nm ot z ks)) w):=by
 have n0:(((k:Nat):Int)==0)=false:=by rw[beq_eq_false_iff_ne];omega
 have n1:(((k:Nat):Int)==1)=false:=by rw[beq_eq_false_iff_ne];omega
 have n2:(((k:Nat):Int)==2)=false:=by rw[beq_eq_false_iff_ne];omega
 have n3:(((k:Nat):Int)==3)=false:=by rw[beq_eq_false_iff_ne];omega
 have n4:(((k:Nat):Int)==4)=false:=by rw[beq_eq_false_iff_ne];omega
 have n5:(((k:Nat):Int)==5)=false:=by rw[beq_eq_false_iff_ne];omega
 have n6:(((k:Nat):Int)==6)=false:=by rw[beq_eq_false_iff_ne];omega
 have n7:(((k:Nat):Int)==7)=false:=by rw[beq_eq_false_iff_ne];omega
 have n8:(((k:Nat):Int)==8)=false:=by rw[beq_eq_false_iff_ne];omega
 have n9:(((k:Nat):Int)==9)=false:=by rw[beq_eq_false_iff_ne];omega
 have n24:(((k:Nat):Int)==24)=false:=by rw[beq_eq_false_iff_ne];omega
 have n25:(((k:Nat):Int)==25)=false:=by rw[beq_eq_false_iff_ne];omega
 have n26:(((k:Nat):Int)==26)=false:=by rw[beq_eq_false_iff_ne];omega
 have n27:(((k:Nat):Int)==27)=false:=by rw[beq_eq_false_iff_ne];omega
 have n28:(((k:Nat):Int)==28)=false:=by rw[beq_eq_false_iff_ne];omega
 have HOK:=h_ ho;obtain⟨hk,hn,hoo,hz,ha,hl,hks⟩:=ho;have htr:=h;obtain⟨⟨e1,e2,e3,e4⟩,⟨h2,h3⟩,⟨h4,h5,h6⟩,h7⟩:=h;obtain⟨xk,xnm,xot,xb,xao,xn,xq,xko,xkn,xkc,xln,xcl⟩:=x;simp only at e1 e2 e3 e4 h2 h3 h4 h5 h6 h7;subst e1 e2 e3 e4 h4;have HTR:=h_ htr;have HK:=h_ h7;have HKS:=h_ hks;have HS:=h_ h2;have HT:=h_ ht;have HBW:=h_ hbw;have HWR:=h_ hwr;have hsB:=hbw.size;obtain⟨k3,hk3⟩:∃ k3,k3=w.heap.size:=⟨_,rfl⟩
 obtain⟨w9,hw9⟩:∃ w9,w9=w.alloc (.cells #[.int .i64 (k:Nat),.string ⟨nm.toArray⟩,.string ⟨ot.toArray⟩,.bool false,.slice xao xn xq,.slice xko ks.length xkc,.int .i64 xln,.int .i64 xcl] 46):=⟨_,rfl⟩
 have hba:Below w.heap.size w w9:=by rw[hw9];exact (Below.refl _ _).alloc (Nat.le_refl _) _
 have hx9:w9.heap[k3]?=some (.cells #[.int .i64 (k:Nat),.string ⟨nm.toArray⟩,.string ⟨ot.toArray⟩,.bool false,.slice xao xn xq,.slice xko ks.length xkc,.int .i64 xln,.int .i64 xcl] 46 (0,0)):=by rw[hw9,hk3];exact made_at w _ _ rfl
 have HB_x:=h_ hx9;have HW9:=h_ (HWR.out.below hba);have HB9:=h_ (hba.mono hsB);have HF9:=h_ (fr_below hba);have hs9:=hba.size;have x0:=cell_at (v:=.int .i64 (k:Nat)) hx9 0 rfl;have x1:=cell_at (v:=.string ⟨nm.toArray⟩) hx9 1 rfl;have x2:=cell_at (v:=.string ⟨ot.toArray⟩) hx9 2 rfl;have x3:=cell_at (v:=.bool false) hx9 3 rfl;have x4:=cell_at (v:=.slice xao xn xq) hx9 4 rfl;have x5:=cell_at (v:=.slice xko ks.length xkc) hx9 5 rfl;have x6:=cell_at (v:=.int .i64 xln) hx9 6 rfl;have x7:=cell_at (v:=.int .i64 xcl) hx9 7 rfl;clear htr h2 h3 h6 h7 hks ha hba hx9 ht hbw hwr;simp only[xv];go_enter Tryz.func106,Tryz.ntmps106
 go_upto_region 1 with fail
 rw[<-hw9,<-hk3];clear hw9 hk3;go_wp2_with fail
 refine (binary_any w0 d E b l k nm ot z ks ⟨(k:Nat),⟨nm.toArray⟩,⟨ot.toArray⟩,false,xao,xn,xq,xko,ks.length,xkc,xln,xcl⟩ S w9 HT.out h10 h24 HTR.out HOK.out (HBW.out.trans HB9.out) HW9.out hlen).mono ?_;have HB10:=HB9;have HF10:=HF9;clear x0 x1 x2 x3 x4 x5 x6 x7;rintro e w11 ⟨⟨v,rfl⟩,hw5,hb5,hfr5⟩;have H11:=h_ hw5;have HB11:=h_ (HB10.out.trans hb5);have HF11:=h_ (HF10.out.trans hfr5);clear hw5 hb5 hfr5;go_wp2_with fail
 go_end0
 exact⟨⟨_,rfl⟩,H11.out,HB11.out,HF11.out⟩
theorem bare_p25 (w0:World) (d:Nat) (E:Hid (ExprAt w0 d)) (b:Nat) (l:Bs) (k:Nat) (nm ot:Bs) (z:Nat) (ks:List T) (x:X) (S:Nat->Prop) (w:World) (ht:Tabs w0) (hk0:k=25) (h:Tr w0 S (d+1) x (.node k nm ot z ks)) (ho:Og (d+1) (.node k nm ot z ks))
  (hbw:Below w0.heap.size w0 w) (hwr:Wr w0.heap.size b l w) (hlen:l.length+(tx (.node k nm ot z ks)).length<=1000000) :
  Calls Tryz.prog 106 #[.pointer (some ⟨b,0,none⟩),xv x] w (WrPost w0.heap.size b (l++tx (.node k nm ot z ks)) w):=by
 subst hk0
 have HKL:Hid (ks.length=3):=h_ <| by
  rcases ho.2.2.2.2.1 with ha | ha
  ·omega
  exact ha
 have HTX:Hid (tx (.node 25 nm ot z ks)=phr (words 25 nm ot) (k0 ks)):=h_ (by rw[tx,exs_k0 25 (by decide)];rfl);rw[HTX.out] at hlen;have hns:(⟨nm.toArray⟩:ByteArray).size=nm.length:=rfl;have hos:(⟨ot.toArray⟩:ByteArray).size=ot.length:=rfl;have HOK:=h_ ho;obtain⟨hk,hn,hoo,hz,ha,hl,hks⟩:=ho;have htr:=h;obtain⟨⟨e1,e2,e3,e4⟩,⟨h2,h3⟩,⟨h4,h5,h6⟩,h7⟩:=h;obtain⟨xk,xnm,xot,xb,xao,xn,xq,xko,xkn,xkc,xln,xcl⟩:=x;simp only at e1 e2 e3 e4 h2 h3 h4 h5 h6 h7;subst e1 e2 e3 e4 h4;have HTR:=h_ htr;have HK:=h_ h7;have HKS:=h_ hks;have HS:=h_ h2;have HT:=h_ ht;have HBW:=h_ hbw;have HWR:=h_ hwr;have hsB:=hbw.size;obtain⟨k3,hk3⟩:∃ k3,k3=w.heap.size:=⟨_,rfl⟩
 obtain⟨w9,hw9⟩:∃ w9,w9=w.alloc (.cells #[.int .i64 25,.string ⟨nm.toArray⟩,.string ⟨ot.toArray⟩,.bool false,.slice xao xn xq,.slice xko ks.length xkc,.int .i64 xln,.int .i64 xcl] 46):=⟨_,rfl⟩
 have hba:Below w.heap.size w w9:=by rw[hw9];exact (Below.refl _ _).alloc (Nat.le_refl _) _
 have hx9:w9.heap[k3]?=some (.cells #[.int .i64 25,.string ⟨nm.toArray⟩,.string ⟨ot.toArray⟩,.bool false,.slice xao xn xq,.slice xko ks.length xkc,.int .i64 xln,.int .i64 xcl] 46 (0,0)):=by rw[hw9,hk3];exact made_at w _ _ rfl
 have HB_x:=h_ hx9;have HW9:=h_ (HWR.out.below hba);have HB9:=h_ (hba.mono hsB);have HF9:=h_ (fr_below hba);have hs9:=hba.size;have x0:=cell_at (v:=.int .i64 25) hx9 0 rfl;have x1:=cell_at (v:=.string ⟨nm.toArray⟩) hx9 1 rfl;have x2:=cell_at (v:=.string ⟨ot.toArray⟩) hx9 2 rfl;have x3:=cell_at (v:=.bool false) hx9 3 rfl;have x4:=cell_at (v:=.slice xao xn xq) hx9 4 rfl;have x5:=cell_at (v:=.slice xko ks.length xkc) hx9 5 rfl;have x6:=cell_at (v:=.int .i64 xln) hx9 6 rfl;have x7:=cell_at (v:=.int .i64 xcl) hx9 7 rfl;clear htr h2 h3 h6 h7 hks ha hba hx9 ht hbw hwr;simp only[xv];go_enter Tryz.func106,Tryz.ntmps106
 go_upto_region 1 with fail
 rw[<-hw9,<-hk3];clear hw9 hk3;go_wp2_with fail
 obtain⟨w10,hw10⟩:∃ w10,w10=w9.alloc (.cells #[.string ⟨#[105,102,32]⟩,.string ⟨#[32,116,104,101,110,32]⟩,.string ⟨#[32,101,108,115,101,32]⟩] 9):=⟨_,rfl⟩
 have hex:(#[.string ⟨#[105,102,32]⟩,.string ⟨#[32,116,104,101,110,32]⟩,.string ⟨#[32,101,108,115,101,32]⟩]:Array Value)=((words 25 nm ot).map fun s=>Value.string ⟨s.toArray⟩).toArray:=rfl;have hb10:Below w9.heap.size w9 w10:=by rw[hw10];exact (Below.refl _ _).alloc (Nat.le_refl _) _
 have HWD:Hid (Words w10 w9.heap.size (words 25 nm ot)):=h_ (by rw[hw10];unfold Words;rw[made_at w9 _ _ rfl,hex]);have H10:=h_ (HW9.out.below hb10);have HB10:=h_ (HB9.out.trans (hb10.mono (by omega)));have HF10:=h_ (HF9.out.trans (fr_below hb10));clear hb10 hex;rw[<-hw10];clear hw10;refine (phrase_n w0 d E b l 25 nm ot z ks ⟨((25:Nat):Int),⟨nm.toArray⟩,⟨ot.toArray⟩,false,xao,xn,xq,xko,ks.length,xkc,xln,xcl⟩ S w9.heap.size (words 25 nm ot) 3 _ w10 HKL.out HTR.out HOK.out rfl HWD.out (HBW.out.trans HB10.out) H10.out hlen).mono ?_;clear x0 x1 x2 x3 x4 x5 x6 x7;rintro e w11 ⟨⟨v,rfl⟩,hw5,hb5,hfr5⟩;have H11:=h_ hw5;have HB11:=h_ (HB10.out.trans hb5);have HF11:=h_ (HF10.out.trans hfr5);clear hw5 hb5 hfr5;go_wp2_with fail
 go_end0
 exact⟨⟨_,rfl⟩,(by rw[HTX.out];exact H11.out),HB11.out,HF11.out⟩
theorem bare_p26 (w0:World) (d:Nat) (E:Hid (ExprAt w0 d)) (b:Nat) (l:Bs) (k:Nat) (nm ot:Bs) (z:Nat) (ks:List T) (x:X) (S:Nat->Prop) (w:World) (ht:Tabs w0) (hk0:k=26) (h:Tr w0 S (d+1) x (.node k nm ot z ks)) (ho:Og (d+1) (.node k nm ot z ks))
  (hbw:Below w0.heap.size w0 w) (hwr:Wr w0.heap.size b l w) (hlen:l.length+(tx (.node k nm ot z ks)).length<=1000000) :
  Calls Tryz.prog 106 #[.pointer (some ⟨b,0,none⟩),xv x] w (WrPost w0.heap.size b (l++tx (.node k nm ot z ks)) w):=by
 subst hk0
 have HKL:Hid (ks.length=2):=h_ <| by
  rcases ho.2.2.2.2.1 with ha | ha
  ·omega
  exact ha
 have HTX:Hid (tx (.node 26 nm ot z ks)=phr (words 26 nm ot) (k0 ks)):=h_ (by rw[tx,exs_k0 26 (by decide)];rfl);rw[HTX.out] at hlen;have hns:(⟨nm.toArray⟩:ByteArray).size=nm.length:=rfl;have hos:(⟨ot.toArray⟩:ByteArray).size=ot.length:=rfl;have HOK:=h_ ho;obtain⟨hk,hn,hoo,hz,ha,hl,hks⟩:=ho;have htr:=h;obtain⟨⟨e1,e2,e3,e4⟩,⟨h2,h3⟩,⟨h4,h5,h6⟩,h7⟩:=h;obtain⟨xk,xnm,xot,xb,xao,xn,xq,xko,xkn,xkc,xln,xcl⟩:=x;simp only at e1 e2 e3 e4 h2 h3 h4 h5 h6 h7;subst e1 e2 e3 e4 h4;have HTR:=h_ htr;have HK:=h_ h7;have HKS:=h_ hks;have HS:=h_ h2;have HT:=h_ ht;have HBW:=h_ hbw;have HWR:=h_ hwr;have hsB:=hbw.size;obtain⟨k3,hk3⟩:∃ k3,k3=w.heap.size:=⟨_,rfl⟩
 obtain⟨w9,hw9⟩:∃ w9,w9=w.alloc (.cells #[.int .i64 26,.string ⟨nm.toArray⟩,.string ⟨ot.toArray⟩,.bool false,.slice xao xn xq,.slice xko ks.length xkc,.int .i64 xln,.int .i64 xcl] 46):=⟨_,rfl⟩
 have hba:Below w.heap.size w w9:=by rw[hw9];exact (Below.refl _ _).alloc (Nat.le_refl _) _
 have hx9:w9.heap[k3]?=some (.cells #[.int .i64 26,.string ⟨nm.toArray⟩,.string ⟨ot.toArray⟩,.bool false,.slice xao xn xq,.slice xko ks.length xkc,.int .i64 xln,.int .i64 xcl] 46 (0,0)):=by rw[hw9,hk3];exact made_at w _ _ rfl
 have HB_x:=h_ hx9;have HW9:=h_ (HWR.out.below hba);have HB9:=h_ (hba.mono hsB);have HF9:=h_ (fr_below hba);have hs9:=hba.size;have x0:=cell_at (v:=.int .i64 26) hx9 0 rfl;have x1:=cell_at (v:=.string ⟨nm.toArray⟩) hx9 1 rfl;have x2:=cell_at (v:=.string ⟨ot.toArray⟩) hx9 2 rfl;have x3:=cell_at (v:=.bool false) hx9 3 rfl;have x4:=cell_at (v:=.slice xao xn xq) hx9 4 rfl;have x5:=cell_at (v:=.slice xko ks.length xkc) hx9 5 rfl;have x6:=cell_at (v:=.int .i64 xln) hx9 6 rfl;have x7:=cell_at (v:=.int .i64 xcl) hx9 7 rfl;clear htr h2 h3 h6 h7 hks ha hba hx9 ht hbw hwr;simp only[xv];go_enter Tryz.func106,Tryz.ntmps106
 go_upto_region 1 with fail
 rw[<-hw9,<-hk3];clear hw9 hk3;go_wp2_with fail
 obtain⟨w10,hw10⟩:∃ w10,w10=w9.alloc (.cells #[.string (⟨#[108,101,116,32]⟩++⟨nm.toArray⟩++⟨#[32,61,32]⟩),.string ⟨#[32,105,110,32]⟩] 9):=⟨_,rfl⟩
 have hc1:(⟨#[108,101,116,32]⟩++⟨nm.toArray⟩++⟨#[32,61,32]⟩:ByteArray)=⟨([108,101,116,32]++nm++[32,61,32]).toArray⟩:=(congrArg (· ++ _) (ByteArray.mk_append_mk [108,101,116,32] nm)).trans (ByteArray.mk_append_mk _ [32,61,32]);have hex:(#[.string (⟨#[108,101,116,32]⟩++⟨nm.toArray⟩++⟨#[32,61,32]⟩),.string ⟨#[32,105,110,32]⟩]:Array Value)=((words 26 nm ot).map fun s=>Value.string ⟨s.toArray⟩).toArray:=by rw[hc1];rfl
 have hb10:Below w9.heap.size w9 w10:=by rw[hw10];exact (Below.refl _ _).alloc (Nat.le_refl _) _
 have HWD:Hid (Words w10 w9.heap.size (words 26 nm ot)):=h_ (by rw[hw10];unfold Words;rw[made_at w9 _ _ rfl,hex]);have H10:=h_ (HW9.out.below hb10);have HB10:=h_ (HB9.out.trans (hb10.mono (by omega)));have HF10:=h_ (HF9.out.trans (fr_below hb10));clear hb10 hex hc1;rw[<-hw10];clear hw10;refine (phrase_n w0 d E b l 26 nm ot z ks ⟨((26:Nat):Int),⟨nm.toArray⟩,⟨ot.toArray⟩,false,xao,xn,xq,xko,ks.length,xkc,xln,xcl⟩ S w9.heap.size (words 26 nm ot) 2 _ w10 HKL.out HTR.out HOK.out rfl HWD.out (HBW.out.trans HB10.out) H10.out hlen).mono ?_;clear x0 x1 x2 x3 x4 x5 x6 x7;rintro e w11 ⟨⟨v,rfl⟩,hw5,hb5,hfr5⟩;have H11:=h_ hw5;have HB11:=h_ (HB10.out.trans hb5);have HF11:=h_ (HF10.out.trans hfr5);clear hw5 hb5 hfr5;go_wp2_with fail
 go_end0
 exact⟨⟨_,rfl⟩,(by rw[HTX.out];exact H11.out),HB11.out,HF11.out⟩
theorem bare_p27 (w0:World) (d:Nat) (E:Hid (ExprAt w0 d)) (b:Nat) (l:Bs) (k:Nat) (nm ot:Bs) (z:Nat) (ks:List T) (x:X) (S:Nat->Prop) (w:World) (ht:Tabs w0) (hk0:k=27) (h:Tr w0 S (d+1) x (.node k nm ot z ks)) (ho:Og (d+1) (.node k nm ot z ks))
  (hbw:Below w0.heap.size w0 w) (hwr:Wr w0.heap.size b l w) (hlen:l.length+(tx (.node k nm ot z ks)).length<=1000000) :
  Calls Tryz.prog 106 #[.pointer (some ⟨b,0,none⟩),xv x] w (WrPost w0.heap.size b (l++tx (.node k nm ot z ks)) w):=by
 subst hk0
 have HKL:Hid (ks.length=3):=h_ <| by
  rcases ho.2.2.2.2.1 with ha | ha
  ·omega
  exact ha
 have HTX:Hid (tx (.node 27 nm ot z ks)=phr (words 27 nm ot) (k0 ks)):=h_ (by rw[tx,exs_k0 27 (by decide)];rfl);rw[HTX.out] at hlen;have hns:(⟨nm.toArray⟩:ByteArray).size=nm.length:=rfl;have hos:(⟨ot.toArray⟩:ByteArray).size=ot.length:=rfl;have HOK:=h_ ho;obtain⟨hk,hn,hoo,hz,ha,hl,hks⟩:=ho;have htr:=h;obtain⟨⟨e1,e2,e3,e4⟩,⟨h2,h3⟩,⟨h4,h5,h6⟩,h7⟩:=h;obtain⟨xk,xnm,xot,xb,xao,xn,xq,xko,xkn,xkc,xln,xcl⟩:=x;simp only at e1 e2 e3 e4 h2 h3 h4 h5 h6 h7;subst e1 e2 e3 e4 h4;have HTR:=h_ htr;have HK:=h_ h7;have HKS:=h_ hks;have HS:=h_ h2;have HT:=h_ ht;have HBW:=h_ hbw;have HWR:=h_ hwr;have hsB:=hbw.size;obtain⟨k3,hk3⟩:∃ k3,k3=w.heap.size:=⟨_,rfl⟩
 obtain⟨w9,hw9⟩:∃ w9,w9=w.alloc (.cells #[.int .i64 27,.string ⟨nm.toArray⟩,.string ⟨ot.toArray⟩,.bool false,.slice xao xn xq,.slice xko ks.length xkc,.int .i64 xln,.int .i64 xcl] 46):=⟨_,rfl⟩
 have hba:Below w.heap.size w w9:=by rw[hw9];exact (Below.refl _ _).alloc (Nat.le_refl _) _
 have hx9:w9.heap[k3]?=some (.cells #[.int .i64 27,.string ⟨nm.toArray⟩,.string ⟨ot.toArray⟩,.bool false,.slice xao xn xq,.slice xko ks.length xkc,.int .i64 xln,.int .i64 xcl] 46 (0,0)):=by rw[hw9,hk3];exact made_at w _ _ rfl
 have HB_x:=h_ hx9;have HW9:=h_ (HWR.out.below hba);have HB9:=h_ (hba.mono hsB);have HF9:=h_ (fr_below hba);have hs9:=hba.size;have x0:=cell_at (v:=.int .i64 27) hx9 0 rfl;have x1:=cell_at (v:=.string ⟨nm.toArray⟩) hx9 1 rfl;have x2:=cell_at (v:=.string ⟨ot.toArray⟩) hx9 2 rfl;have x3:=cell_at (v:=.bool false) hx9 3 rfl;have x4:=cell_at (v:=.slice xao xn xq) hx9 4 rfl;have x5:=cell_at (v:=.slice xko ks.length xkc) hx9 5 rfl;have x6:=cell_at (v:=.int .i64 xln) hx9 6 rfl;have x7:=cell_at (v:=.int .i64 xcl) hx9 7 rfl;clear htr h2 h3 h6 h7 hks ha hba hx9 ht hbw hwr;simp only[xv];go_enter Tryz.func106,Tryz.ntmps106
 go_upto_region 1 with fail
 rw[<-hw9,<-hk3];clear hw9 hk3;go_wp2_with fail
 obtain⟨w10,hw10⟩:∃ w10,w10=w9.alloc (.cells #[.string ⟨#[109,97,116,99,104,32]⟩,.string ⟨#[32,119,105,116,104,32,91,93,32,45,62,32]⟩,.string (⟨#[32,124,32]⟩++⟨nm.toArray⟩++⟨#[32,58,58,32]⟩++⟨ot.toArray⟩++⟨#[32,45,62,32]⟩)] 9):=⟨_,rfl⟩
 have hc1:(⟨#[32,124,32]⟩++⟨nm.toArray⟩++⟨#[32,58,58,32]⟩++⟨ot.toArray⟩++⟨#[32,45,62,32]⟩:ByteArray)=⟨([32,124,32]++nm++[32,58,58,32]++ot++[32,45,62,32]).toArray⟩:=by
  have q1:=ByteArray.mk_append_mk [32,124,32] nm;have q2:=ByteArray.mk_append_mk ([32,124,32]++nm) [32,58,58,32];have q3:=ByteArray.mk_append_mk ([32,124,32]++nm++[32,58,58,32]) ot;have q4:=ByteArray.mk_append_mk ([32,124,32]++nm++[32,58,58,32]++ot) [32,45,62,32];rw[<-q4,<-q3,<-q2,<-q1]
 have hex:(#[.string ⟨#[109,97,116,99,104,32]⟩,.string ⟨#[32,119,105,116,104,32,91,93,32,45,62,32]⟩,.string (⟨#[32,124,32]⟩++⟨nm.toArray⟩++⟨#[32,58,58,32]⟩++⟨ot.toArray⟩++⟨#[32,45,62,32]⟩)]:Array Value)=((words 27 nm ot).map fun s=>Value.string ⟨s.toArray⟩).toArray:=by rw[hc1];rfl
 have hb10:Below w9.heap.size w9 w10:=by rw[hw10];exact (Below.refl _ _).alloc (Nat.le_refl _) _
 have HWD:Hid (Words w10 w9.heap.size (words 27 nm ot)):=h_ (by rw[hw10];unfold Words;rw[made_at w9 _ _ rfl,hex]);have H10:=h_ (HW9.out.below hb10);have HB10:=h_ (HB9.out.trans (hb10.mono (by omega)));have HF10:=h_ (HF9.out.trans (fr_below hb10));clear hb10 hex hc1;rw[<-hw10];clear hw10;refine (phrase_n w0 d E b l 27 nm ot z ks ⟨((27:Nat):Int),⟨nm.toArray⟩,⟨ot.toArray⟩,false,xao,xn,xq,xko,ks.length,xkc,xln,xcl⟩ S w9.heap.size (words 27 nm ot) 3 _ w10 HKL.out HTR.out HOK.out rfl HWD.out (HBW.out.trans HB10.out) H10.out hlen).mono ?_;clear x0 x1 x2 x3 x4 x5 x6 x7;rintro e w11 ⟨⟨v,rfl⟩,hw5,hb5,hfr5⟩;have H11:=h_ hw5;have HB11:=h_ (HB10.out.trans hb5);have HF11:=h_ (HF10.out.trans hfr5);clear hw5 hb5 hfr5;go_wp2_with fail
 go_end0
 exact⟨⟨_,rfl⟩,(by rw[HTX.out];exact H11.out),HB11.out,HF11.out⟩
theorem bare_p28 (w0:World) (d:Nat) (E:Hid (ExprAt w0 d)) (b:Nat) (l:Bs) (k:Nat) (nm ot:Bs) (z:Nat) (ks:List T) (x:X) (S:Nat->Prop) (w:World) (ht:Tabs w0) (hk0:k=28) (h:Tr w0 S (d+1) x (.node k nm ot z ks)) (ho:Og (d+1) (.node k nm ot z ks))
  (hbw:Below w0.heap.size w0 w) (hwr:Wr w0.heap.size b l w) (hlen:l.length+(tx (.node k nm ot z ks)).length<=1000000) :
  Calls Tryz.prog 106 #[.pointer (some ⟨b,0,none⟩),xv x] w (WrPost w0.heap.size b (l++tx (.node k nm ot z ks)) w):=by
 subst hk0
 have HKL:Hid (ks.length=2):=h_ <| by
  rcases ho.2.2.2.2.1 with ha | ha
  ·omega
  exact ha
 have HTX:Hid (tx (.node 28 nm ot z ks)=phr (words 28 nm ot) (k0 ks)):=h_ (by rw[tx,exs_k0 28 (by decide)];rfl);rw[HTX.out] at hlen;have hns:(⟨nm.toArray⟩:ByteArray).size=nm.length:=rfl;have hos:(⟨ot.toArray⟩:ByteArray).size=ot.length:=rfl;have HOK:=h_ ho;obtain⟨hk,hn,hoo,hz,ha,hl,hks⟩:=ho;have htr:=h;obtain⟨⟨e1,e2,e3,e4⟩,⟨h2,h3⟩,⟨h4,h5,h6⟩,h7⟩:=h;obtain⟨xk,xnm,xot,xb,xao,xn,xq,xko,xkn,xkc,xln,xcl⟩:=x;simp only at e1 e2 e3 e4 h2 h3 h4 h5 h6 h7;subst e1 e2 e3 e4 h4;have HTR:=h_ htr;have HK:=h_ h7;have HKS:=h_ hks;have HS:=h_ h2;have HT:=h_ ht;have HBW:=h_ hbw;have HWR:=h_ hwr;have hsB:=hbw.size;obtain⟨k3,hk3⟩:∃ k3,k3=w.heap.size:=⟨_,rfl⟩
 obtain⟨w9,hw9⟩:∃ w9,w9=w.alloc (.cells #[.int .i64 28,.string ⟨nm.toArray⟩,.string ⟨ot.toArray⟩,.bool false,.slice xao xn xq,.slice xko ks.length xkc,.int .i64 xln,.int .i64 xcl] 46):=⟨_,rfl⟩
 have hba:Below w.heap.size w w9:=by rw[hw9];exact (Below.refl _ _).alloc (Nat.le_refl _) _
 have hx9:w9.heap[k3]?=some (.cells #[.int .i64 28,.string ⟨nm.toArray⟩,.string ⟨ot.toArray⟩,.bool false,.slice xao xn xq,.slice xko ks.length xkc,.int .i64 xln,.int .i64 xcl] 46 (0,0)):=by rw[hw9,hk3];exact made_at w _ _ rfl
 have HB_x:=h_ hx9;have HW9:=h_ (HWR.out.below hba);have HB9:=h_ (hba.mono hsB);have HF9:=h_ (fr_below hba);have hs9:=hba.size;have x0:=cell_at (v:=.int .i64 28) hx9 0 rfl;have x1:=cell_at (v:=.string ⟨nm.toArray⟩) hx9 1 rfl;have x2:=cell_at (v:=.string ⟨ot.toArray⟩) hx9 2 rfl;have x3:=cell_at (v:=.bool false) hx9 3 rfl;have x4:=cell_at (v:=.slice xao xn xq) hx9 4 rfl;have x5:=cell_at (v:=.slice xko ks.length xkc) hx9 5 rfl;have x6:=cell_at (v:=.int .i64 xln) hx9 6 rfl;have x7:=cell_at (v:=.int .i64 xcl) hx9 7 rfl;clear htr h2 h3 h6 h7 hks ha hba hx9 ht hbw hwr;simp only[xv];go_enter Tryz.func106,Tryz.ntmps106
 go_upto_region 1 with fail
 rw[<-hw9,<-hk3];clear hw9 hk3;go_wp2_with fail
 obtain⟨w10,hw10⟩:∃ w10,w10=w9.alloc (.cells #[.string ⟨#[97,115,115,101,114,116,32]⟩,.string ⟨#[59,32]⟩] 9):=⟨_,rfl⟩
 have hex:(#[.string ⟨#[97,115,115,101,114,116,32]⟩,.string ⟨#[59,32]⟩]:Array Value)=((words 28 nm ot).map fun s=>Value.string ⟨s.toArray⟩).toArray:=rfl;have hb10:Below w9.heap.size w9 w10:=by rw[hw10];exact (Below.refl _ _).alloc (Nat.le_refl _) _
 have HWD:Hid (Words w10 w9.heap.size (words 28 nm ot)):=h_ (by rw[hw10];unfold Words;rw[made_at w9 _ _ rfl,hex]);have H10:=h_ (HW9.out.below hb10);have HB10:=h_ (HB9.out.trans (hb10.mono (by omega)));have HF10:=h_ (HF9.out.trans (fr_below hb10));clear hb10 hex;rw[<-hw10];clear hw10;refine (phrase_n w0 d E b l 28 nm ot z ks ⟨((28:Nat):Int),⟨nm.toArray⟩,⟨ot.toArray⟩,false,xao,xn,xq,xko,ks.length,xkc,xln,xcl⟩ S w9.heap.size (words 28 nm ot) 2 _ w10 HKL.out HTR.out HOK.out rfl HWD.out (HBW.out.trans HB10.out) H10.out hlen).mono ?_;clear x0 x1 x2 x3 x4 x5 x6 x7;rintro e w11 ⟨⟨v,rfl⟩,hw5,hb5,hfr5⟩;have H11:=h_ hw5;have HB11:=h_ (HB10.out.trans hb5);have HF11:=h_ (HF10.out.trans hfr5);clear hw5 hb5 hfr5;go_wp2_with fail
 go_end0
 exact⟨⟨_,rfl⟩,(by rw[HTX.out];exact H11.out),HB11.out,HF11.out⟩
theorem bare_any (w0:World) (d:Nat) (E:Hid (ExprAt w0 d)) (b:Nat) (l:Bs) (k:Nat) (nm ot:Bs) (z:Nat) (ks:List T) (x:X) (S:Nat->Prop) (w:World) (ht:Tabs w0) (h:Tr w0 S (d+1) x (.node k nm ot z ks)) (ho:Og (d+1) (.node k nm ot z ks))
  (hbw:Below w0.heap.size w0 w) (hwr:Wr w0.heap.size b l w) (hlen:l.length+(tx (.node k nm ot z ks)).length<=1000000) :
  Calls Tryz.prog 106 #[.pointer (some ⟨b,0,none⟩),xv x] w (WrPost w0.heap.size b (l++tx (.node k nm ot z ks)) w):=by
 have hk:=ho.1
 by_cases h10:10<=k
 ·by_cases h24:k<24
  ·exact bare_bin w0 d E b l k nm ot z ks x S w ht h10 h24 h ho hbw hwr hlen
  obtain h0 | h0 | h0 | h0 | h0:k=24\/k=25\/k=26\/k=27\/k=28:=by omega
  ·exact bare_call w0 d E b l k nm ot z ks x S w ht h0 h ho hbw hwr hlen
  ·exact bare_p25 w0 d E b l k nm ot z ks x S w ht h0 h ho hbw hwr hlen
  ·exact bare_p26 w0 d E b l k nm ot z ks x S w ht h0 h ho hbw hwr hlen
  ·exact bare_p27 w0 d E b l k nm ot z ks x S w ht h0 h ho hbw hwr hlen
  exact bare_p28 w0 d E b l k nm ot z ks x S w ht h0 h ho hbw hwr hlen
 obtain h0 | h0 | h0 | h0 | h0 | h0 | h0 | h0 | h0 | h0:k=0\/k=1\/k=2\/k=3\/k=4\/k=5\/k=6\/k=7\/k=8\/k=9:=by omega
 ·exact bare_num w0 d E b l k nm ot z ks x S w ht h0 h ho hbw hwr hlen
 ·exact bare_c1 w0 d E b l k nm ot z ks x S w ht h0 h ho hbw hwr hlen
 ·exact bare_c2 w0 d E b l k nm ot z ks x S w ht h0 h ho hbw hwr hlen
 ·exact bare_var w0 d E b l k nm ot z ks x S w ht h0 h ho hbw hwr hlen
 ·exact bare_c4 w0 d E b l k nm ot z ks x S w ht h0 h ho hbw hwr hlen
 ·exact bare_u5 w0 d E b l k nm ot z ks x S w ht h0 h ho hbw hwr hlen
 ·exact bare_u6 w0 d E b l k nm ot z ks x S w ht h0 h ho hbw hwr hlen
 ·exact bare_u7 w0 d E b l k nm ot z ks x S w ht h0 h ho hbw hwr hlen
 ·exact bare_u8 w0 d E b l k nm ot z ks x S w ht h0 h ho hbw hwr hlen
 exact bare_u9 w0 d E b l k nm ot z ks x S w ht h0 h ho hbw hwr hlen
theorem expr_step (w0:World) (d:Nat) (E:Hid (ExprAt w0 d)) (ht:Tabs w0) (b:Nat) (l:Bs) (lev k:Nat) (nm ot:Bs) (z:Nat) (ks:List T) (x:X) (S:Nat->Prop) (w:World) (h:Tr w0 S (d+1) x (.node k nm ot z ks)) (ho:Og (d+1) (.node k nm ot z ks)) (hlev:lev<=8)
  (hbw:Below w0.heap.size w0 w) (hwr:Wr w0.heap.size b l w) (hlen:l.length+(ex lev (.node k nm ot z ks)).length<=1000000) :
  Calls Tryz.prog 73 #[.pointer (some ⟨b,0,none⟩),xv x,.int .i64 (lev:Nat)] w (WrPost w0.heap.size b (l++ex lev (.node k nm ot z ks)) w):=by
 have hk:=ho.1;obtain⟨xk,xnm,xot,xb,xao,xn,xq,xko,xkn,xkc,xln,xcl⟩:=x;have e1:=h.1.1;simp only at e1;subst e1;have hlv0:=ht.lv k hk;have BARE:=fun b l w hbw hwr hlen=>bare_any w0 d E b l k nm ot z ks _ S w ht h ho hbw hwr hlen
 have HBARE:=h_ BARE;have HBW:=h_ hbw;have HWR:=h_ hwr;have hsB:=hbw.size;obtain⟨k3,hk3⟩:∃ k3,k3=w.heap.size:=⟨_,rfl⟩
 obtain⟨w9,hw9⟩:∃ w9,w9=w.alloc (.cells #[.int .i64 (k:Nat),.string xnm,.string xot,.bool xb,.slice xao xn xq,.slice xko xkn xkc,.int .i64 xln,.int .i64 xcl] 46):=⟨_,rfl⟩
 have hba:Below w.heap.size w w9:=by rw[hw9];exact (Below.refl _ _).alloc (Nat.le_refl _) _
 have hx9:w9.heap[k3]?=some (.cells #[.int .i64 (k:Nat),.string xnm,.string xot,.bool xb,.slice xao xn xq,.slice xko xkn xkc,.int .i64 xln,.int .i64 xcl] 46 (0,0)):=by rw[hw9,hk3];exact made_at w _ _ rfl
 have HB_x:=h_ hx9;have HW9:=h_ (HWR.out.below hba);have HB9:=h_ (hba.mono hsB);have HF9:=h_ (fr_below hba);have hs9:=hba.size;have hlv9:w9.cell? ⟨1,k,none⟩=some (.int .i64 (lv k:Nat)):=by rw[(hbw.trans (hba.mono hsB)).cell (cell_lt hlv0)];exact hlv0
 have x0:=cell_at (v:=.int .i64 (k:Nat)) hx9 0 rfl;have x1:=cell_at (v:=.string xnm) hx9 1 rfl;have x2:=cell_at (v:=.string xot) hx9 2 rfl;have x3:=cell_at (v:=.bool xb) hx9 3 rfl;have x4:=cell_at (v:=.slice xao xn xq) hx9 4 rfl;have x5:=cell_at (v:=.slice xko xkn xkc) hx9 5 rfl;have x6:=cell_at (v:=.int .i64 xln) hx9 6 rfl;have x7:=cell_at (v:=.int .i64 xcl) hx9 7 rfl;clear BARE hba hx9 hlv0 h ho hbw hwr
 by_cases hle:lev<=lv k
 ·have HEX:Hid (ex lev (.node k nm ot z ks)=tx (.node k nm ot z ks)):=h_ (by unfold ex br T.k;simp only[];rw[if_pos hle]);rw[HEX.out] at hlen;simp only[xv];go_enter Tryz.func73,Tryz.ntmps73
  go_upto_region 1 with fail
  rw[<-hw9,<-hk3];clear hw9 hk3;go_wp2_with fail
  refine (HBARE.out b l w9 (HBW.out.trans HB9.out) HW9.out (by omega)).mono ?_;rintro e w11 ⟨⟨v,rfl⟩,hw5,hb5,hfr5⟩;have H11:=h_ hw5;have HB11:=h_ (HB9.out.trans hb5);have HF11:=h_ (HF9.out.trans hfr5);clear hw5 hb5 hfr5;go_wp2_with fail
  go_end0
  exact⟨⟨_,rfl⟩,(by rw[HEX.out];exact H11.out),HB11.out,HF11.out⟩
 have HEX:Hid (ex lev (.node k nm ot z ks)=[40]++tx (.node k nm ot z ks)++[41]):=h_ (by unfold ex br T.k;simp only[];rw[if_neg hle]);rw[HEX.out] at hlen;simp only[lsa,lsc,lsn] at hlen;have hle2:lv k<lev:=by omega
 have hle3:decide (lev<=lv k)=false:=by rw[decide_eq_false_iff_not];omega
 simp only[xv];go_enter Tryz.func73,Tryz.ntmps73
 go_upto_region 1 with fail
 rw[<-hw9,<-hk3];clear hw9 hk3;go_wp2_with fail
 refine (wr_byte w0.heap.size b l 40 _ rfl w9 HW9.out (by omega) (by omega)).mono ?_;rintro e w10 ⟨⟨v0,rfl⟩,hw4,hb4,hfr4⟩;have hs10:=hb4.size;have hx10:=hfr4 k3 _ _ _ HB_x.out (by decide) (by decide);have H10:=h_ hw4;have HB10:=h_ (HB9.out.trans hb4);have HF10:=h_ (HF9.out.trans hfr4);replace x0:=cell_at (v:=.int .i64 (k:Nat)) hx10 0 rfl;replace x1:=cell_at (v:=.string xnm) hx10 1 rfl;replace x2:=cell_at (v:=.string xot) hx10 2 rfl;replace x3:=cell_at (v:=.bool xb) hx10 3 rfl;replace x4:=cell_at (v:=.slice xao xn xq) hx10 4 rfl;replace x5:=cell_at (v:=.slice xko xkn xkc) hx10 5 rfl;replace x6:=cell_at (v:=.int .i64 xln) hx10 6 rfl;replace x7:=cell_at (v:=.int .i64 xcl) hx10 7 rfl;clear hw4 hb4 hfr4 hx10 hlv9;go_wp2_with fail
 refine (HBARE.out b (l++[40]) w10 (HBW.out.trans HB10.out) H10.out (by simp only[lsa,lsc,lsn];omega)).mono ?_;rintro e w11 ⟨⟨v,rfl⟩,hw5,hb5,hfr5⟩;have hs11:=hb5.size;have H11:=h_ hw5;have HB11:=h_ (HB10.out.trans hb5);have HF11:=h_ (HF10.out.trans hfr5);clear hw5 hb5 hfr5;go_wp2_with fail
 refine (wr_byte w0.heap.size b _ 41 _ rfl w11 H11.out (by simp only[lsa,lsc,lsn];omega) (by omega)).mono ?_;rintro e w12 ⟨⟨v2,rfl⟩,hw6,hb6,hfr6⟩;have H12:=h_ hw6;have HB12:=h_ (HB11.out.trans hb6);have HF12:=h_ (HF11.out.trans hfr6);clear hw6 hb6 hfr6;go_wp2_with fail
 go_end0
 refine⟨⟨_,rfl⟩,?_,HB12.out,HF12.out⟩;have:=H12.out;rw[HEX.out];simp only[List.append_assoc] at this ⊢;exact this
theorem expr_all (w0:World) (ht:Tabs w0):∀ d,ExprAt w0 d
 | 0=>fun _ _ _ _ _ _ _ h=>absurd h id
 | d+1=>fun b l lev x t S w h ho hlev hbw hwr hlen=>by
  obtain⟨k,nm,ot,z,ks⟩:=t;exact expr_step w0 d (h_ (expr_all w0 ht d)) ht b l lev k nm ot z ks x S w h ho hlev hbw hwr hlen
theorem valid_any (w0:World) (ht:Tabs w0) (d:Nat) (b:Nat) (l:Bs) (x:X) (t:T) (S:Nat->Prop) (w:World) (h:Tr w0 S d x t) (ho:Og d t) (hbw:Below w0.heap.size w0 w) (hwr:Wr w0.heap.size b l w) (hlen:l.length+(tx t).length<=1000000) (hRT:∀ w,Below w0.heap.size w0 w->Calls Tryz.prog 72 #[xv x] w fun e w'=>e=.returned (.bool true)/\Below w.heap.size w w') :
  Calls Tryz.prog 40 #[.pointer (some ⟨b,0,none⟩),xv x] w (WrPost w0.heap.size b (l++tx t) w):=by
 have HEX:Hid (ex 0 t=tx t):=h_ (by unfold ex br;rw[if_pos (Nat.zero_le _)]);have EX:=fun l w hbw hwr hlen=>expr_all w0 ht d b l 0 x t S w h ho (by decide) hbw hwr hlen
 have HEXP:=h_ EX;have HRT:=h_ hRT;rw[<-HEX.out] at hlen;have HBW:=h_ hbw;have HWR:=h_ hwr;have hsB:=hbw.size;obtain⟨xk,xnm,xot,xb,xao,xn,xq,xko,xkn,xkc,xln,xcl⟩:=x;obtain⟨k3,hk3⟩:∃ k3,k3=w.heap.size:=⟨_,rfl⟩
 obtain⟨w9,hw9⟩:∃ w9,w9=w.alloc (.cells #[.int .i64 xk,.string xnm,.string xot,.bool xb,.slice xao xn xq,.slice xko xkn xkc,.int .i64 xln,.int .i64 xcl] 46):=⟨_,rfl⟩
 have hba:Below w.heap.size w w9:=by rw[hw9];exact (Below.refl _ _).alloc (Nat.le_refl _) _
 have hx9:w9.heap[k3]?=some (.cells #[.int .i64 xk,.string xnm,.string xot,.bool xb,.slice xao xn xq,.slice xko xkn xkc,.int .i64 xln,.int .i64 xcl] 46 (0,0)):=by rw[hw9,hk3];exact made_at w _ _ rfl
 have HB_x:=h_ hx9;have HW9:=h_ (HWR.out.below hba);have HB9:=h_ (hba.mono hsB);have HF9:=h_ (fr_below hba);have hs9:=hba.size;have x0:=cell_at (v:=.int .i64 xk) hx9 0 rfl;have x1:=cell_at (v:=.string xnm) hx9 1 rfl;have x2:=cell_at (v:=.string xot) hx9 2 rfl;have x3:=cell_at (v:=.bool xb) hx9 3 rfl;have x4:=cell_at (v:=.slice xao xn xq) hx9 4 rfl;have x5:=cell_at (v:=.slice xko xkn xkc) hx9 5 rfl;have x6:=cell_at (v:=.int .i64 xln) hx9 6 rfl;have x7:=cell_at (v:=.int .i64 xcl) hx9 7 rfl;clear EX hba hx9 h ho hbw hwr ht hRT;simp only[xv];go_enter Tryz.func40,Tryz.ntmps40
 go_upto_region 1 with fail
 rw[<-hw9,<-hk3];clear hw9 hk3;go_wp2_with fail
 refine (HRT.out w9 (HBW.out.trans HB9.out)).mono ?_;rintro e w10 ⟨rfl,hb4⟩;have hs10:=hb4.size;have hx10:=(hb4.block k3 (lt_of_block HB_x.out)).trans HB_x.out;have H10:=h_ (HW9.out.below hb4);have HB10:=h_ (HB9.out.trans (hb4.mono (by omega)));have HF10:=h_ (HF9.out.trans (fr_below hb4));replace x0:=cell_at (v:=.int .i64 xk) hx10 0 rfl;replace x1:=cell_at (v:=.string xnm) hx10 1 rfl;replace x2:=cell_at (v:=.string xot) hx10 2 rfl;replace x3:=cell_at (v:=.bool xb) hx10 3 rfl;replace x4:=cell_at (v:=.slice xao xn xq) hx10 4 rfl;replace x5:=cell_at (v:=.slice xko xkn xkc) hx10 5 rfl;replace x6:=cell_at (v:=.int .i64 xln) hx10 6 rfl;replace x7:=cell_at (v:=.int .i64 xcl) hx10 7 rfl;clear hb4 hx10;go_wp2_with fail
 refine (HEXP.out l w10 (HBW.out.trans HB10.out) H10.out hlen).mono ?_;rintro e w11 ⟨⟨v,rfl⟩,hw5,hb5,hfr5⟩;have H11:=h_ hw5;have HB11:=h_ (HB10.out.trans hb5);have HF11:=h_ (HF10.out.trans hfr5);clear hw5 hb5 hfr5;go_wp2_with fail
 go_end0
 exact⟨⟨_,rfl⟩,(by rw[<-HEX.out];exact H11.out),HB11.out,HF11.out⟩
structure Pm where
 nm:ByteArray
 bs:Int
 kn:Bool
 rf:X
 ln:Int
 cl:Int
def pc (p:Pm):List Value:=[.string p.nm,.int .i64 p.bs,.bool p.kn,.int .i64 p.rf.k,.string p.rf.nm,.string p.rf.ot,.bool p.rf.b,.slice p.rf.ao p.rf.n p.rf.c,.slice p.rf.ko p.rf.kn p.rf.kc,.int .i64 p.rf.ln,.int .i64 p.rf.cl,.int .i64 p.ln,.int .i64 p.cl]
def pv (p:Pm):Value:=.agg #[.string p.nm,.int .i64 p.bs,.bool p.kn,.int .i64 p.rf.k,.string p.rf.nm,.string p.rf.ot,.bool p.rf.b,.slice p.rf.ao p.rf.n p.rf.c,.slice p.rf.ko p.rf.kn p.rf.kc,.int .i64 p.rf.ln,.int .i64 p.rf.cl,.int .i64 p.ln,.int .i64 p.cl]
def bsW (b:Nat):Bs:=if b=0 then [105,110,116] else if b=1 then [98,111,111,108] else [108,105,115,116]
theorem bsT_len (b:Nat):(bsW b).length<=4:=by
 unfold bsW
 split
 ·decide
 split<;>decide
def VOk (w:World) (x:X) (t:T):Prop:=(∃ d,Tr w (fun _=>True) d x t/\Og d t)/\∀ w',Below w.heap.size w w'->Calls Tryz.prog 72 #[xv x] w' fun e w2=>e=.returned (.bool true)/\Below w'.heap.size w' w2
theorem valid_v (w0:World) (ht:Tabs w0) (b:Nat) (l:Bs) (x:X) (t:T) (w:World) (h:VOk w0 x t) (hbw:Below w0.heap.size w0 w) (hwr:Wr w0.heap.size b l w) (hlen:l.length+(tx t).length<=1000000) :
  Calls Tryz.prog 40 #[.pointer (some ⟨b,0,none⟩),xv x] w (WrPost w0.heap.size b (l++tx t) w):=by
 obtain⟨⟨d,h1,h2⟩,h3⟩:=h;exact valid_any w0 ht d b l x t _ w h1 h2 hbw hwr hlen h3
def PmOk (w:World) (p:Pm) (nm bt:Bs):Prop:=p.nm=⟨nm.toArray⟩/\True/\∃ b:Nat,b<3/\p.bs=(b:Int)/\((p.kn=false/\bt=bsW b)\/(p.kn=true/\∃ t,VOk w p.rf t/\bt=bsW b++[123]++tx t++[125]))
theorem base_any (w0:World) (ht:Tabs w0) (p:Pm) (nm bt:Bs) (hp:PmOk w0 p nm bt) (b:Nat) (l:Bs) (w:World) (hbw:Below w0.heap.size w0 w) (hwr:Wr w0.heap.size b l w) (hlen:l.length+bt.length<=1000000) :
  Calls Tryz.prog 42 #[.pointer (some ⟨b,0,none⟩),pv p] w (WrPost w0.heap.size b (l++bt) w):=by
 obtain⟨pnm,pbs,pkn,⟨rk,rnm,rot,rb,rao,rn,rc,rko,rkn,rkc,rln,rcl⟩,pln,pcl⟩:=p;obtain⟨e1,hn,bb,hb3,e2,hcase⟩:=hp;simp only at e1 e2 hcase;subst e1 e2;have HTB:=h_ ht;have hbl:=bsT_len bb;clear ht hn;simp only[pv];obtain⟨k3,hk3⟩:∃ k3,k3=w.heap.size:=⟨_,rfl⟩
 obtain⟨w9,hw9⟩:∃ w9,w9=w.alloc (.cells #[.string ⟨nm.toArray⟩,.int .i64 (bb:Nat),.bool pkn,.int .i64 rk,.string rnm,.string rot,.bool rb,.slice rao rn rc,.slice rko rkn rkc,.int .i64 rln,.int .i64 rcl,.int .i64 pln,.int .i64 pcl] 48):=⟨_,rfl⟩
 have hba:Below w.heap.size w w9:=by rw[hw9];exact (Below.refl _ _).alloc (Nat.le_refl _) _
 have hx9:w9.heap[k3]?=some (.cells #[.string ⟨nm.toArray⟩,.int .i64 (bb:Nat),.bool pkn,.int .i64 rk,.string rnm,.string rot,.bool rb,.slice rao rn rc,.slice rko rkn rkc,.int .i64 rln,.int .i64 rcl,.int .i64 pln,.int .i64 pcl] 48 (0,0)):=by rw[hw9,hk3];exact made_at w _ _ rfl
 have HX9:=h_ hx9;have hsB:=hbw.size;have H9:=h_ (hwr.below hba);have HB9:=h_ (hba.mono hsB);have HF9:=h_ (fr_below hba);have HBW:=h_ hbw;have hs9:=hba.size;clear hba hx9 hbw hwr;go_enter Tryz.func42,Tryz.ntmps42
 go_upto_region 1 with fail
 rw[<-hw9,<-hk3];clear hw9 hk3;have h3:bb=0\/bb=1\/bb=2:=by omega
 clear hb3;rcases hcase with ⟨rfl,rfl⟩ | ⟨rfl,t,hT,rfl⟩
 ·rcases h3 with rfl | rfl | rfl
  ·have hbl0:(bsW 0).length=3:=rfl;have x1:=cell_at (v:=.int .i64 ((0:Nat):Int)) HX9.out 1 rfl;have x2:=cell_at (v:=.bool false) HX9.out 2 rfl;go_wp2_with fail
   refine (wr_str w0.heap.size b l [105,110,116] w9 H9.out (by simp only[lsc,lsn];omega) (by omega)).mono ?_;rintro e w10 ⟨⟨v10,rfl⟩,hw,hb,hfr⟩;have hs10:=hb.size;have HX10:=h_ (hfr k3 _ _ _ HX9.out (by decide) (by decide));have H10:=h_ hw;have HB10:=h_ (HB9.out.trans hb);have HF10:=h_ (HF9.out.trans hfr);clear hw hb hfr;clear x1 x2;have x1:=cell_at (v:=.int .i64 ((0:Nat):Int)) HX10.out 1 rfl;have x2:=cell_at (v:=.bool false) HX10.out 2 rfl;go_wp2_with fail
   go_end0
   exact⟨⟨_,rfl⟩,H10.out,HB10.out,HF10.out⟩
  ·have hbl0:(bsW 1).length=4:=rfl;have x1:=cell_at (v:=.int .i64 ((1:Nat):Int)) HX9.out 1 rfl;have x2:=cell_at (v:=.bool false) HX9.out 2 rfl;go_wp2_with fail
   refine (wr_str w0.heap.size b l [98,111,111,108] w9 H9.out (by simp only[lsc,lsn];omega) (by omega)).mono ?_;rintro e w10 ⟨⟨v10,rfl⟩,hw,hb,hfr⟩;have hs10:=hb.size;have HX10:=h_ (hfr k3 _ _ _ HX9.out (by decide) (by decide));have H10:=h_ hw;have HB10:=h_ (HB9.out.trans hb);have HF10:=h_ (HF9.out.trans hfr);clear hw hb hfr;clear x1 x2;have x1:=cell_at (v:=.int .i64 ((1:Nat):Int)) HX10.out 1 rfl;have x2:=cell_at (v:=.bool false) HX10.out 2 rfl;go_wp2_with fail
   go_end0
   exact⟨⟨_,rfl⟩,H10.out,HB10.out,HF10.out⟩
  have hbl0:(bsW 2).length=4:=rfl;have x1:=cell_at (v:=.int .i64 ((2:Nat):Int)) HX9.out 1 rfl;have x2:=cell_at (v:=.bool false) HX9.out 2 rfl;go_wp2_with fail
  refine (wr_str w0.heap.size b l [108,105,115,116] w9 H9.out (by simp only[lsc,lsn];omega) (by omega)).mono ?_;rintro e w10 ⟨⟨v10,rfl⟩,hw,hb,hfr⟩;have hs10:=hb.size;have HX10:=h_ (hfr k3 _ _ _ HX9.out (by decide) (by decide));have H10:=h_ hw;have HB10:=h_ (HB9.out.trans hb);have HF10:=h_ (HF9.out.trans hfr);clear hw hb hfr;clear x1 x2;have x1:=cell_at (v:=.int .i64 ((2:Nat):Int)) HX10.out 1 rfl;have x2:=cell_at (v:=.bool false) HX10.out 2 rfl;go_wp2_with fail
  go_end0
  exact⟨⟨_,rfl⟩,H10.out,HB10.out,HF10.out⟩
 have HT:=h_ hT;clear hT;simp only[lsa,lsc,lsn] at hlen;rcases h3 with rfl | rfl | rfl
 ·have hbl0:(bsW 0).length=3:=rfl;have x1:=cell_at (v:=.int .i64 ((0:Nat):Int)) HX9.out 1 rfl;have x2:=cell_at (v:=.bool true) HX9.out 2 rfl;go_wp2_with fail
  refine (wr_str w0.heap.size b l [105,110,116] w9 H9.out (by simp only[lsc,lsn];omega) (by omega)).mono ?_;rintro e w10 ⟨⟨v10,rfl⟩,hw,hb,hfr⟩;have hs10:=hb.size;have HX10:=h_ (hfr k3 _ _ _ HX9.out (by decide) (by decide));have H10:=h_ hw;have HB10:=h_ (HB9.out.trans hb);have HF10:=h_ (HF9.out.trans hfr);clear hw hb hfr;clear x1 x2;have x1:=cell_at (v:=.int .i64 ((0:Nat):Int)) HX10.out 1 rfl;have x2:=cell_at (v:=.bool true) HX10.out 2 rfl;go_wp2_with fail
  refine (wr_byte w0.heap.size b _ 123 _ rfl w10 H10.out (by simp only[lsa,lsc,lsn];omega) (by omega)).mono ?_;rintro e w11 ⟨⟨v11,rfl⟩,hw,hb,hfr⟩;have hs11:=hb.size;have HX11:=h_ (hfr k3 _ _ _ HX10.out (by decide) (by decide));have H11:=h_ hw;have HB11:=h_ (HB10.out.trans hb);have HF11:=h_ (HF10.out.trans hfr);clear hw hb hfr;clear x1 x2;have x3:=cell_at (v:=.int .i64 rk) HX11.out 3 rfl;have x4:=cell_at (v:=.string rnm) HX11.out 4 rfl;have x5:=cell_at (v:=.string rot) HX11.out 5 rfl;have x6:=cell_at (v:=.bool rb) HX11.out 6 rfl;have x7:=cell_at (v:=.slice rao rn rc) HX11.out 7 rfl;have x8:=cell_at (v:=.slice rko rkn rkc) HX11.out 8 rfl;have x9:=cell_at (v:=.int .i64 rln) HX11.out 9 rfl;have x10:=cell_at (v:=.int .i64 rcl) HX11.out 10 rfl;go_wp2_with fail
  refine (valid_v w0 HTB.out b _ ⟨rk,rnm,rot,rb,rao,rn,rc,rko,rkn,rkc,rln,rcl⟩ t w11 HT.out (HBW.out.trans HB11.out) H11.out (by simp only[lsa,lsc,lsn];omega)).mono ?_;rintro e w12 ⟨⟨v12,rfl⟩,hw,hb,hfr⟩;have hs12:=hb.size;have H12:=h_ hw;have HB12:=h_ (HB11.out.trans hb);have HF12:=h_ (HF11.out.trans hfr);clear hw hb hfr;clear x3 x4 x5 x6 x7 x8 x9 x10;go_wp2_with fail
  refine (wr_byte w0.heap.size b _ 125 _ rfl w12 H12.out (by simp only[lsa,lsc,lsn];omega) (by omega)).mono ?_;rintro e w13 ⟨⟨v13,rfl⟩,hw,hb,hfr⟩;have hs13:=hb.size;have H13:=h_ hw;have HB13:=h_ (HB12.out.trans hb);have HF13:=h_ (HF12.out.trans hfr);clear hw hb hfr;go_wp2_with fail
  go_end0
  exact⟨⟨_,rfl⟩,by have h:=H13.out;simp only[List.append_assoc] at h ⊢;exact h,HB13.out,HF13.out⟩
 ·have hbl0:(bsW 1).length=4:=rfl;have x1:=cell_at (v:=.int .i64 ((1:Nat):Int)) HX9.out 1 rfl;have x2:=cell_at (v:=.bool true) HX9.out 2 rfl;go_wp2_with fail
  refine (wr_str w0.heap.size b l [98,111,111,108] w9 H9.out (by simp only[lsc,lsn];omega) (by omega)).mono ?_;rintro e w10 ⟨⟨v10,rfl⟩,hw,hb,hfr⟩;have hs10:=hb.size;have HX10:=h_ (hfr k3 _ _ _ HX9.out (by decide) (by decide));have H10:=h_ hw;have HB10:=h_ (HB9.out.trans hb);have HF10:=h_ (HF9.out.trans hfr);clear hw hb hfr;clear x1 x2;have x1:=cell_at (v:=.int .i64 ((1:Nat):Int)) HX10.out 1 rfl;have x2:=cell_at (v:=.bool true) HX10.out 2 rfl;go_wp2_with fail
  refine (wr_byte w0.heap.size b _ 123 _ rfl w10 H10.out (by simp only[lsa,lsc,lsn];omega) (by omega)).mono ?_;rintro e w11 ⟨⟨v11,rfl⟩,hw,hb,hfr⟩;have hs11:=hb.size;have HX11:=h_ (hfr k3 _ _ _ HX10.out (by decide) (by decide));have H11:=h_ hw;have HB11:=h_ (HB10.out.trans hb);have HF11:=h_ (HF10.out.trans hfr);clear hw hb hfr;clear x1 x2;have x3:=cell_at (v:=.int .i64 rk) HX11.out 3 rfl;have x4:=cell_at (v:=.string rnm) HX11.out 4 rfl;have x5:=cell_at (v:=.string rot) HX11.out 5 rfl;have x6:=cell_at (v:=.bool rb) HX11.out 6 rfl;have x7:=cell_at (v:=.slice rao rn rc) HX11.out 7 rfl;have x8:=cell_at (v:=.slice rko rkn rkc) HX11.out 8 rfl;have x9:=cell_at (v:=.int .i64 rln) HX11.out 9 rfl;have x10:=cell_at (v:=.int .i64 rcl) HX11.out 10 rfl;go_wp2_with fail
  refine (valid_v w0 HTB.out b _ ⟨rk,rnm,rot,rb,rao,rn,rc,rko,rkn,rkc,rln,rcl⟩ t w11 HT.out (HBW.out.trans HB11.out) H11.out (by simp only[lsa,lsc,lsn];omega)).mono ?_;rintro e w12 ⟨⟨v12,rfl⟩,hw,hb,hfr⟩;have hs12:=hb.size;have H12:=h_ hw;have HB12:=h_ (HB11.out.trans hb);have HF12:=h_ (HF11.out.trans hfr);clear hw hb hfr;clear x3 x4 x5 x6 x7 x8 x9 x10;go_wp2_with fail
  refine (wr_byte w0.heap.size b _ 125 _ rfl w12 H12.out (by simp only[lsa,lsc,lsn];omega) (by omega)).mono ?_;rintro e w13 ⟨⟨v13,rfl⟩,hw,hb,hfr⟩;have hs13:=hb.size;have H13:=h_ hw;have HB13:=h_ (HB12.out.trans hb);have HF13:=h_ (HF12.out.trans hfr);clear hw hb hfr;go_wp2_with fail
  go_end0
  exact⟨⟨_,rfl⟩,by have h:=H13.out;simp only[List.append_assoc] at h ⊢;exact h,HB13.out,HF13.out⟩
 have hbl0:(bsW 2).length=4:=rfl;have x1:=cell_at (v:=.int .i64 ((2:Nat):Int)) HX9.out 1 rfl;have x2:=cell_at (v:=.bool true) HX9.out 2 rfl;go_wp2_with fail
 refine (wr_str w0.heap.size b l [108,105,115,116] w9 H9.out (by simp only[lsc,lsn];omega) (by omega)).mono ?_;rintro e w10 ⟨⟨v10,rfl⟩,hw,hb,hfr⟩;have hs10:=hb.size;have HX10:=h_ (hfr k3 _ _ _ HX9.out (by decide) (by decide));have H10:=h_ hw;have HB10:=h_ (HB9.out.trans hb);have HF10:=h_ (HF9.out.trans hfr);clear hw hb hfr;clear x1 x2;have x1:=cell_at (v:=.int .i64 ((2:Nat):Int)) HX10.out 1 rfl;have x2:=cell_at (v:=.bool true) HX10.out 2 rfl;go_wp2_with fail
 refine (wr_byte w0.heap.size b _ 123 _ rfl w10 H10.out (by simp only[lsa,lsc,lsn];omega) (by omega)).mono ?_;rintro e w11 ⟨⟨v11,rfl⟩,hw,hb,hfr⟩;have hs11:=hb.size;have HX11:=h_ (hfr k3 _ _ _ HX10.out (by decide) (by decide));have H11:=h_ hw;have HB11:=h_ (HB10.out.trans hb);have HF11:=h_ (HF10.out.trans hfr);clear hw hb hfr;clear x1 x2;have x3:=cell_at (v:=.int .i64 rk) HX11.out 3 rfl;have x4:=cell_at (v:=.string rnm) HX11.out 4 rfl;have x5:=cell_at (v:=.string rot) HX11.out 5 rfl;have x6:=cell_at (v:=.bool rb) HX11.out 6 rfl;have x7:=cell_at (v:=.slice rao rn rc) HX11.out 7 rfl;have x8:=cell_at (v:=.slice rko rkn rkc) HX11.out 8 rfl;have x9:=cell_at (v:=.int .i64 rln) HX11.out 9 rfl;have x10:=cell_at (v:=.int .i64 rcl) HX11.out 10 rfl;go_wp2_with fail
 refine (valid_v w0 HTB.out b _ ⟨rk,rnm,rot,rb,rao,rn,rc,rko,rkn,rkc,rln,rcl⟩ t w11 HT.out (HBW.out.trans HB11.out) H11.out (by simp only[lsa,lsc,lsn];omega)).mono ?_;rintro e w12 ⟨⟨v12,rfl⟩,hw,hb,hfr⟩;have hs12:=hb.size;have H12:=h_ hw;have HB12:=h_ (HB11.out.trans hb);have HF12:=h_ (HF11.out.trans hfr);clear hw hb hfr;clear x3 x4 x5 x6 x7 x8 x9 x10;go_wp2_with fail
 refine (wr_byte w0.heap.size b _ 125 _ rfl w12 H12.out (by simp only[lsa,lsc,lsn];omega) (by omega)).mono ?_;rintro e w13 ⟨⟨v13,rfl⟩,hw,hb,hfr⟩;have hs13:=hb.size;have H13:=h_ hw;have HB13:=h_ (HB12.out.trans hb);have HF13:=h_ (HF12.out.trans hfr);clear hw hb hfr;go_wp2_with fail
 go_end0
 exact⟨⟨_,rfl⟩,by have h:=H13.out;simp only[List.append_assoc] at h ⊢;exact h,HB13.out,HF13.out⟩
def At13 (w:World) (ko:Option Addr) (i:Nat) (p:Pm):Prop:=∃ a,ko=some a/\∀ j v,(pc p)[j]?=some v->w.cell? ((a.add (i*13)).add j)=some v
theorem At13.keep {w w':World} {ko:Option Addr} {i:Nat} {y:Pm} (h:At13 w ko i y) (hk:∀ a,ko=some a->w'.heap[a.block]?=w.heap[a.block]?):At13 w' ko i y:=by
 obtain⟨a,rfl,h⟩:=h;refine⟨a,rfl,fun j v hv=>?_⟩;rw[cell_keep (w:=w) (by rw[add_block,add_block];exact hk a rfl)];exact h j v hv
theorem At13.lt {w:World} {ko:Option Addr} {i:Nat} {y:Pm} (h:At13 w ko i y):∀ a,ko=some a->a.block<w.heap.size:=by
 obtain⟨a,rfl,h⟩:=h;rintro _ ⟨⟩;have:=cell_lt (h 0 _ rfl)
 rwa [add_block,add_block] at this
def ptxW (q:Pm × Bs × Bs):Bs:=q.2.1++[58,32]++q.2.2
def PsAt (w:World) (ko:Option Addr) (ps:List (Pm × Bs × Bs)):Prop:=∀ i (h:i<ps.length),At13 w ko i ps[i].1/\PmOk w ps[i].1 ps[i].2.1 ps[i].2.2
def hdW (nm:Bs) (ps:List (Pm × Bs × Bs)):Bs:=nm++[40]++com (ps.map ptxW)++[41,58,32]
theorem cells13W {w:World} {p:Addr} {pnm:ByteArray} {pbs:Int} {pkn:Bool} {rk:Int} {rnm rot:ByteArray} {rb:Bool} {rao:Option Addr} {rn rc:Nat} {rko:Option Addr} {rkn rkc:Nat} {rln rcl pln pcl:Int}
  (h:∀ j v,(pc ⟨pnm,pbs,pkn,⟨rk,rnm,rot,rb,rao,rn,rc,rko,rkn,rkc,rln,rcl⟩,pln,pcl⟩)[j]?=some v->w.cell? (p.add j)=some v):w.cell? p=some (.string pnm)/\w.cell? ⟨p.block,p.off+1,none⟩=some (.int .i64 pbs)/\w.cell? ⟨p.block,p.off+2,none⟩=some (.bool pkn)/\w.cell? ⟨p.block,p.off+3,none⟩=some (.int .i64 rk)/\w.cell? ⟨p.block,p.off+4,none⟩=some (.string rnm)/\w.cell? ⟨p.block,p.off+5,none⟩=some (.string rot)/\w.cell? ⟨p.block,p.off+6,none⟩=some (.bool rb)/\w.cell? ⟨p.block,p.off+7,none⟩=some (.slice rao rn rc)/\w.cell? ⟨p.block,p.off+8,none⟩=some (.slice rko rkn rkc)/\w.cell? ⟨p.block,p.off+9,none⟩=some (.int .i64 rln)/\w.cell? ⟨p.block,p.off+10,none⟩=some (.int .i64 rcl)/\w.cell? ⟨p.block,p.off+11,none⟩=some (.int .i64 pln)/\w.cell? ⟨p.block,p.off+12,none⟩=some (.int .i64 pcl):=
 ⟨h 0 _ rfl,h 1 _ rfl,h 2 _ rfl,h 3 _ rfl,h 4 _ rfl,h 5 _ rfl,h 6 _ rfl,h 7 _ rfl,h 8 _ rfl,h 9 _ rfl,h 10 _ rfl,h 11 _ rfl,h 12 _ rfl⟩
theorem head_any (w0:World) (ht:Tabs w0) (nm:Bs) (ps:List (Pm × Bs × Bs)) (hl:ps.length<=9223372036854775807) (ko:Option Addr) (kc:Nat) (hps:PsAt w0 ko ps) (b:Nat) (l:Bs) (w:World) (hbw:Below w0.heap.size w0 w) (hwr:Wr w0.heap.size b l w) (hlen:l.length+(hdW nm ps).length<=1000000) :
  Calls Tryz.prog 39 #[.pointer (some ⟨b,0,none⟩),.string ⟨nm.toArray⟩,.slice ko ps.length kc] w (WrPost w0.heap.size b (l++hdW nm ps) w):=by
 have HTB:=h_ ht;have HPS:=h_ hps;have HBW:=h_ hbw;have HWR:=h_ hwr;have hsB:=hbw.size;simp only[hdW,lsa,lsc,lsn] at hlen;clear ht hps hbw hwr;go_enter Tryz.func39,Tryz.ntmps39
 go_wp2_with fail
 refine (wr_str w0.heap.size b l nm w HWR.out (by omega) (by omega)).mono ?_;rintro e w11 ⟨⟨v,rfl⟩,hw5,hb5,hfr5⟩;have hs11:=hb5.size;have H11:=h_ hw5;have HB11:=h_ hb5;have HF11:=h_ hfr5;clear hw5 hb5 hfr5;go_wp2_with fail
 refine (wr_byte w0.heap.size b _ 40 _ rfl w11 H11.out (by rw[lsa];omega) (by omega)).mono ?_;rintro e w12 ⟨⟨v2,rfl⟩,hw6,hb6,hfr6⟩;have hs12:=hb6.size;have H12:Hid (Wr w0.heap.size b (l++nm++[40]++com ((ps.map ptxW).take 0)) w12):=h_ (by simp only[List.take_zero,com,List.append_nil];exact hw6);have HB12:Hid (Below w0.heap.size w w12):=h_ (HB11.out.trans hb6);have HF12:Hid (Fr w w12):=h_ (HF11.out.trans hfr6);clear hw6 hb6 hfr6;go_wp2_with fail
 go_loopw [6,7,19] (fun _ _ i wr=>∃ j:Nat,i=.int .i64 (j:Nat)/\j<=ps.length/\Wr w0.heap.size b (l++nm++[40]++com ((ps.map ptxW).take j)) wr/\Below w0.heap.size w wr/\Fr w wr) (fun _ _ i _=>ps.length - (intOf i).toNat)
 case atStart=>exact⟨0,rfl,Nat.zero_le _,H12.out,HB12.out,HF12.out⟩
 case round =>
  obtain⟨j,rfl,hj,hw1,hw3,hw4⟩:=hrel;have H1:=h_ hw1;have H3:=h_ hw3;have H4:=h_ hw4;have hs3:=hw3.size;clear hw1 hw3 hw4
  by_cases hlt:j<ps.length
  ·obtain⟨wL,hwL⟩:∃ wL,wL=wr:=⟨_,rfl⟩
   subst hwL;have hb3:Below w0.heap.size w0 wL:=HBW.out.trans H3.out;obtain⟨hA,hO⟩:=HPS.out j hlt;have hcp:=com_pre (ps.map ptxW) j (by simp;exact hlt);obtain⟨q,hq⟩:∃ q,q=ps[j]:=⟨_,rfl⟩
   rw[List.getElem_map,<-hq] at hcp;rw[<-hq] at hA hO;have HQ:=h_ hq;clear hq;obtain⟨⟨pnm,pbs,pkn,⟨rk,rnm,rot,rb,rao,rn,rc,rko,rkn,rkc,rln,rcl⟩,pln,pcl⟩,pn,pt⟩:=q;simp only at hA hO;simp only[ptxW,lsa,lsc,lsn] at hcp;obtain⟨a,rfl,hc⟩:=hA.keep fun a ha=>hb3.block _ (hA.lt a ha)
   obtain⟨c0,c1,c2,c3,c4,c5,c6,c7,c8,c9,c10,c11,c12⟩:=cells13W hc;have hpn:pnm=⟨pn.toArray⟩:=hO.1;subst hpn;have HOK:=h_ hO;have HB3:=h_ hb3;have hsB3:=hb3.size;clear hc hA hO hb3;obtain⟨kA,hkA⟩:∃ kA,kA=wL.heap.size:=⟨_,rfl⟩
   obtain⟨wA,hwA⟩:∃ wA,wA=wL.alloc (.cells #[.string ⟨pn.toArray⟩,.int .i64 pbs,.bool pkn,.int .i64 rk,.string rnm,.string rot,.bool rb,.slice rao rn rc,.slice rko rkn rkc,.int .i64 rln,.int .i64 rcl,.int .i64 pln,.int .i64 pcl] 48):=⟨_,rfl⟩
   have hba:Below wL.heap.size wL wA:=by rw[hwA];exact (Below.refl _ _).alloc (Nat.le_refl _) _
   have HWA:=h_ (H1.out.below hba);have HXA:Hid (wA.heap[kA]?=some (.cells #[.string ⟨pn.toArray⟩,.int .i64 pbs,.bool pkn,.int .i64 rk,.string rnm,.string rot,.bool rb,.slice rao rn rc,.slice rko rkn rkc,.int .i64 rln,.int .i64 rcl,.int .i64 pln,.int .i64 pcl] 48 (0,0))):=h_ (by rw[hwA,hkA];exact made_at wL _ _ rfl);have hsA:=hba.size;have HBA:Hid (Below w0.heap.size w wA):=h_ (H3.out.trans (hba.mono hsB3));have HFA:Hid (Fr w wA):=h_ (H4.out.trans (fr_below hba));have HAW:=h_ hwA;have HAK:=h_ hkA;clear hba hwA hkA
   by_cases hj0:j=0
   ·have hgt:decide ((0:Int)<(j:Int))=false:=by rw[decide_eq_false_iff_not];omega
    rw[if_pos hj0] at hcp;have HJ0:=h_ hj0;have hgt2:decide (0<j)=false:=by rw[decide_eq_false_iff_not];omega
    clear hj0;go_wp2_with fail
    rw[<-HAW.out,<-HAK.out];have HB_x:=HXA;have hlt_x:=lt_of_block HB_x.out;refine Rely.region (by kernel_rfl) [[],[0],[0,1],[],[3],[0,1,2,3,4]] [] [] (fun _=>0) 0 5 (by kernel_rfl) (by kernel_rfl) (fun q h=>absurd h (Nat.not_lt_zero q)) (fun q _ h=>absurd h (Nat.not_lt_zero q)) ?_;refine Rely.Chain.det ?_ (by rfl) (fun T xs wr hA=>?_) ?_
    rotate_left 1
    ·have e0:=hA.pre 0 (by kernel_rfl);simp only[gsa,gsz] at e0;clear hA;refine⟨(by rfl),?_⟩;go_simp<;>(try with_reducible rfl)
    refine Rely.Chain.det ?_ (by rfl) (fun T xs wr hA=>?_) ?_
    rotate_left 1
    ·have e30:=(hA.tm 0 30 (by rfl) (by rfl)).trans (congrArg some (hA.fa 0 (by rfl)))
     (try simp (disch:=first | rfl | decide) only [Rely.mask_in] at e30)
     clear hA;refine⟨(by rfl),?_⟩;go_simp<;>(try with_reducible rfl)
    refine Rely.Chain.det ?_ (by rfl) (fun T xs wr hA=>?_) ?_
    rotate_left 1
    ·have e31:=(hA.tm 1 31 (by rfl) (by rfl)).trans (congrArg some (hA.fa 1 (by rfl)))
     (try simp (disch:=first | rfl | decide) only [Rely.mask_in] at e31)
     clear hA;refine⟨(by rfl),?_⟩;go_simp<;>(try with_reducible rfl)
    refine Rely.Chain.det ?_ (by rfl) (fun T xs wr hA=>?_) ?_
    rotate_left 1
    ·have e7:=hA.pre 7 (by kernel_rfl);simp only[gsa,gsc,gsz] at e7;clear hA;refine⟨(by rfl),?_⟩;go_simp<;>(try with_reducible rfl)
    refine Rely.Chain.det ?_ (by rfl) (fun T xs wr hA=>?_) ?_
    rotate_left 1
    ·have e33:=(hA.tm 3 33 (by rfl) (by rfl)).trans (congrArg some (hA.fa 3 (by rfl)))
     (try simp (disch:=first | rfl | decide) only [Rely.mask_in] at e33)
     have hBq:wr.heap[kA]?=_:=(hA.bl _ hlt_x (fun q h=>absurd h (Nat.not_lt_zero q))).trans HB_x.out;obtain⟨q0,q1,q2,q3,q4,q5,q6,q7,q8,q9,q10,q11,q12⟩:=cl13 hBq;clear hBq;clear hA;refine⟨(by rfl),?_⟩;go_simp<;>(try with_reducible rfl)
    refine Rely.Chain.done (fun xs wB hL=>?_);obtain⟨⟨hbe,hbl,hkp0⟩,hf,hp,hn⟩:=hL;have f0:xs 0=_:=hf 0 (by decide);have f1:xs 1=_:=hf 1 (by decide);have f2:xs 2=_:=hf 2 (by decide);have f3:xs 3=_:=hf 3 (by decide);have f4:xs 4=_:=hf 4 (by decide)
    (try simp (disch:=first | rfl | decide) only [Rely.mask_in] at f0 f1 f2 f3 f4)
    have hbx:Below wA.heap.size wA wB:=undrew (hbe _ (Nat.le_refl _) (fun q h=>absurd h (Nat.not_lt_zero q)));clear hbe hbl hkp0 hf hp hn;replace HB_x:=h_ ((hbx.block _ hlt_x).trans HB_x.out);clear hlt_x;refine Rely.rest_list (by decide) (by kernel_rfl) ?_;simp only[Rely.fill,List.take_succ_cons,List.take_zero,List.drop_succ_cons,List.drop_zero,List.setIfInBounds_toArray,List.set_cons_zero,List.set_cons_succ,f0,f1,f2,f3,f4];clear f0 f1 f2 f3 f4;have hsb:=hbx.size;have hsc:=HBA.out.size;have HWB:=h_ (HWA.out.below hbx);have HBB:=h_ (HBA.out.trans (hbx.mono (by omega)));have HFB:=h_ (HFA.out.trans (fr_below hbx));clear hbx;go_wp2_with fail
    have HX20:=HB_x;have H20:=HWB;have HB20:=HBB;have HF20:=HFB;refine (wr_str w0.heap.size b _ pn wB H20.out (by simp only[lsa,lsc,lsn];omega) (by omega)).mono ?_;rintro e w21 ⟨⟨v21,rfl⟩,hw,hb,hfr⟩;have hs21:=hb.size;have HX21:=h_ (hfr kA _ _ _ HX20.out (by decide) (by decide));have H21:=h_ hw;have HB21:=h_ (HB20.out.trans hb);have HF21:=h_ (HF20.out.trans hfr);clear hw hb hfr;go_wp2_with fail
    refine (wr_str w0.heap.size b _ [58,32] w21 H21.out (by simp only[lsa,lsc,lsn];omega) (by omega)).mono ?_;rintro e w22 ⟨⟨v22,rfl⟩,hw,hb,hfr⟩;have hs22:=hb.size;have HX22:=h_ (hfr kA _ _ _ HX21.out (by decide) (by decide));have H22:=h_ hw;have HB22:=h_ (HB21.out.trans hb);have HF22:=h_ (HF21.out.trans hfr);clear hw hb hfr;obtain⟨x0,x1,x2,x3,x4,x5,x6,x7,x8,x9,x10,x11,x12⟩:=cl13 HX22.out;go_wp2_with fail
    refine (base_any w0 HTB.out ⟨⟨pn.toArray⟩,pbs,pkn,⟨rk,rnm,rot,rb,rao,rn,rc,rko,rkn,rkc,rln,rcl⟩,pln,pcl⟩ pn pt HOK.out b _ w22 (HBW.out.trans HB22.out) H22.out (by simp only[lsa,lsc,lsn];omega)).mono ?_;rintro e w23 ⟨⟨v23,rfl⟩,hw,hb,hfr⟩;have hs23:=hb.size;have H23:=h_ hw;have HB23:=h_ (HB22.out.trans hb);have HF23:=h_ (HF22.out.trans hfr);clear hw hb hfr;clear x0 x1 x2 x3 x4 x5 x6 x7 x8 x9 x10 x11 x12 c0 c1 c2 c3 c4 c5 c6 c7 c8 c9 c10 c11 c12;go_wp2_with fail
    go_roundw
    case rel =>
     refine⟨j+1,by go_num,by omega,?_,HB23.out,HF23.out⟩;have hkj:j<(ps.map ptxW).length:=by simp;exact hlt
     rw[com_take (ps.map ptxW) j hkj,if_pos HJ0.out,List.getElem_map,<-HQ.out];have:=H23.out;simp only[ptxW,List.append_assoc,List.nil_append] at this ⊢;exact this
    case measure=>simp[intOf];omega
   have hgt:decide ((0:Int)<(j:Int))=true:=by rw[decide_eq_true_iff];omega
   rw[if_neg hj0] at hcp;go_wp2_with fail
   rw[<-HAW.out,<-HAK.out];refine (wr_str w0.heap.size b _ [44,32] wA HWA.out (by simp only[lsa,lsc,lsn];omega) (by omega)).mono ?_;rintro e w14 ⟨⟨v4,rfl⟩,hw8,hb8,hfr8⟩;have HB_x:=h_ (hfr8 _ _ _ _ HXA.out (by decide) (by decide));have H14:=h_ hw8;have HB14:=h_ (HBA.out.trans hb8);have HF14:=h_ (HFA.out.trans hfr8);clear hw8 hb8 hfr8;go_wp2_with fail
   have hlt_x:=lt_of_block HB_x.out;refine Rely.region (by kernel_rfl) [[],[0],[0,1],[],[3],[0,1,2,3,4]] [] [] (fun _=>0) 0 5 (by kernel_rfl) (by kernel_rfl) (fun q h=>absurd h (Nat.not_lt_zero q)) (fun q _ h=>absurd h (Nat.not_lt_zero q)) ?_;refine Rely.Chain.det ?_ (by rfl) (fun T xs wr hA=>?_) ?_
   rotate_left 1
   ·have e0:=hA.pre 0 (by kernel_rfl);simp only[gsa,gsz] at e0;clear hA;refine⟨(by rfl),?_⟩;go_simp<;>(try with_reducible rfl)
   refine Rely.Chain.det ?_ (by rfl) (fun T xs wr hA=>?_) ?_
   rotate_left 1
   ·have e30:=(hA.tm 0 30 (by rfl) (by rfl)).trans (congrArg some (hA.fa 0 (by rfl)))
    (try simp (disch:=first | rfl | decide) only [Rely.mask_in] at e30)
    clear hA;refine⟨(by rfl),?_⟩;go_simp<;>(try with_reducible rfl)
   refine Rely.Chain.det ?_ (by rfl) (fun T xs wr hA=>?_) ?_
   rotate_left 1
   ·have e31:=(hA.tm 1 31 (by rfl) (by rfl)).trans (congrArg some (hA.fa 1 (by rfl)))
    (try simp (disch:=first | rfl | decide) only [Rely.mask_in] at e31)
    clear hA;refine⟨(by rfl),?_⟩;go_simp<;>(try with_reducible rfl)
   refine Rely.Chain.det ?_ (by rfl) (fun T xs wr hA=>?_) ?_
   rotate_left 1
   ·have e7:=hA.pre 7 (by kernel_rfl);simp only[gsa,gsc,gsz] at e7;clear hA;refine⟨(by rfl),?_⟩;go_simp<;>(try with_reducible rfl)
   refine Rely.Chain.det ?_ (by rfl) (fun T xs wr hA=>?_) ?_
   rotate_left 1
   ·have e33:=(hA.tm 3 33 (by rfl) (by rfl)).trans (congrArg some (hA.fa 3 (by rfl)))
    (try simp (disch:=first | rfl | decide) only [Rely.mask_in] at e33)
    have hBq:wr.heap[kA]?=_:=(hA.bl _ hlt_x (fun q h=>absurd h (Nat.not_lt_zero q))).trans HB_x.out;obtain⟨q0,q1,q2,q3,q4,q5,q6,q7,q8,q9,q10,q11,q12⟩:=cl13 hBq;clear hBq;clear hA;refine⟨(by rfl),?_⟩;go_simp<;>(try with_reducible rfl)
   refine Rely.Chain.done (fun xs wB hL=>?_);obtain⟨⟨hbe,hbl,hkp0⟩,hf,hp,hn⟩:=hL;have f0:xs 0=_:=hf 0 (by decide);have f1:xs 1=_:=hf 1 (by decide);have f2:xs 2=_:=hf 2 (by decide);have f3:xs 3=_:=hf 3 (by decide);have f4:xs 4=_:=hf 4 (by decide)
   (try simp (disch:=first | rfl | decide) only [Rely.mask_in] at f0 f1 f2 f3 f4)
   have hbx:Below w14.heap.size w14 wB:=undrew (hbe _ (Nat.le_refl _) (fun q h=>absurd h (Nat.not_lt_zero q)));clear hbe hbl hkp0 hf hp hn;replace HB_x:=h_ ((hbx.block _ hlt_x).trans HB_x.out);clear hlt_x;refine Rely.rest_list (by decide) (by kernel_rfl) ?_;simp only[Rely.fill,List.take_succ_cons,List.take_zero,List.drop_succ_cons,List.drop_zero,List.setIfInBounds_toArray,List.set_cons_zero,List.set_cons_succ,f0,f1,f2,f3,f4];clear f0 f1 f2 f3 f4;have hsb:=hbx.size;have hsc:=HB14.out.size;have HWB:=h_ (H14.out.below hbx);have HBB:=h_ (HB14.out.trans (hbx.mono (by omega)));have HFB:=h_ (HF14.out.trans (fr_below hbx));clear hbx;go_wp2_with fail
   have HX20:=HB_x;have H20:=HWB;have HB20:=HBB;have HF20:=HFB;refine (wr_str w0.heap.size b _ pn wB H20.out (by simp only[lsa,lsc,lsn];omega) (by omega)).mono ?_;rintro e w21 ⟨⟨v21,rfl⟩,hw,hb,hfr⟩;have hs21:=hb.size;have HX21:=h_ (hfr kA _ _ _ HX20.out (by decide) (by decide));have H21:=h_ hw;have HB21:=h_ (HB20.out.trans hb);have HF21:=h_ (HF20.out.trans hfr);clear hw hb hfr;go_wp2_with fail
   refine (wr_str w0.heap.size b _ [58,32] w21 H21.out (by simp only[lsa,lsc,lsn];omega) (by omega)).mono ?_;rintro e w22 ⟨⟨v22,rfl⟩,hw,hb,hfr⟩;have hs22:=hb.size;have HX22:=h_ (hfr kA _ _ _ HX21.out (by decide) (by decide));have H22:=h_ hw;have HB22:=h_ (HB21.out.trans hb);have HF22:=h_ (HF21.out.trans hfr);clear hw hb hfr;obtain⟨x0,x1,x2,x3,x4,x5,x6,x7,x8,x9,x10,x11,x12⟩:=cl13 HX22.out;go_wp2_with fail
   refine (base_any w0 HTB.out ⟨⟨pn.toArray⟩,pbs,pkn,⟨rk,rnm,rot,rb,rao,rn,rc,rko,rkn,rkc,rln,rcl⟩,pln,pcl⟩ pn pt HOK.out b _ w22 (HBW.out.trans HB22.out) H22.out (by simp only[lsa,lsc,lsn];omega)).mono ?_;rintro e w23 ⟨⟨v23,rfl⟩,hw,hb,hfr⟩;have hs23:=hb.size;have H23:=h_ hw;have HB23:=h_ (HB22.out.trans hb);have HF23:=h_ (HF22.out.trans hfr);clear hw hb hfr;clear x0 x1 x2 x3 x4 x5 x6 x7 x8 x9 x10 x11 x12 c0 c1 c2 c3 c4 c5 c6 c7 c8 c9 c10 c11 c12;go_wp2_with fail
   go_roundw
   case rel =>
    refine⟨j+1,by go_num,by omega,?_,HB23.out,HF23.out⟩;have hkj:j<(ps.map ptxW).length:=by simp;exact hlt
    rw[com_take (ps.map ptxW) j hkj,if_neg hj0,List.getElem_map,<-HQ.out];have:=H23.out;simp only[ptxW,List.append_assoc] at this ⊢;exact this
   case measure=>simp[intOf];omega
  have e:j=ps.length:=by omega
  subst e;have hs5:=H3.out.size;have hcb:=com_mono (ps.map ptxW) ps.length;go_wp2_with fail
  refine (wr_str w0.heap.size b _ [41,58,32] wr H1.out (by simp only[lsa,lsc,lsn];omega) (by omega)).mono ?_;rintro e w16 ⟨⟨v2,rfl⟩,hw6,hb6,hfr6⟩;have H16:=h_ hw6;have HB16:=h_ hb6;have HF16:=h_ hfr6;clear hw6 hb6 hfr6;go_wp2_with fail
  go_end0
  refine⟨⟨_,rfl⟩,?_,H3.out.trans HB16.out,H4.out.trans HF16.out⟩;have:=H16.out;rw[List.take_of_length_le (by simp)] at this;simp only[hdW,List.append_assoc] at this ⊢;exact this
theorem qual_any (w0:World) (ht:Tabs w0) (nm:Bs) (ps:List (Pm × Bs × Bs)) (hl:ps.length<=9223372036854775807) (ko:Option Addr) (kc:Nat) (hps:PsAt w0 ko ps) (r:X) (t:T) (hT:VOk w0 r t) (ln cl:Int) (b:Nat) (l:Bs) (w:World) (hbw:Below w0.heap.size w0 w) (hwr:Wr w0.heap.size b l w) (hlen:l.length+7+(hdW nm ps).length+(tx t).length+1<=1000000) :
  Calls Tryz.prog 20 #[.pointer (some ⟨b,0,none⟩),.agg #[.string ⟨nm.toArray⟩,.slice ko ps.length kc,.int .i64 r.k,.string r.nm,.string r.ot,.bool r.b,.slice r.ao r.n r.c,.slice r.ko r.kn r.kc,.int .i64 r.ln,.int .i64 r.cl,.int .i64 ln,.int .i64 cl]] w (WrPost w0.heap.size b (l++([113,117,97,108,105,102,32]++hdW nm ps++tx t++[10])) w):=by
 obtain⟨rk,rnm,rot,rb,rao,rn,rc,rko,rkn,rkc,rln,rcl⟩:=r;simp only;have HTB:=h_ ht;have HPS:=h_ hps;have HT:=h_ hT;clear ht hps hT;obtain⟨k3,hk3⟩:∃ k3,k3=w.heap.size:=⟨_,rfl⟩
 obtain⟨w9,hw9⟩:∃ w9,w9=w.alloc (.cells #[.string ⟨nm.toArray⟩,.slice ko ps.length kc,.int .i64 rk,.string rnm,.string rot,.bool rb,.slice rao rn rc,.slice rko rkn rkc,.int .i64 rln,.int .i64 rcl,.int .i64 ln,.int .i64 cl] 69):=⟨_,rfl⟩
 have hba:Below w.heap.size w w9:=by rw[hw9];exact (Below.refl _ _).alloc (Nat.le_refl _) _
 have hx9:w9.heap[k3]?=some (.cells #[.string ⟨nm.toArray⟩,.slice ko ps.length kc,.int .i64 rk,.string rnm,.string rot,.bool rb,.slice rao rn rc,.slice rko rkn rkc,.int .i64 rln,.int .i64 rcl,.int .i64 ln,.int .i64 cl] 69 (0,0)):=by rw[hw9,hk3];exact made_at w _ _ rfl
 have HX9:=h_ hx9;have hsB:=hbw.size;have H9:=h_ (hwr.below hba);have HB9:=h_ (hba.mono hsB);have HF9:=h_ (fr_below hba);have HBW:=h_ hbw;have hs9:=hba.size;clear hba hx9 hbw hwr;go_enter Tryz.func20,Tryz.ntmps20
 go_upto_region 1 with fail
 rw[<-hw9,<-hk3];clear hw9 hk3;go_wp2_with fail
 refine (wr_str w0.heap.size b l [113,117,97,108,105,102,32] w9 H9.out (by simp only[lsc,lsn];omega) (by omega)).mono ?_;rintro e w10 ⟨⟨v10,rfl⟩,hw,hb,hfr⟩;have hs10:=hb.size;have HX10:=h_ (hfr k3 _ _ _ HX9.out (by decide) (by decide));have H10:=h_ hw;have HB10:=h_ (HB9.out.trans hb);have HF10:=h_ (HF9.out.trans hfr);clear hw hb hfr;have x0:=cell_at (v:=.string ⟨nm.toArray⟩) HX10.out 0 rfl;have x1:=cell_at (v:=.slice ko ps.length kc) HX10.out 1 rfl;go_wp2_with fail
 refine (head_any w0 HTB.out nm ps hl ko kc HPS.out b _ w10 (HBW.out.trans HB10.out) H10.out (by simp only[lsa,lsc,lsn];omega)).mono ?_;rintro e w11 ⟨⟨v11,rfl⟩,hw,hb,hfr⟩;have hs11:=hb.size;have HX11:=h_ (hfr k3 _ _ _ HX10.out (by decide) (by decide));have H11:=h_ hw;have HB11:=h_ (HB10.out.trans hb);have HF11:=h_ (HF10.out.trans hfr);clear hw hb hfr;clear x0 x1;have x2:=cell_at (v:=.int .i64 rk) HX11.out 2 rfl;have x3:=cell_at (v:=.string rnm) HX11.out 3 rfl;have x4:=cell_at (v:=.string rot) HX11.out 4 rfl;have x5:=cell_at (v:=.bool rb) HX11.out 5 rfl;have x6:=cell_at (v:=.slice rao rn rc) HX11.out 6 rfl;have x7:=cell_at (v:=.slice rko rkn rkc) HX11.out 7 rfl;have x8:=cell_at (v:=.int .i64 rln) HX11.out 8 rfl;have x9:=cell_at (v:=.int .i64 rcl) HX11.out 9 rfl;go_wp2_with fail
 refine (valid_v w0 HTB.out b _ ⟨rk,rnm,rot,rb,rao,rn,rc,rko,rkn,rkc,rln,rcl⟩ t w11 HT.out (HBW.out.trans HB11.out) H11.out (by simp only[lsa,lsc,lsn];omega)).mono ?_;rintro e w12 ⟨⟨v12,rfl⟩,hw,hb,hfr⟩;have hs12:=hb.size;have H12:=h_ hw;have HB12:=h_ (HB11.out.trans hb);have HF12:=h_ (HF11.out.trans hfr);clear hw hb hfr;clear x2 x3 x4 x5 x6 x7 x8 x9;go_wp2_with fail
 refine (wr_byte w0.heap.size b _ 10 _ rfl w12 H12.out (by simp only[lsa,lsc,lsn];omega) (by omega)).mono ?_;rintro e w13 ⟨⟨v13,rfl⟩,hw,hb,hfr⟩;have hs13:=hb.size;have H13:=h_ hw;have HB13:=h_ (HB12.out.trans hb);have HF13:=h_ (HF12.out.trans hfr);clear hw hb hfr;go_wp2_with fail
 go_end0
 exact⟨⟨_,rfl⟩,by have h:=H13.out;simp only[List.append_assoc] at h ⊢;exact h,HB13.out,HF13.out⟩
theorem fun_any (w0:World) (ht:Tabs w0) (nm:Bs) (ps:List (Pm × Bs × Bs)) (hl:ps.length<=9223372036854775807) (ko:Option Addr) (kc:Nat) (hps:PsAt w0 ko ps) (p:Pm) (rq bt:Bs) (hp:PmOk w0 p rq bt) (r:X) (t:T) (hT:VOk w0 r t) (ln cl:Int) (b:Nat) (l:Bs) (w:World) (hbw:Below w0.heap.size w0 w) (hwr:Wr w0.heap.size b l w) (hlen:l.length+4+(hdW nm ps).length+bt.length+3+(tx t).length+1<=1000000) :
  Calls Tryz.prog 21 #[.pointer (some ⟨b,0,none⟩),.agg #[.string ⟨nm.toArray⟩,.slice ko ps.length kc,.string p.nm,.int .i64 p.bs,.bool p.kn,.int .i64 p.rf.k,.string p.rf.nm,.string p.rf.ot,.bool p.rf.b,.slice p.rf.ao p.rf.n p.rf.c,.slice p.rf.ko p.rf.kn p.rf.kc,.int .i64 p.rf.ln,.int .i64 p.rf.cl,.int .i64 p.ln,.int .i64 p.cl,.int .i64 r.k,.string r.nm,.string r.ot,.bool r.b,.slice r.ao r.n r.c,.slice r.ko r.kn r.kc,.int .i64 r.ln,.int .i64 r.cl,.int .i64 ln,.int .i64 cl]] w (WrPost w0.heap.size b (l++([102,117,110,32]++hdW nm ps++bt++[32,61,32]++tx t++[10])) w):=by
 obtain⟨rk,rnm,rot,rb,rao,rn,rc,rko,rkn,rkc,rln,rcl⟩:=r;have HP:=h_ hp;obtain⟨rsnm,rsbs,rskn,⟨sk,snm,sot,sb,sao,sn,sc,sko,skn,skc,sln,scl⟩,rsln,rscl⟩:=p;simp only;have HTB:=h_ ht;have HPS:=h_ hps;have HT:=h_ hT;clear ht hps hT hp;obtain⟨k3,hk3⟩:∃ k3,k3=w.heap.size:=⟨_,rfl⟩
 obtain⟨w9,hw9⟩:∃ w9,w9=w.alloc (.cells #[.string ⟨nm.toArray⟩,.slice ko ps.length kc,.string rsnm,.int .i64 rsbs,.bool rskn,.int .i64 sk,.string snm,.string sot,.bool sb,.slice sao sn sc,.slice sko skn skc,.int .i64 sln,.int .i64 scl,.int .i64 rsln,.int .i64 rscl,.int .i64 rk,.string rnm,.string rot,.bool rb,.slice rao rn rc,.slice rko rkn rkc,.int .i64 rln,.int .i64 rcl,.int .i64 ln,.int .i64 cl] 50):=⟨_,rfl⟩
 have hba:Below w.heap.size w w9:=by rw[hw9];exact (Below.refl _ _).alloc (Nat.le_refl _) _
 have hx9:w9.heap[k3]?=some (.cells #[.string ⟨nm.toArray⟩,.slice ko ps.length kc,.string rsnm,.int .i64 rsbs,.bool rskn,.int .i64 sk,.string snm,.string sot,.bool sb,.slice sao sn sc,.slice sko skn skc,.int .i64 sln,.int .i64 scl,.int .i64 rsln,.int .i64 rscl,.int .i64 rk,.string rnm,.string rot,.bool rb,.slice rao rn rc,.slice rko rkn rkc,.int .i64 rln,.int .i64 rcl,.int .i64 ln,.int .i64 cl] 50 (0,0)):=by rw[hw9,hk3];exact made_at w _ _ rfl
 have HX9:=h_ hx9;have hsB:=hbw.size;have H9:=h_ (hwr.below hba);have HB9:=h_ (hba.mono hsB);have HF9:=h_ (fr_below hba);have HBW:=h_ hbw;have hs9:=hba.size;clear hba hx9 hbw hwr;go_enter Tryz.func21,Tryz.ntmps21
 go_upto_region 1 with fail
 rw[<-hw9,<-hk3];clear hw9 hk3;go_wp2_with fail
 refine (wr_str w0.heap.size b l [102,117,110,32] w9 H9.out (by simp only[lsc,lsn];omega) (by omega)).mono ?_;rintro e w10 ⟨⟨v10,rfl⟩,hw,hb,hfr⟩;have hs10:=hb.size;have HX10:=h_ (hfr k3 _ _ _ HX9.out (by decide) (by decide));have H10:=h_ hw;have HB10:=h_ (HB9.out.trans hb);have HF10:=h_ (HF9.out.trans hfr);clear hw hb hfr;have x0:=cell_at (v:=.string ⟨nm.toArray⟩) HX10.out 0 rfl;have x1:=cell_at (v:=.slice ko ps.length kc) HX10.out 1 rfl;go_wp2_with fail
 refine (head_any w0 HTB.out nm ps hl ko kc HPS.out b _ w10 (HBW.out.trans HB10.out) H10.out (by simp only[lsa,lsc,lsn];omega)).mono ?_;rintro e w11 ⟨⟨v11,rfl⟩,hw,hb,hfr⟩;have hs11:=hb.size;have HX11:=h_ (hfr k3 _ _ _ HX10.out (by decide) (by decide));have H11:=h_ hw;have HB11:=h_ (HB10.out.trans hb);have HF11:=h_ (HF10.out.trans hfr);clear hw hb hfr;clear x0 x1;have x2:=cell_at (v:=.string rsnm) HX11.out 2 rfl;have x3:=cell_at (v:=.int .i64 rsbs) HX11.out 3 rfl;have x4:=cell_at (v:=.bool rskn) HX11.out 4 rfl;have x5:=cell_at (v:=.int .i64 sk) HX11.out 5 rfl;have x6:=cell_at (v:=.string snm) HX11.out 6 rfl;have x7:=cell_at (v:=.string sot) HX11.out 7 rfl;have x8:=cell_at (v:=.bool sb) HX11.out 8 rfl;have x9:=cell_at (v:=.slice sao sn sc) HX11.out 9 rfl;have x10:=cell_at (v:=.slice sko skn skc) HX11.out 10 rfl
 have x11:=cell_at (v:=.int .i64 sln) HX11.out 11 rfl;have x12:=cell_at (v:=.int .i64 scl) HX11.out 12 rfl;have x13:=cell_at (v:=.int .i64 rsln) HX11.out 13 rfl;have x14:=cell_at (v:=.int .i64 rscl) HX11.out 14 rfl;go_wp2_with fail
 refine (base_any w0 HTB.out ⟨rsnm,rsbs,rskn,⟨sk,snm,sot,sb,sao,sn,sc,sko,skn,skc,sln,scl⟩,rsln,rscl⟩ rq bt HP.out b _ w11 (HBW.out.trans HB11.out) H11.out (by simp only[lsa,lsc,lsn];omega)).mono ?_;rintro e w12 ⟨⟨v12,rfl⟩,hw,hb,hfr⟩;have hs12:=hb.size;have HX12:=h_ (hfr k3 _ _ _ HX11.out (by decide) (by decide));have H12:=h_ hw;have HB12:=h_ (HB11.out.trans hb);have HF12:=h_ (HF11.out.trans hfr);clear hw hb hfr;clear x2 x3 x4 x5 x6 x7 x8 x9 x10 x11 x12 x13 x14;go_wp2_with fail
 refine (wr_str w0.heap.size b _ [32,61,32] w12 H12.out (by simp only[lsa,lsc,lsn];omega) (by omega)).mono ?_;rintro e w13 ⟨⟨v13,rfl⟩,hw,hb,hfr⟩;have hs13:=hb.size;have HX13:=h_ (hfr k3 _ _ _ HX12.out (by decide) (by decide));have H13:=h_ hw;have HB13:=h_ (HB12.out.trans hb);have HF13:=h_ (HF12.out.trans hfr);clear hw hb hfr;have x15:=cell_at (v:=.int .i64 rk) HX13.out 15 rfl;have x16:=cell_at (v:=.string rnm) HX13.out 16 rfl;have x17:=cell_at (v:=.string rot) HX13.out 17 rfl;have x18:=cell_at (v:=.bool rb) HX13.out 18 rfl;have x19:=cell_at (v:=.slice rao rn rc) HX13.out 19 rfl;have x20:=cell_at (v:=.slice rko rkn rkc) HX13.out 20 rfl;have x21:=cell_at (v:=.int .i64 rln) HX13.out 21 rfl;have x22:=cell_at (v:=.int .i64 rcl) HX13.out 22 rfl;go_wp2_with fail
 refine (valid_v w0 HTB.out b _ ⟨rk,rnm,rot,rb,rao,rn,rc,rko,rkn,rkc,rln,rcl⟩ t w13 HT.out (HBW.out.trans HB13.out) H13.out (by simp only[lsa,lsc,lsn];omega)).mono ?_;rintro e w14 ⟨⟨v14,rfl⟩,hw,hb,hfr⟩;have hs14:=hb.size;have H14:=h_ hw;have HB14:=h_ (HB13.out.trans hb);have HF14:=h_ (HF13.out.trans hfr);clear hw hb hfr;clear x15 x16 x17 x18 x19 x20 x21 x22;go_wp2_with fail
 refine (wr_byte w0.heap.size b _ 10 _ rfl w14 H14.out (by simp only[lsa,lsc,lsn];omega) (by omega)).mono ?_;rintro e w15 ⟨⟨v15,rfl⟩,hw,hb,hfr⟩;have hs15:=hb.size;have H15:=h_ hw;have HB15:=h_ (HB14.out.trans hb);have HF15:=h_ (HF14.out.trans hfr);clear hw hb hfr;go_wp2_with fail
 go_end0
 exact⟨⟨_,rfl⟩,by have h:=H15.out;simp only[List.append_assoc] at h ⊢;exact h,HB15.out,HF15.out⟩
def AtC (n:Nat) (w:World) (ko:Option Addr) (i:Nat) (cs:List Value):Prop:=∃ a,ko=some a/\∀ j v,cs[j]?=some v->w.cell? ((a.add (i*n)).add j)=some v
theorem AtC.keep {n:Nat} {w w':World} {ko:Option Addr} {i:Nat} {cs:List Value} (h:AtC n w ko i cs) (hk:∀ a,ko=some a->w'.heap[a.block]?=w.heap[a.block]?):AtC n w' ko i cs:=by
 obtain⟨a,rfl,h⟩:=h;refine⟨a,rfl,fun j v hv=>?_⟩;rw[cell_keep (w:=w) (by rw[add_block,add_block];exact hk a rfl)];exact h j v hv
theorem AtC.lt {n:Nat} {w:World} {ko:Option Addr} {i:Nat} {c:Value} {cs:List Value} (h:AtC n w ko i (c::cs)):∀ a,ko=some a->a.block<w.heap.size:=by
 obtain⟨a,rfl,h⟩:=h;rintro _ ⟨⟩;have:=cell_lt (h 0 _ rfl)
 rwa [add_block,add_block] at this
structure Qp where
 nm:Bs
 ko:Option Addr
 kc:Nat
 ps:List (Pm × Bs × Bs)
 r:X
 t:T
 ln:Int
 cl:Int
structure Fp where
 nm:Bs
 ko:Option Addr
 kc:Nat
 ps:List (Pm × Bs × Bs)
 rs:Pm
 rq:Bs
 bt:Bs
 r:X
 t:T
 ln:Int
 cl:Int
def qc (q:Qp):List Value:=[.string ⟨q.nm.toArray⟩,.slice q.ko q.ps.length q.kc,.int .i64 q.r.k,.string q.r.nm,.string q.r.ot,.bool q.r.b,.slice q.r.ao q.r.n q.r.c,.slice q.r.ko q.r.kn q.r.kc,.int .i64 q.r.ln,.int .i64 q.r.cl,.int .i64 q.ln,.int .i64 q.cl]
def fc (q:Fp):List Value:=[.string ⟨q.nm.toArray⟩,.slice q.ko q.ps.length q.kc,.string q.rs.nm,.int .i64 q.rs.bs,.bool q.rs.kn,.int .i64 q.rs.rf.k,.string q.rs.rf.nm,.string q.rs.rf.ot,.bool q.rs.rf.b,.slice q.rs.rf.ao q.rs.rf.n q.rs.rf.c,.slice q.rs.rf.ko q.rs.rf.kn q.rs.rf.kc,.int .i64 q.rs.rf.ln,.int .i64 q.rs.rf.cl,.int .i64 q.rs.ln,.int .i64 q.rs.cl,.int .i64 q.r.k,.string q.r.nm,.string q.r.ot,.bool q.r.b,.slice q.r.ao q.r.n q.r.c,.slice q.r.ko q.r.kn q.r.kc,.int .i64 q.r.ln,.int .i64 q.r.cl,.int .i64 q.ln,.int .i64 q.cl]
def qT (q:Qp):Bs:=[113,117,97,108,105,102,32]++hdW q.nm q.ps++tx q.t++[10]
def fT (q:Fp):Bs:=[102,117,110,32]++hdW q.nm q.ps++q.bt++[32,61,32]++tx q.t++[10]
def QOk (w:World) (q:Qp):Prop:=q.ps.length<=9223372036854775807/\PsAt w q.ko q.ps/\VOk w q.r q.t
def FOk (w:World) (q:Fp):Prop:=q.ps.length<=9223372036854775807/\PsAt w q.ko q.ps/\PmOk w q.rs q.rq q.bt/\VOk w q.r q.t
theorem run_loadAt_any {P:Program} (w:World) (p:Addr) (ty:TypeId) (cs:List Value) (d:TypeDesc) (hc:∀ j v,cs[j]?=some v->w.cell? (p.add j)=some v)
  (hu:P.underlying ty=some d) (hd:d.isRow=true) (hi:(P.info? ty).map (·.size)=some cs.length) :
  (Instr.loadAt ty (.pointer (some p))).run P w=.ok (.agg cs.toArray) w:=by
 have hl:=run_loadCells_list (P:=P) w p cs hc
 cases hq:P.info? ty with
 | none=>simp[hq] at hi
 | some i =>
  have hs:i.size=cs.length:=by simpa [hq] using hi
  have hagg:(isAgg ty).run P w=.ok true w:=by
   unfold isAgg;rw[Sem.run_bind,run_underlying hu w]
   cases d<;>simp_all
  simp[Instr.loadAt,Instr.sureAddr,loadVar,Sem.run_bind,hagg,sizeOf,typeInfo,hq,hs,hl]
theorem wp_load_any {P:Program} {op:Oper} {a:Act} {w:World} {K:Act->World->Prop} {Q:Exit->Act->World->Prop} (ty:TypeId) (x:Operand) (ho:op.op=.load ty x)
  (p:Addr) (hx:a.eval x=.pointer (some p)) (cs:List Value) (d:TypeDesc) (hc:∀ j v,cs[j]?=some v->w.cell? (p.add j)=some v)
  (hu:P.underlying ty=some d) (hd:d.isRow=true) (hi:(P.info? ty).map (·.size)=some cs.length)
  (h:K (a.put op.dst (.agg cs.toArray)) w):op.wp P a w K Q:=by
 unfold Oper.wp execOp;simp only[ho,hx,Sem.run_bind,Sem.run_pure,Result.andThen_ok,run_loadAt_any w p ty cs d hc hu hd hi];exact h
theorem flat_takeW {α:Type} (f:α->Bs) (qs:List α) (j:Nat) (h:j<qs.length):(qs.take (j+1)).flatMap f=(qs.take j).flatMap f++f qs[j]:=by
 rw[List.take_succ_eq_append_getElem h,List.flatMap_append];simp
theorem flat_mono {α:Type} (f:α->Bs) (qs:List α) (j:Nat):((qs.take j).flatMap f).length<=(qs.flatMap f).length:=by
 have:=congrArg (fun l=>(l.flatMap f).length) (List.take_append_drop j qs);simp only[List.flatMap_append,lsa] at this;omega
theorem flat_pre {α:Type} (f:α->Bs) (qs:List α) (j:Nat) (h:j<qs.length):((qs.take j).flatMap f).length+(f qs[j]).length<=(qs.flatMap f).length:=by
 have h1:=flat_mono f qs (j+1);rw[flat_takeW f qs j h,lsa] at h1;exact h1
def QsAt (w:World) (ko:Option Addr) (qs:List Qp):Prop:=∀ i (h:i<qs.length),AtC 12 w ko i (qc qs[i])/\QOk w qs[i]
def FsAt (w:World) (ko:Option Addr) (qs:List Fp):Prop:=∀ i (h:i<qs.length),AtC 25 w ko i (fc qs[i])/\FOk w qs[i]
theorem cells12 {w:World} {p:Addr} {q:Qp} (h:∀ j v,(qc q)[j]?=some v->w.cell? (p.add j)=some v):w.cell? p=some (.string ⟨q.nm.toArray⟩)/\w.cell? ⟨p.block,p.off+1,none⟩=some (.slice q.ko q.ps.length q.kc)/\w.cell? ⟨p.block,p.off+2,none⟩=some (.int .i64 q.r.k)/\w.cell? ⟨p.block,p.off+3,none⟩=some (.string q.r.nm)/\w.cell? ⟨p.block,p.off+4,none⟩=some (.string q.r.ot)/\w.cell? ⟨p.block,p.off+5,none⟩=some (.bool q.r.b)/\w.cell? ⟨p.block,p.off+6,none⟩=some (.slice q.r.ao q.r.n q.r.c)/\w.cell? ⟨p.block,p.off+7,none⟩=some (.slice q.r.ko q.r.kn q.r.kc)/\w.cell? ⟨p.block,p.off+8,none⟩=some (.int .i64 q.r.ln)/\w.cell? ⟨p.block,p.off+9,none⟩=some (.int .i64 q.r.cl)/\w.cell? ⟨p.block,p.off+10,none⟩=some (.int .i64 q.ln)/\w.cell? ⟨p.block,p.off+11,none⟩=some (.int .i64 q.cl):=
 ⟨h 0 _ rfl,h 1 _ rfl,h 2 _ rfl,h 3 _ rfl,h 4 _ rfl,h 5 _ rfl,h 6 _ rfl,h 7 _ rfl,h 8 _ rfl,h 9 _ rfl,h 10 _ rfl,h 11 _ rfl⟩
theorem print_any (qs:List Qp) (fs:List Fp) (qo fo:Option Addr) (qcap fcap:Nat) (w:World) (ht:Tabs w) (hq:QsAt w qo qs) (hf:FsAt w fo fs) (hq1:qs.length<=9223372036854775807) (hf1:fs.length<=9223372036854775807) (hlen:(qs.flatMap qT).length+(fs.flatMap fT).length<=1000000) :
  Calls Tryz.prog 8 #[.agg #[.slice qo qs.length qcap,.slice fo fs.length fcap]] w fun e w'=>e=.returned (.string ⟨(qs.flatMap qT++fs.flatMap fT).toArray⟩)/\Below w.heap.size w w':=by
 have HT:=h_ ht;have HQS:=h_ hq;have HFS:=h_ hf;obtain⟨w9,hw9⟩:∃ w9,w9=w.alloc (.cells #[.slice qo qs.length qcap,.slice fo fs.length fcap] 26):=⟨_,rfl⟩
 obtain⟨wA,hwA⟩:∃ wA,wA=w9.alloc (.cells #[.pointer none,.slice none 0 0] 67):=⟨_,rfl⟩
 obtain⟨k3,hk3⟩:∃ k3,k3=w.heap.size:=⟨_,rfl⟩
 obtain⟨k4,hk4⟩:∃ k4,k4=w.heap.size+1:=⟨_,rfl⟩
 have hba:Below w.heap.size w w9:=by rw[hw9];exact (Below.refl _ _).alloc (Nat.le_refl _) _
 have hs9:w9.heap.size=w.heap.size+1:=by rw[hw9];simp
 have hbA:Below w.heap.size w wA:=by rw[hwA];exact hba.alloc (by omega) _
 have hx9:wA.heap[k3]?=some (.cells #[.slice qo qs.length qcap,.slice fo fs.length fcap] 26 (0,0)):=by rw[hwA,hw9,hk3];exact made_more (made_at w _ _ rfl) _
 have HWr:Hid (Wr w.heap.size k4 [] wA):=h_ (by
  have:=Wr.fresh w9;rw[<-hwA] at this
  rw[hk4,<-hs9];exact this.lower (by omega))
 have HXA:=h_ hx9;have HBA0:=h_ hbA;have x0:=cell_at (v:=.slice qo qs.length qcap) hx9 0 rfl;clear hba hs9 hbA hx9 ht hq hf;subst hw9;go_enter Tryz.func8,Tryz.ntmps8
 go_upto_region 2 with fail
 rw[<-hwA,<-hk4,<-hk3];clear hwA hk3 hk4;go_wp2_with fail
 go_loopw [5,11] (fun _ i wr=>∃ j:Nat,i=.int .i64 (j:Nat)/\j<=qs.length/\Wr w.heap.size k4 ((qs.take j).flatMap qT) wr/\Below w.heap.size w wr/\Fr wA wr) (fun _ i _=>qs.length - (intOf i).toNat)
 case atStart=>exact⟨0,rfl,Nat.zero_le _,HWr.out,HBA0.out,Fr.refl _⟩
 case round =>
  obtain⟨j,rfl,hj,hw1,hw3,hw4⟩:=hrel;have H1:=h_ hw1;have H3:=h_ hw3;have H4:=h_ hw4;have hs3:=hw3.size;clear hw1 hw3 hw4
  by_cases hlt:j<qs.length
  ·obtain⟨wL,hwL⟩:∃ wL,wL=wr:=⟨_,rfl⟩
   subst hwL;obtain⟨hA,hO⟩:=HQS.out j hlt;have hbd:=flat_pre qT qs j hlt;obtain⟨q,hq⟩:∃ q,q=qs[j]:=⟨_,rfl⟩
   rw[<-hq] at hA hO hbd;simp only[qT,lsa,lsc,lsn] at hbd;have HQ:=h_ hq;clear hq;obtain⟨a,rfl,hc⟩:=hA.keep fun a ha=>H3.out.block _ (hA.lt a ha)
   obtain⟨c0,c1,c2,c3,c4,c5,c6,c7,c8,c9,c10,c11⟩:=cells12 hc;have HOK:=h_ hO;clear hc hA hO;have hba:Below wL.heap.size wL (wL.alloc (.cells #[.string ⟨q.nm.toArray⟩,.slice q.ko q.ps.length q.kc,.int .i64 q.r.k,.string q.r.nm,.string q.r.ot,.bool q.r.b,.slice q.r.ao q.r.n q.r.c,.slice q.r.ko q.r.kn q.r.kc,.int .i64 q.r.ln,.int .i64 q.r.cl,.int .i64 q.ln,.int .i64 q.cl] 69)):=(Below.refl _ _).alloc (Nat.le_refl _) _;have HWA:=h_ (H1.out.below hba);have HBA:=h_ (H3.out.trans (hba.mono hs3));have HFA:=h_ (H4.out.trans (fr_below hba));clear hba;go_wp2_with fail
   refine (qual_any w HT.out q.nm q.ps HOK.out.1 q.ko q.kc HOK.out.2.1 q.r q.t HOK.out.2.2 q.ln q.cl k4 _ _ HBA.out HWA.out (by omega)).mono ?_;rintro e w15 ⟨⟨v3,rfl⟩,hw7,hb7,hfr7⟩;have H15:=h_ hw7;have HB15:=h_ (HBA.out.trans hb7);have HF15:=h_ (HFA.out.trans hfr7);clear hw7 hb7 hfr7 c0 c1 c2 c3 c4 c5 c6 c7 c8 c9 c10 c11;go_wp2_with fail
   go_roundw
   case rel =>
    refine⟨j+1,by go_num,by omega,?_,HB15.out,HF15.out⟩;rw[flat_takeW qT qs j hlt,<-HQ.out];have:=H15.out;simp only[qT,List.append_assoc] at this ⊢;exact this
   case measure=>simp[intOf];omega
  have e:j=qs.length:=by omega
  subst e;rw[List.take_length] at H1;have hxr:=H4.out k3 _ _ _ HXA.out (by decide) (by decide);have y1:=cell_at (v:=.slice fo fs.length fcap) hxr 1 rfl;clear x0 hxr;go_wp2_with fail
  go_loopw [7,21] (fun _ i wr=>∃ j:Nat,i=.int .i64 (j:Nat)/\j<=fs.length/\Wr w.heap.size k4 (qs.flatMap qT++(fs.take j).flatMap fT) wr/\Below w.heap.size w wr/\Fr wA wr) (fun _ i _=>fs.length - (intOf i).toNat)
  case atStart=>exact⟨0,rfl,Nat.zero_le _,by rw[List.take_zero,List.flatMap_nil,List.append_nil];exact H1.out,H3.out,H4.out⟩
  case round =>
   obtain⟨j,rfl,hj,hw1,hw3,hw4⟩:=hrel;have G1:=h_ hw1;have G3:=h_ hw3;have G4:=h_ hw4;have gs3:=hw3.size;clear hw1 hw3 hw4
   by_cases hlt:j<fs.length
   ·obtain⟨wM,hwM⟩:∃ wM,wM=wr:=⟨_,rfl⟩
    subst hwM;obtain⟨hA,hO⟩:=HFS.out j hlt;have hbd:=flat_pre fT fs j hlt;obtain⟨q,hq⟩:∃ q,q=fs[j]:=⟨_,rfl⟩
    rw[<-hq] at hA hO hbd;simp only[fT,lsa,lsc,lsn] at hbd;have HQ:=h_ hq;clear hq;obtain⟨a,rfl,hc⟩:=hA.keep fun a ha=>G3.out.block _ (hA.lt a ha)
    have HC:=h_ hc;have HOK:=h_ hO;clear hc hA hO;go_upto_region 9 with fail
    refine wp_region_lit ?_;refine wpList_plain rfl fun K0 hK0=>?_
    go_simp
    refine hK0 _ _ ?_;clear hK0;refine wpList_plain rfl fun K0 hK0=>?_
    refine wp_load_any 50 (.tmp 23) rfl _ rfl (fc q) _ HC.out Tryz.underlying50 rfl (by kernel_rfl) ?_;refine hK0 _ _ ?_;clear hK0;refine wpList_plain rfl fun K0 hK0=>?_
    go_simp
    refine hK0 _ _ ?_;clear hK0;refine wpList_plain rfl fun K0 hK0=>?_
    refine wp_store_row 50 (.tmp 7) (.tmp 24) rfl wM.heap.size (fc q).toArray rfl rfl 50 _ (heap_alloc_last wM _) (by kernel_rfl) rfl (by simp[fc,Value.oneCell']) ?_;rw[World.setRow_alloc_new];refine hK0 _ _ ?_;clear hK0;go_upto_region 10 with fail
    refine wp_region_lit ?_;refine wpList_plain rfl fun K0 hK0=>?_
    refine wp_load_any 50 (.tmp 7) rfl ⟨wM.heap.size,0,none⟩ rfl (fc q) _ (fun i v hv=>by rw[add_lit,cell_of_row _ _ _ _ _ (0,0) (made_at wM _ _ rfl)];simpa using hv) Tryz.underlying50 rfl (by kernel_rfl) ?_;refine hK0 _ _ ?_;clear hK0;obtain⟨wN,hwN⟩:∃ wN,wN=wM.alloc (.cells (fc q).toArray 50):=⟨_,rfl⟩
    rw[<-hwN];have HWN:=h_ hwN;clear hwN;have hba:Below wM.heap.size wM wN:=by rw[HWN.out];exact (Below.refl _ _).alloc (Nat.le_refl _) _
    have HWA:=h_ (G1.out.below hba);have HBA:=h_ (G3.out.trans (hba.mono gs3));have HFA:=h_ (G4.out.trans (fr_below hba));clear hba;generalize hv:Value.agg (fc q).toArray=vq;have HV:=h_ hv;clear hv;go_wp2_with fail
    rw[<-HV.out];refine (fun_any w HT.out q.nm q.ps HOK.out.1 q.ko q.kc HOK.out.2.1 q.rs q.rq q.bt HOK.out.2.2.1 q.r q.t HOK.out.2.2.2 q.ln q.cl k4 _ _ HBA.out HWA.out (by simp only[lsa];omega)).mono ?_;rintro e w15 ⟨⟨v3,rfl⟩,hw7,hb7,hfr7⟩;have H15:=h_ hw7;have HB15:=h_ (HBA.out.trans hb7);have HF15:=h_ (HFA.out.trans hfr7);clear hw7 hb7 hfr7;go_wp2_with fail
    go_roundw
    case rel =>
     refine⟨j+1,by go_num,by omega,?_,HB15.out,HF15.out⟩;rw[flat_takeW fT fs j hlt,<-HQ.out];have:=H15.out;simp only[fT,List.append_assoc] at this ⊢;exact this
    case measure=>simp[intOf];omega
   have e:j=fs.length:=by omega
   subst e;rw[List.take_length] at G1;go_wp2_with fail
   refine (wr_string_all w.heap.size k4 _ wr G1.out).mono ?_;rintro e w12 ⟨rfl,hb6⟩;have HB12:=h_ (G3.out.trans hb6);clear hb6;go_wp2_with fail
   go_ret
   exact⟨rfl,HB12.out⟩
end Go.Proofs.YtkocdbgmckdcpaaGreatDoor
