/-
 Joined texts: LgBc,ShelfC,LgBd,KDgt,LgBe,LgBf,Rel9,LgBg,LgX,LgY,LgZ.
-/
import Derived.Shelf.Unicode.DecodeSlow
import Derived.Shelf.Strings.Builder1
import Derived.Shelf.Small.Utf8
import Derived.Shelf.Small.Bits
import Derived.Shelf.Small.Wraps
import Derived.Shelf.Strings.BuilderF
import Derived.Shelf.Strings.BuilderK
import Derived.Shelf.Utf8.AppendRune
import Derived.Shelf.Utf8.AppendRunePlain
import Derived.Shelf.Strconv.Bsearch
import Derived.Shelf.Strconv.IsPrint
import Derived.Shelf.Strconv.IsPrint16
import Derived.Shelf.Strconv.IsPrint32
import Derived.Shelf.Strconv.Escaped
import Derived.Shelf.Strconv.Quoted
import Derived.Shelf.Strconv.Quote
import Derived.Shelf.Strconv.Itoa0
import Derived.Shelf.Strconv.Itoa1
import Derived.Shelf.LaysM
import Derived.Shelf.Strconv.Itoa2
import Derived.Shelf.Strconv.Itoa3
import Derived.Shelf.Unicode.Decode
import Derived.Shelf.Unicode.DecodeAny
import Derived.Shelf.Strings.BuilderCap
import Derived.Shelf.Slices.Turned
import Derived.Ground.Names2Prog
import Derived.Shelf.Slices.SearchI
import Derived.Test.YtdkfnbbebpbhaaaGreatDoorProg
import Derived.Lib.ItoaMem
import Derived.Laws.IdiomStrings
import Derived.Test.YtdkfnbbebpbhaaaGreatDoorJLogicTexts1
import Derived.Test.YtdkfnbbebpbhaaaGreatDoorJLogicTexts2
import Derived.Test.YtdkfnbbebpbhaaaGreatDoorJLogicTexts3
import Derived.Test.YtdkfnbbebpbhaaaGreatDoorJLogicTexts5
set_option maxHeartbeats 32000000
namespace Go.Proofs.YtdkfnbbebpbhaaaGreatDoor
open Go.RowKit
set_option maxRecDepth 100000
set_option linter.unusedVariables false
set_option linter.unusedSimpArgs false
attribute [local go_sem] fieldV0 fieldV1 fieldV2 fieldV3
structure TxT (w:World):Prop where
 p10 : Lib.TabIs Tryz.prog w "internal/strconv.uint64pow10" .u64 Lib.pow10Tab
 wds:∀ i,i<21->w.cell? ⟨0,i,none⟩=some (.string ⟨(wdTab.getD i []).toArray⟩)
 prt:Lib.PrintTabsAt 4 5 6 7 Lib.goPrintTabs w
 utf:Lib.Utf8Tabs 2 3 w
theorem tabSlice_below {g:Nat} {k:IntKind} {t:List Nat} {w w':World} (h:Lib.TabSlice g k t w) (hb:Below w.heap.size w w'):Lib.TabSlice g k t w':=by
 obtain⟨R,o,c,h1,h2⟩:=h;exact⟨R,o,c,by rw[hb.cell (cell_lt h1)];exact h1,fun j hj=>by rw[hb.cell (cell_lt (h2 j hj))];exact h2 j hj⟩
theorem TxT.below {w w':World} (h:TxT w) (hb:Below w.heap.size w w'):TxT w' where
 p10:=tab_below h.p10 hb
 wds i hi:=by rw[hb.cell (cell_lt (h.wds i hi))];exact h.wds i hi
 prt:=by
  obtain⟨a,b,c,d,e⟩:=h.prt;exact⟨tabSlice_below a hb,tabSlice_below b hb,tabSlice_below c hb,tabSlice_below d hb,e⟩
 utf:=by
  obtain⟨a,b⟩:=h.utf;exact⟨fun c hc=>by rw[hb.cell (cell_lt (a c hc))];exact a c hc,fun i hi=>⟨by rw[hb.cell (cell_lt (b i hi).1)];exact (b i hi).1,by rw[hb.cell (cell_lt (b i hi).2)];exact (b i hi).2⟩⟩
def QuoteC:Prop:=∀ nm ∈ nmTab,∀ w:World,TxT w->Calls Tryz.prog 83 #[.string nm] w fun e w'=>e=.returned (.string ⟨(qt nm).toArray⟩)/\Below w.heap.size w w'
theorem word_p (o:Int) (h0:0<=o) (h1:o<=20) (w:World) (ht:TxT w) :
  Calls Tryz.prog 80 #[.int .i64 o] w fun e w'=>e=.returned (.string ⟨(wd o).toArray⟩)/\Below w.heap.size w w':=by
 obtain⟨k,rfl⟩:∃ k:Nat,o=k:=⟨o.toNat,by omega⟩
 have hk:k<21:=by omega
 have c:=ht.wds k hk;have e:wd (k:Int)=wdTab.getD k []:=rfl;rw[e];generalize wdTab.getD k []=s at c ⊢;clear ht e;go_enter Tryz.func80,Tryz.ntmps80
 go_wp2
 go_ret
 exact⟨rfl,Below.refl _ _⟩
theorem txJ_mono (ks:List F) (j:Nat):∀ m,j+m<=ks.length->(txJ ks j).length<=(txJ ks (j+m)).length
 | 0,_=>Nat.le_refl _
 | m+1,h=>by
  have ih:=txJ_mono ks j m (by omega)
  by_cases h0:j+m=0
  ·have hj:j=0:=by omega
   subst hj;rw[txJ_zero];exact Nat.zero_le _
  rw[show j+(m+1)=(j+m)+1 by omega,txJ_next ks (j+m) (by omega) (by omega),lsa];omega
theorem txJ_le (ks:List F) (j:Nat) (h:j<=ks.length) (h0:0<ks.length):(txJ ks j).length+1<=(txK ks).length:=by
 have h1:=txJ_mono ks j (ks.length - j) (by omega);rw[show j+(ks.length - j)=ks.length by omega] at h1;have h2:=congrArg List.length (txJ_all ks h0);rw[lsa] at h2;simp only[lsc,lsn] at h2
 omega
theorem txJ_step (ks:List F) (j:Nat) (h:j<ks.length):∃ m:Bs,txJ ks (j+1)=txJ ks j++(m++txF ks[j])/\((j=0/\m=[40])\/(0<j/\m=[44,32])):=by
 by_cases h0:j=0
 ·subst h0;exact⟨[40],by rw[txJ_one ks h,txJ_zero];rfl,.inl ⟨rfl,rfl⟩⟩
 exact⟨[44,32],txJ_next ks j (by omega) h,.inr ⟨by omega,rfl⟩⟩
def WriteC (d:Nat):Prop:=∀ (w0 w:World) (v:Value) (t:F) (B b:Nat) (l:Bs),FC w0 tS d v t->TxT w0->rt t=true->Tm d t->w0.heap.size<=B->Below w0.heap.size w0 w->Bld B b l w->B<=w.heap.size->l.length+(txF t).length<=1000000 ->
 Calls Tryz.prog 47 #[.pointer (some ⟨b,0,none⟩),v] w (BwPost B b (l++txF t) w)
theorem bb_trans {B:Nat} {a b c:World} (h:Below B a b) (hB:B<=b.heap.size) (k:Below b.heap.size b c):Below B a c:=h.trans (k.mono hB)
theorem add0B (a:Addr):a.add 0=a:=by simp[Addr.add]
theorem nm_tab {o:Int} {nm:ByteArray} (ho:o=1\/o=8\/o=14) (h:NmOk o nm):nm ∈ nmTab:=by
 rcases ho with rfl | rfl | rfl
 ·rcases (show nm=_\/nm=_\/nm=_ from h) with rfl | rfl | rfl<;>simp[nmTab]
 ·rcases (show nm=_\/nm=_ from h) with rfl | rfl<;>simp[nmTab]
 rcases (show nm=_\/nm=_ from h) with rfl | rfl<;>simp[nmTab]
theorem nm_emp {nm:ByteArray} (h:nm ∈ nmTab):nm.toList.isEmpty=false:=by
 simp only[nmTab,List.mem_cons,List.not_mem_nil,or_false] at h;rcases h with rfl | rfl | rfl | rfl | rfl | rfl | rfl<;>(rw[ByteArray.toList_eq];rfl)
theorem nm_ne {nm:ByteArray} (h:nm ∈ nmTab):nm ≠ ⟨#[]⟩:=by
 intro e;subst e
 simp[nmTab] at h
theorem write_num (HQ:QuoteC) (d:Nat) (IH:WriteC d) (w0 w:World) (v:Value) (t:F) (B b:Nat) (l:Bs) (ho:t.op=0):FC w0 tS (d+1) v t->TxT w0->rt t=true->Tm (d+1) t->w0.heap.size<=B->Below w0.heap.size w0 w->Bld B b l w->B<=w.heap.size->l.length+(txF t).length<=1000000 ->
  Calls Tryz.prog 47 #[.pointer (some ⟨b,0,none⟩),v] w (BwPost B b (l++txF t) w):=by
 intro hf ht hrt htm hB hbw hbl hBw hlen;obtain⟨b2,ao,la,c,ko,kl,kc,rfl,⟨-,hz,hkl,hkc,hkm⟩,-,hk⟩:=hf.open;obtain⟨o,z,nm,ks⟩:=t;simp only[F.op,F.num,F.name,F.kids] at hz hk hkl ho ⊢;rw[show d+1 - 1=d from rfl] at hk;obtain⟨hfit,hrs⟩:=rt_node hrt;have hor:=fit_range hfit;obtain⟨hnm,hzb,hz0,-,htk⟩:=htm;simp only[F.op,F.num,F.name,F.kids] at hnm hzb hz0 htk;have hkm':kc<=9223372036854775807:=hkm;have hkl2:kl<=9223372036854775807:=Nat.le_trans hkc hkm;have hlen2:l.length+((wd o).length+((numT o z).length+((namT nm).length+(txK ks).length)))<=1000000:=by have h:=hlen;rw[txF,lsa,lsa,lsa] at h;omega
 have HN:=Lib.hid hkl;have HX:=Lib.hid hk;have HZ:=Lib.hid hz;have HT:=Lib.hid ht;have HTK:=Lib.hid htk;have HRS:=Lib.hid hrs;have HLEN:=Lib.hid hlen2;have HQU:=Lib.hid HQ;have HIH:=Lib.hid IH;have HOR:=Lib.hid hor;have HB0:=Lib.hid hB;have HW:=Lib.hid hbw;have HBL:=Lib.hid hbl;have HBS:Hid (B<=w.heap.size):=Lib.hid hBw;have HBB:=Lib.hid (Below.refl B w);have HFR:=Lib.hid (FrB.refl w);have HTXF:Hid (txF (.node o z nm ks)=wd o++(numT o z++(namT nm++txK ks))):=Lib.hid (by rw[txF]);clear hf ht hrt hB hbw hbl hBw hlen hlen2 hkl hk hz hrs htk HQ IH;subst ho;have hkE:ks=[]:=srts_nil (by simpa [fitF,kidsOk] using hfit);have HKE:Hid (txK ks=[]):=Lib.hid (by rw[hkE];rfl);have hkl0:kl=0:=by rw[HN.out,hkE];rfl
 subst hkl0;have hn0:nm=⟨#[]⟩:=hnm;subst hn0;have HNL:Hid (numT 0 z=32::zText z):=Lib.hid (if_pos (.inl rfl));have HNA:Hid (namT ⟨#[]⟩=[]):=Lib.hid rfl;clear hfit hnm hzb hz0 hor hkc hkm;go_enter Tryz.func47,Tryz.ntmps47
 obtain⟨x1,kf,ef,ekf,hbf,hkf,HBf⟩:=newV w #[.int .i64 0,.bool b2,.slice ao la c,.string ⟨#[]⟩,.slice ko 0 kc] 29;replace HW:=Lib.hid (HW.out.trans (hbf.out.mono HW.out.size));replace HBL:=Lib.hid (HBL.out.below hbf.out);replace HBB:=Lib.hid (bb_trans HBB.out HBS.out hbf.out);replace HFR:=Lib.hid (HFR.out.trans (fr_below hbf.out));replace HBS:=Lib.hid (Nat.le_trans HBS.out hbf.out.size);have c0:=cell_at (v:=.int .i64 0) HBf.out 0 rfl;have fc0:=froz_at HBf.out 0;have c1:=cell_at (v:=.bool b2) HBf.out 1 rfl;have fc1:=froz_at HBf.out 1;have c2:=cell_at (v:=.slice ao la c) HBf.out 2 rfl;have fc2:=froz_at HBf.out 2;have c3:=cell_at (v:=.string ⟨#[]⟩) HBf.out 3 rfl;have fc3:=froz_at HBf.out 3;have c4:=cell_at (v:=.slice ko 0 kc) HBf.out 4 rfl;have fc4:=froz_at HBf.out 4;go_wp2_with fail
 refine (word_p 0 HOR.out.1 HOR.out.2 x1 (HT.out.below HW.out)).mono ?_;rintro e x2 ⟨rfl,hb⟩;clear c0 fc0 c1 fc1 c2 fc2 c3 fc3 c4 fc4;replace HBf:=kBV hb HBf;replace HW:=Lib.hid (HW.out.trans (hb.mono HW.out.size));replace HBL:=Lib.hid (HBL.out.below hb);replace HBB:=Lib.hid (bb_trans HBB.out HBS.out hb);replace HFR:=Lib.hid (HFR.out.trans (fr_below hb));replace HBS:=Lib.hid (Nat.le_trans HBS.out hb.size);clear hb;go_wp2_with fail
 refine (bw_str B b l (wd 0) x2 HBL.out (by have:=HLEN.out;omega) HBS.out).mono ?_;rintro e x3 ⟨⟨v,rfl⟩,hbl,hb,hfr⟩;replace HBf:=Lib.hid (hfr _ _ _ _ HBf.out (by decide) (by decide));replace HW:=Lib.hid (HW.out.trans (hb.mono HB0.out));replace HBB:=Lib.hid (HBB.out.trans hb);replace HFR:=Lib.hid (HFR.out.trans hfr);replace HBS:Hid (B<=x3.heap.size):=Lib.hid (Nat.le_trans HBS.out hb.size);replace HBL:=Lib.hid hbl;clear hbl hb hfr;have c0:=cell_at (v:=.int .i64 0) HBf.out 0 rfl;have fc0:=froz_at HBf.out 0;have c1:=cell_at (v:=.bool b2) HBf.out 1 rfl;have fc1:=froz_at HBf.out 1;have c2:=cell_at (v:=.slice ao la c) HBf.out 2 rfl;have fc2:=froz_at HBf.out 2;have c3:=cell_at (v:=.string ⟨#[]⟩) HBf.out 3 rfl;have fc3:=froz_at HBf.out 3;have c4:=cell_at (v:=.slice ko 0 kc) HBf.out 4 rfl;have fc4:=froz_at HBf.out 4;go_wp2_with fail
 refine (bw_byte B b (l++wd 0) 32 32 rfl x3 HBL.out (by have:=HLEN.out;have h3:=HNL.out;rw[h3] at this;rw[lsa];simp only[lsc] at this;omega) HBS.out).mono ?_;rintro e x4 ⟨⟨v,rfl⟩,hbl,hb,hfr⟩;clear c0 fc0 c1 fc1 c2 fc2 c3 fc3 c4 fc4;replace HBf:=Lib.hid (hfr _ _ _ _ HBf.out (by decide) (by decide));replace HW:=Lib.hid (HW.out.trans (hb.mono HB0.out));replace HBB:=Lib.hid (HBB.out.trans hb);replace HFR:=Lib.hid (HFR.out.trans hfr);replace HBS:Hid (B<=x4.heap.size):=Lib.hid (Nat.le_trans HBS.out hb.size);replace HBL:=Lib.hid hbl;clear hbl hb hfr;have c0:=cell_at (v:=.int .i64 0) HBf.out 0 rfl;have fc0:=froz_at HBf.out 0;have c1:=cell_at (v:=.bool b2) HBf.out 1 rfl;have fc1:=froz_at HBf.out 1;have c2:=cell_at (v:=.slice ao la c) HBf.out 2 rfl;have fc2:=froz_at HBf.out 2;have c3:=cell_at (v:=.string ⟨#[]⟩) HBf.out 3 rfl
 have fc3:=froz_at HBf.out 3;have c4:=cell_at (v:=.slice ko 0 kc) HBf.out 4 rfl;have fc4:=froz_at HBf.out 4;go_wp2_with fail
 refine (wtext_any _ z 600 x4 (HT.out.below HW.out).p10 ((HZ.out.below HW.out).gi) (by decide)).mono ?_;rintro e x5 ⟨rfl,hb⟩;clear c0 fc0 c1 fc1 c2 fc2 c3 fc3 c4 fc4;replace HBf:=kBV hb HBf;replace HW:=Lib.hid (HW.out.trans (hb.mono HW.out.size));replace HBL:=Lib.hid (HBL.out.below hb);replace HBB:=Lib.hid (bb_trans HBB.out HBS.out hb);replace HFR:=Lib.hid (HFR.out.trans (fr_below hb));replace HBS:=Lib.hid (Nat.le_trans HBS.out hb.size);clear hb;go_wp2_with fail
 refine (bw_str B b (l++wd 0++[32]) (zText z) x5 HBL.out (by have:=HLEN.out;have h3:=HNL.out;rw[h3] at this;rw[lsa,lsa];simp only[lsc,lsn] at this ⊢;omega) HBS.out).mono ?_;rintro e x6 ⟨⟨v,rfl⟩,hbl,hb,hfr⟩;replace HBf:=Lib.hid (hfr _ _ _ _ HBf.out (by decide) (by decide));replace HW:=Lib.hid (HW.out.trans (hb.mono HB0.out));replace HBB:=Lib.hid (HBB.out.trans hb);replace HFR:=Lib.hid (HFR.out.trans hfr);replace HBS:Hid (B<=x6.heap.size):=Lib.hid (Nat.le_trans HBS.out hb.size);replace HBL:=Lib.hid hbl;clear hbl hb hfr;have c0:=cell_at (v:=.int .i64 0) HBf.out 0 rfl;have fc0:=froz_at HBf.out 0;have c1:=cell_at (v:=.bool b2) HBf.out 1 rfl;have fc1:=froz_at HBf.out 1;have c2:=cell_at (v:=.slice ao la c) HBf.out 2 rfl;have fc2:=froz_at HBf.out 2;have c3:=cell_at (v:=.string ⟨#[]⟩) HBf.out 3 rfl;have fc3:=froz_at HBf.out 3
 have c4:=cell_at (v:=.slice ko 0 kc) HBf.out 4 rfl;have fc4:=froz_at HBf.out 4;go_wp2_with fail
 go_end0
 exact⟨⟨_,rfl⟩,by rw[HTXF.out,HNL.out,HNA.out,HKE.out];simpa using HBL.out,HBB.out,HFR.out⟩
theorem write_nam (HQ:QuoteC) (d:Nat) (IH:WriteC d) (w0 w:World) (v:Value) (t:F) (B b:Nat) (l:Bs) (ho:t.op=1\/t.op=8\/t.op=14):FC w0 tS (d+1) v t->TxT w0->rt t=true->Tm (d+1) t->w0.heap.size<=B->Below w0.heap.size w0 w->Bld B b l w->B<=w.heap.size->l.length+(txF t).length<=1000000 ->
  Calls Tryz.prog 47 #[.pointer (some ⟨b,0,none⟩),v] w (BwPost B b (l++txF t) w):=by
 intro hf ht hrt htm hB hbw hbl hBw hlen;obtain⟨b2,ao,la,c,ko,kl,kc,rfl,⟨-,hz,hkl,hkc,hkm⟩,-,hk⟩:=hf.open;obtain⟨o,z,nm,ks⟩:=t;simp only[F.op,F.num,F.name,F.kids] at hz hk hkl ho ⊢;rw[show d+1 - 1=d from rfl] at hk;obtain⟨hfit,hrs⟩:=rt_node hrt;have hor:=fit_range hfit;obtain⟨hnm,hzb,hz0,-,htk⟩:=htm;simp only[F.op,F.num,F.name,F.kids] at hnm hzb hz0 htk;have hkm':kc<=9223372036854775807:=hkm;have hkl2:kl<=9223372036854775807:=Nat.le_trans hkc hkm;have hlen2:l.length+((wd o).length+((numT o z).length+((namT nm).length+(txK ks).length)))<=1000000:=by have h:=hlen;rw[txF,lsa,lsa,lsa] at h;omega
 have HN:=Lib.hid hkl;have HX:=Lib.hid hk;have HZ:=Lib.hid hz;have HT:=Lib.hid ht;have HTK:=Lib.hid htk;have HRS:=Lib.hid hrs;have HLEN:=Lib.hid hlen2;have HQU:=Lib.hid HQ;have HIH:=Lib.hid IH;have HOR:=Lib.hid hor;have HB0:=Lib.hid hB;have HW:=Lib.hid hbw;have HBL:=Lib.hid hbl;have HBS:Hid (B<=w.heap.size):=Lib.hid hBw;have HBB:=Lib.hid (Below.refl B w);have HFR:=Lib.hid (FrB.refl w);have HTXF:Hid (txF (.node o z nm ks)=wd o++(numT o z++(namT nm++txK ks))):=Lib.hid (by rw[txF]);clear hf ht hrt hB hbw hbl hBw hlen hlen2 hkl hk hz hrs htk HQ IH;have hkE:ks=[]:=by rcases ho with rfl | rfl | rfl<;>exact srts_nil (by simpa [fitF,kidsOk] using hfit)
 have HKE:Hid (txK ks=[]):=Lib.hid (by rw[hkE];rfl);have hkl0:kl=0:=by rw[HN.out,hkE];rfl
 subst hkl0;have hz1:z=0:=hz0 (by omega) (by omega) (by omega);subst hz1;have hn1:nm ∈ nmTab:=nm_tab ho hnm;have HNMT:=Lib.hid hn1;have hne:nm ≠ ⟨#[]⟩:=nm_ne hn1;have hnb:=nm_emp hn1;have HNL:Hid (numT o 0=[]):=Lib.hid (if_neg (by omega));have HNA:Hid (namT nm=32::qt nm):=Lib.hid (if_neg hne);have hob:(o==0)=false:=beq_eq_false_iff_ne.2 (by omega);have HSG:Hid (sgnZ 0=0):=Lib.hid rfl;clear hfit hnm hzb hz0 hor hkc hkm;clear ho hne hn1 hkE;go_enter Tryz.func47,Tryz.ntmps47
 obtain⟨x1,kf,ef,ekf,hbf,hkf,HBf⟩:=newV w #[.int .i64 o,.bool b2,.slice ao la c,.string nm,.slice ko 0 kc] 29;replace HW:=Lib.hid (HW.out.trans (hbf.out.mono HW.out.size));replace HBL:=Lib.hid (HBL.out.below hbf.out);replace HBB:=Lib.hid (bb_trans HBB.out HBS.out hbf.out);replace HFR:=Lib.hid (HFR.out.trans (fr_below hbf.out));replace HBS:=Lib.hid (Nat.le_trans HBS.out hbf.out.size);have c0:=cell_at (v:=.int .i64 o) HBf.out 0 rfl;have fc0:=froz_at HBf.out 0;have c1:=cell_at (v:=.bool b2) HBf.out 1 rfl;have fc1:=froz_at HBf.out 1;have c2:=cell_at (v:=.slice ao la c) HBf.out 2 rfl;have fc2:=froz_at HBf.out 2;have c3:=cell_at (v:=.string nm) HBf.out 3 rfl;have fc3:=froz_at HBf.out 3;have c4:=cell_at (v:=.slice ko 0 kc) HBf.out 4 rfl;have fc4:=froz_at HBf.out 4;go_wp2_with fail
 refine (word_p o HOR.out.1 HOR.out.2 x1 (HT.out.below HW.out)).mono ?_;rintro e x2 ⟨rfl,hb⟩;clear c0 fc0 c1 fc1 c2 fc2 c3 fc3 c4 fc4;replace HBf:=kBV hb HBf;replace HW:=Lib.hid (HW.out.trans (hb.mono HW.out.size));replace HBL:=Lib.hid (HBL.out.below hb);replace HBB:=Lib.hid (bb_trans HBB.out HBS.out hb);replace HFR:=Lib.hid (HFR.out.trans (fr_below hb));replace HBS:=Lib.hid (Nat.le_trans HBS.out hb.size);clear hb;go_wp2_with fail
 refine (bw_str B b l (wd o) x2 HBL.out (by have:=HLEN.out;omega) HBS.out).mono ?_;rintro e x3 ⟨⟨v,rfl⟩,hbl,hb,hfr⟩;replace HBf:=Lib.hid (hfr _ _ _ _ HBf.out (by decide) (by decide));replace HW:=Lib.hid (HW.out.trans (hb.mono HB0.out));replace HBB:=Lib.hid (HBB.out.trans hb);replace HFR:=Lib.hid (HFR.out.trans hfr);replace HBS:Hid (B<=x3.heap.size):=Lib.hid (Nat.le_trans HBS.out hb.size);replace HBL:=Lib.hid hbl;clear hbl hb hfr;have c0:=cell_at (v:=.int .i64 o) HBf.out 0 rfl;have fc0:=froz_at HBf.out 0;have c1:=cell_at (v:=.bool b2) HBf.out 1 rfl;have fc1:=froz_at HBf.out 1;have c2:=cell_at (v:=.slice ao la c) HBf.out 2 rfl;have fc2:=froz_at HBf.out 2;have c3:=cell_at (v:=.string nm) HBf.out 3 rfl;have fc3:=froz_at HBf.out 3;have c4:=cell_at (v:=.slice ko 0 kc) HBf.out 4 rfl;have fc4:=froz_at HBf.out 4;go_wp2_with fail
 refine (wsign_any _ 0 600 x3 ((HZ.out.below HW.out).gi) (by decide)).mono ?_;rintro e x4 ⟨rfl,hb⟩;clear c0 fc0 c1 fc1 c2 fc2 c3 fc3 c4 fc4;replace HBf:=kBV hb HBf;replace HW:=Lib.hid (HW.out.trans (hb.mono HW.out.size));replace HBL:=Lib.hid (HBL.out.below hb);replace HBB:=Lib.hid (bb_trans HBB.out HBS.out hb);replace HFR:=Lib.hid (HFR.out.trans (fr_below hb));replace HBS:=Lib.hid (Nat.le_trans HBS.out hb.size);clear hb;rw[HSG.out];have c0:=cell_at (v:=.int .i64 o) HBf.out 0 rfl;have fc0:=froz_at HBf.out 0;have c1:=cell_at (v:=.bool b2) HBf.out 1 rfl;have fc1:=froz_at HBf.out 1;have c2:=cell_at (v:=.slice ao la c) HBf.out 2 rfl;have fc2:=froz_at HBf.out 2;have c3:=cell_at (v:=.string nm) HBf.out 3 rfl;have fc3:=froz_at HBf.out 3;have c4:=cell_at (v:=.slice ko 0 kc) HBf.out 4 rfl;have fc4:=froz_at HBf.out 4;go_wp2_with fail
 refine (bw_byte B b (l++wd o) 32 32 rfl x4 HBL.out (by have:=HLEN.out;rw[lsa];omega) HBS.out).mono ?_;rintro e x5 ⟨⟨v,rfl⟩,hbl,hb,hfr⟩;clear c0 fc0 c1 fc1 c2 fc2 c3 fc3 c4 fc4;replace HBf:=Lib.hid (hfr _ _ _ _ HBf.out (by decide) (by decide));replace HW:=Lib.hid (HW.out.trans (hb.mono HB0.out));replace HBB:=Lib.hid (HBB.out.trans hb);replace HFR:=Lib.hid (HFR.out.trans hfr);replace HBS:Hid (B<=x5.heap.size):=Lib.hid (Nat.le_trans HBS.out hb.size);replace HBL:=Lib.hid hbl;clear hbl hb hfr;have c0:=cell_at (v:=.int .i64 o) HBf.out 0 rfl;have fc0:=froz_at HBf.out 0;have c1:=cell_at (v:=.bool b2) HBf.out 1 rfl;have fc1:=froz_at HBf.out 1;have c2:=cell_at (v:=.slice ao la c) HBf.out 2 rfl;have fc2:=froz_at HBf.out 2;have c3:=cell_at (v:=.string nm) HBf.out 3 rfl;have fc3:=froz_at HBf.out 3
 have c4:=cell_at (v:=.slice ko 0 kc) HBf.out 4 rfl;have fc4:=froz_at HBf.out 4;go_wp2_with fail
 refine (HQU.out nm HNMT.out x5 (HT.out.below HW.out)).mono ?_;rintro e x6 ⟨rfl,hb⟩;clear c0 fc0 c1 fc1 c2 fc2 c3 fc3 c4 fc4;replace HBf:=kBV hb HBf;replace HW:=Lib.hid (HW.out.trans (hb.mono HW.out.size));replace HBL:=Lib.hid (HBL.out.below hb);replace HBB:=Lib.hid (bb_trans HBB.out HBS.out hb);replace HFR:=Lib.hid (HFR.out.trans (fr_below hb));replace HBS:=Lib.hid (Nat.le_trans HBS.out hb.size);clear hb;go_wp2_with fail
 refine (bw_str B b (l++wd o++[32]) (qt nm) x6 HBL.out (by have:=HLEN.out;have h3:=HNA.out;rw[h3] at this;rw[lsa,lsa];simp only[lsc,lsn] at this ⊢;omega) HBS.out).mono ?_;rintro e x7 ⟨⟨v,rfl⟩,hbl,hb,hfr⟩;replace HBf:=Lib.hid (hfr _ _ _ _ HBf.out (by decide) (by decide));replace HW:=Lib.hid (HW.out.trans (hb.mono HB0.out));replace HBB:=Lib.hid (HBB.out.trans hb);replace HFR:=Lib.hid (HFR.out.trans hfr);replace HBS:Hid (B<=x7.heap.size):=Lib.hid (Nat.le_trans HBS.out hb.size);replace HBL:=Lib.hid hbl;clear hbl hb hfr;have c0:=cell_at (v:=.int .i64 o) HBf.out 0 rfl;have fc0:=froz_at HBf.out 0;have c1:=cell_at (v:=.bool b2) HBf.out 1 rfl;have fc1:=froz_at HBf.out 1;have c2:=cell_at (v:=.slice ao la c) HBf.out 2 rfl;have fc2:=froz_at HBf.out 2;have c3:=cell_at (v:=.string nm) HBf.out 3 rfl;have fc3:=froz_at HBf.out 3
 have c4:=cell_at (v:=.slice ko 0 kc) HBf.out 4 rfl;have fc4:=froz_at HBf.out 4;go_wp2_with fail
 go_end0
 exact⟨⟨_,rfl⟩,by rw[HTXF.out,HNL.out,HNA.out,HKE.out];simpa using HBL.out,HBB.out,HFR.out⟩
theorem write_zk (HQ:QuoteC) (d:Nat) (IH:WriteC d) (w0 w:World) (v:Value) (t:F) (B b:Nat) (l:Bs) (ho:t.op≠0/\t.op≠1/\t.op≠8/\t.op≠14) (hzz:t.num=0) (hks:t.kids.length≠0):FC w0 tS (d+1) v t->TxT w0->rt t=true->Tm (d+1) t->w0.heap.size<=B->Below w0.heap.size w0 w->Bld B b l w->B<=w.heap.size->l.length+(txF t).length<=1000000 ->
  Calls Tryz.prog 47 #[.pointer (some ⟨b,0,none⟩),v] w (BwPost B b (l++txF t) w):=by
 intro hf ht hrt htm hB hbw hbl hBw hlen;obtain⟨b2,ao,la,c,ko,kl,kc,rfl,⟨-,hz,hkl,hkc,hkm⟩,-,hk⟩:=hf.open;obtain⟨o,z,nm,ks⟩:=t;simp only[F.op,F.num,F.name,F.kids] at hz hk hkl ho hzz hks ⊢;rw[show d+1 - 1=d from rfl] at hk;obtain⟨hfit,hrs⟩:=rt_node hrt;have hor:=fit_range hfit;obtain⟨hnm,hzb,hz0,-,htk⟩:=htm;simp only[F.op,F.num,F.name,F.kids] at hnm hzb hz0 htk;have hkm':kc<=9223372036854775807:=hkm;have hkl2:kl<=9223372036854775807:=Nat.le_trans hkc hkm;have hlen2:l.length+((wd o).length+((numT o z).length+((namT nm).length+(txK ks).length)))<=1000000:=by have h:=hlen;rw[txF,lsa,lsa,lsa] at h;omega
 have HN:=Lib.hid hkl;have HX:=Lib.hid hk;have HZ:=Lib.hid hz;have HT:=Lib.hid ht;have HTK:=Lib.hid htk;have HRS:=Lib.hid hrs;have HLEN:=Lib.hid hlen2;have HQU:=Lib.hid HQ;have HIH:=Lib.hid IH;have HOR:=Lib.hid hor;have HB0:=Lib.hid hB;have HW:=Lib.hid hbw;have HBL:=Lib.hid hbl;have HBS:Hid (B<=w.heap.size):=Lib.hid hBw;have HBB:=Lib.hid (Below.refl B w);have HFR:=Lib.hid (FrB.refl w);have HTXF:Hid (txF (.node o z nm ks)=wd o++(numT o z++(namT nm++txK ks))):=Lib.hid (by rw[txF]);clear hf ht hrt hB hbw hbl hBw hlen hlen2 hkl hk hz hrs htk HQ IH;have hn1:nm=⟨#[]⟩:=by unfold NmOk at hnm;rw[if_neg (by omega),if_neg (by omega),if_neg (by omega)] at hnm;exact hnm
 subst hn1;have HNA:Hid (namT ⟨#[]⟩=[]):=Lib.hid rfl;have hob:(o==0)=false:=beq_eq_false_iff_ne.2 (by omega);subst hzz;have HNL:Hid (numT o 0=[]):=Lib.hid (if_neg (by omega));have HSG:Hid (sgnZ 0=0):=Lib.hid rfl;have hkp:kl≠0:=by rw[HN.out];exact hks
 have hkb:(((kl:Nat):Int)==0)=false:=beq_eq_false_iff_ne.2 (by omega);clear hks;clear hfit hnm hzb hz0 hor hkc hkm;clear ho;go_enter Tryz.func47,Tryz.ntmps47
 obtain⟨x1,kf,ef,ekf,hbf,hkf,HBf⟩:=newV w #[.int .i64 o,.bool b2,.slice ao la c,.string ⟨#[]⟩,.slice ko kl kc] 29;replace HW:=Lib.hid (HW.out.trans (hbf.out.mono HW.out.size));replace HBL:=Lib.hid (HBL.out.below hbf.out);replace HBB:=Lib.hid (bb_trans HBB.out HBS.out hbf.out);replace HFR:=Lib.hid (HFR.out.trans (fr_below hbf.out));replace HBS:=Lib.hid (Nat.le_trans HBS.out hbf.out.size);have c0:=cell_at (v:=.int .i64 o) HBf.out 0 rfl;have fc0:=froz_at HBf.out 0;have c1:=cell_at (v:=.bool b2) HBf.out 1 rfl;have fc1:=froz_at HBf.out 1;have c2:=cell_at (v:=.slice ao la c) HBf.out 2 rfl;have fc2:=froz_at HBf.out 2;have c3:=cell_at (v:=.string ⟨#[]⟩) HBf.out 3 rfl;have fc3:=froz_at HBf.out 3;have c4:=cell_at (v:=.slice ko kl kc) HBf.out 4 rfl;have fc4:=froz_at HBf.out 4;go_wp2_with fail
 refine (word_p o HOR.out.1 HOR.out.2 x1 (HT.out.below HW.out)).mono ?_;rintro e x2 ⟨rfl,hb⟩;clear c0 fc0 c1 fc1 c2 fc2 c3 fc3 c4 fc4;replace HBf:=kBV hb HBf;replace HW:=Lib.hid (HW.out.trans (hb.mono HW.out.size));replace HBL:=Lib.hid (HBL.out.below hb);replace HBB:=Lib.hid (bb_trans HBB.out HBS.out hb);replace HFR:=Lib.hid (HFR.out.trans (fr_below hb));replace HBS:=Lib.hid (Nat.le_trans HBS.out hb.size);clear hb;go_wp2_with fail
 refine (bw_str B b l (wd o) x2 HBL.out (by have:=HLEN.out;omega) HBS.out).mono ?_;rintro e x3 ⟨⟨v,rfl⟩,hbl,hb,hfr⟩;replace HBf:=Lib.hid (hfr _ _ _ _ HBf.out (by decide) (by decide));replace HW:=Lib.hid (HW.out.trans (hb.mono HB0.out));replace HBB:=Lib.hid (HBB.out.trans hb);replace HFR:=Lib.hid (HFR.out.trans hfr);replace HBS:Hid (B<=x3.heap.size):=Lib.hid (Nat.le_trans HBS.out hb.size);replace HBL:=Lib.hid hbl;clear hbl hb hfr;have c0:=cell_at (v:=.int .i64 o) HBf.out 0 rfl;have fc0:=froz_at HBf.out 0;have c1:=cell_at (v:=.bool b2) HBf.out 1 rfl;have fc1:=froz_at HBf.out 1;have c2:=cell_at (v:=.slice ao la c) HBf.out 2 rfl;have fc2:=froz_at HBf.out 2;have c3:=cell_at (v:=.string ⟨#[]⟩) HBf.out 3 rfl;have fc3:=froz_at HBf.out 3;have c4:=cell_at (v:=.slice ko kl kc) HBf.out 4 rfl;have fc4:=froz_at HBf.out 4;go_wp2_with fail
 refine (wsign_any _ 0 600 x3 ((HZ.out.below HW.out).gi) (by decide)).mono ?_;rintro e x4 ⟨rfl,hb⟩;clear c0 fc0 c1 fc1 c2 fc2 c3 fc3 c4 fc4;replace HBf:=kBV hb HBf;replace HW:=Lib.hid (HW.out.trans (hb.mono HW.out.size));replace HBL:=Lib.hid (HBL.out.below hb);replace HBB:=Lib.hid (bb_trans HBB.out HBS.out hb);replace HFR:=Lib.hid (HFR.out.trans (fr_below hb));replace HBS:=Lib.hid (Nat.le_trans HBS.out hb.size);clear hb;rw[HSG.out];have c0:=cell_at (v:=.int .i64 o) HBf.out 0 rfl;have fc0:=froz_at HBf.out 0;have c1:=cell_at (v:=.bool b2) HBf.out 1 rfl;have fc1:=froz_at HBf.out 1;have c2:=cell_at (v:=.slice ao la c) HBf.out 2 rfl;have fc2:=froz_at HBf.out 2;have c3:=cell_at (v:=.string ⟨#[]⟩) HBf.out 3 rfl;have fc3:=froz_at HBf.out 3;have c4:=cell_at (v:=.slice ko kl kc) HBf.out 4 rfl;have fc4:=froz_at HBf.out 4;go_wp2_with fail
 clear c0 fc0 c1 fc1 c2 fc2 c3 fc3 c4 fc4;obtain⟨L,hL⟩:∃ L,L=l++wd o:=⟨_,rfl⟩
 rw[<-hL] at HBL;have HLL:Hid (l++txF (.node o 0 ⟨#[]⟩ ks)=L++txK ks):=Lib.hid (by rw[HTXF.out,HNL.out,HNA.out,hL];simp);have HLN:Hid (L.length+(txK ks).length<=1000000):=Lib.hid (by have h3:=congrArg List.length HLL.out;rw[lsa,lsa] at h3;have h4:=HLEN.out;have h5:=congrArg List.length HTXF.out;rw[lsa,lsa,lsa] at h5;omega);clear hL;replace HBL:Hid (Bld B b (L++txJ ks 0) x4):=Lib.hid (by rw[txJ_zero,List.append_nil];exact HBL.out)
 go_loopw [44] (fun i wr=>∃ j:Nat,i=.int .i64 (j:Nat)/\j<=kl/\Hid (Bld B b (L++txJ ks j) wr)/\Hid (Below B w wr)/\Hid (FrB w wr)/\Hid (Below w0.heap.size w0 wr)/\Hid (B<=wr.heap.size)) (fun i _=>kl - (intOf i).toNat)
 case atStart=>exact⟨0,rfl,Nat.zero_le _,HBL,HBB,HFR,HW,HBS⟩
 case round =>
  obtain⟨wl,hwl⟩:∃ q,q=wr:=⟨_,rfl⟩
  subst hwl;clear HBL HBB HFR HW HBS;obtain⟨j,rfl,hj,HBL,HBB,HFR,HW,HBS⟩:=hrel
  by_cases hlt:j<kl
  ·have hjs:j<ks.length:=by rw[<-HN.out];exact hlt
   have HJS:=Lib.hid hjs;obtain⟨m,hm1,hm2⟩:=txJ_step ks j hjs;have HM:=Lib.hid hm1;have hle1:=txJ_le ks (j+1) hjs (by omega);have HLE:=Lib.hid hle1;have hin:(ks[j]'hjs) ∈ ks:=List.getElem_mem hjs;have HIN:=Lib.hid hin;obtain⟨kd,hkd⟩:∃ y,y=(ks[j]'hjs):=⟨_,rfl⟩
   rw[<-hkd] at HM HIN;have HKD:Hid (kd=ks[j]'HJS.out):=Lib.hid hkd;obtain⟨a,bb,qo,ql,qc,po,pl,pc,rfl,hcel,hfk⟩:=HX.out.cells j hjs;rw[<-hkd] at hcel hfk;obtain⟨x,hxx⟩:∃ x,x=kd.op:=⟨_,rfl⟩
   obtain⟨ym,hym⟩:∃ x,x=kd.name:=⟨_,rfl⟩
   rw[<-hxx,<-hym] at hcel hfk;have HFK:=Lib.hid hfk;obtain⟨c0,c1,c2,c3,c4⟩:=hcel;rw[<-HW.out.cell (cell_lt c0)] at c0;rw[<-HW.out.cell (cell_lt c1)] at c1;rw[<-HW.out.cell (cell_lt c2)] at c2;rw[<-HW.out.cell (cell_lt c3)] at c3;rw[<-HW.out.cell (cell_lt c4)] at c4;clear hm1 hle1 hin hkd hfk hxx hym hjs;obtain⟨x5,k7,e7,ek7,hb7,hk7,HB7⟩:=newV wl #[.int .i64 x,.bool bb,.slice qo ql qc,.string ym,.slice po pl pc] 29;replace HW:=Lib.hid (HW.out.trans (hb7.out.mono HW.out.size));replace HBL:=Lib.hid (HBL.out.below hb7.out);replace HBB:=Lib.hid (bb_trans HBB.out HBS.out hb7.out);replace HFR:=Lib.hid (HFR.out.trans (fr_below hb7.out));replace HBS:=Lib.hid (Nat.le_trans HBS.out hb7.out.size);rcases hm2 with ⟨rfl,rfl⟩ | ⟨hj0,rfl⟩
   ·simp only[Nat.zero_mul,add0B] at c0 c1 c2 c3 c4;have g0:=cell_at (v:=.int .i64 x) HB7.out 0 rfl;have fg0:=froz_at HB7.out 0;have g1:=cell_at (v:=.bool bb) HB7.out 1 rfl;have fg1:=froz_at HB7.out 1;have g2:=cell_at (v:=.slice qo ql qc) HB7.out 2 rfl;have fg2:=froz_at HB7.out 2;have g3:=cell_at (v:=.string ym) HB7.out 3 rfl;have fg3:=froz_at HB7.out 3;have g4:=cell_at (v:=.slice po pl pc) HB7.out 4 rfl;have fg4:=froz_at HB7.out 4;go_wp2_with fail
    refine (bw_byte B b (L++txJ ks 0) 40 40 rfl x5 HBL.out (by rw[lsa];have h3:=HLE.out;have h4:=congrArg List.length HM.out;rw[lsa,lsa] at h4;have h5:=HLN.out;simp only[lsa,lsc,lsn] at *;omega) HBS.out).mono ?_;rintro e x6 ⟨⟨v,rfl⟩,hbl,hb,hfr⟩;clear g0 fg0 g1 fg1 g2 fg2 g3 fg3 g4 fg4;replace HB7:=Lib.hid (hfr _ _ _ _ HB7.out (by decide) (by decide));replace HW:=Lib.hid (HW.out.trans (hb.mono HB0.out));replace HBB:=Lib.hid (HBB.out.trans hb);replace HFR:=Lib.hid (HFR.out.trans hfr);replace HBS:Hid (B<=x6.heap.size):=Lib.hid (Nat.le_trans HBS.out hb.size);replace HBL:=Lib.hid hbl;clear hbl hb hfr;have g0:=cell_at (v:=.int .i64 x) HB7.out 0 rfl;have fg0:=froz_at HB7.out 0;have g1:=cell_at (v:=.bool bb) HB7.out 1 rfl;have fg1:=froz_at HB7.out 1;have g2:=cell_at (v:=.slice qo ql qc) HB7.out 2 rfl;have fg2:=froz_at HB7.out 2
    have g3:=cell_at (v:=.string ym) HB7.out 3 rfl;have fg3:=froz_at HB7.out 3;have g4:=cell_at (v:=.slice po pl pc) HB7.out 4 rfl;have fg4:=froz_at HB7.out 4;clear c0 c1 c2 c3 c4;go_wp2_with fail
    refine (HIH.out w0 x6 _ kd B b (L++txJ ks 0++[40]) HFK.out HT.out (HRS.out kd HIN.out) (HTK.out kd HIN.out) HB0.out HW.out HBL.out HBS.out (by rw[lsa,lsa];have h3:=HLE.out;have h4:=congrArg List.length HM.out;rw[lsa,lsa] at h4;have h5:=HLN.out;simp only[lsa,lsc,lsn] at *;omega)).mono ?_;rintro e x7 ⟨⟨v,rfl⟩,hbl,hb,hfr⟩;clear g0 fg0 g1 fg1 g2 fg2 g3 fg3 g4 fg4;replace HB7:=Lib.hid (hfr _ _ _ _ HB7.out (by decide) (by decide));replace HW:=Lib.hid (HW.out.trans (hb.mono HB0.out));replace HBB:=Lib.hid (HBB.out.trans hb);replace HFR:=Lib.hid (HFR.out.trans hfr);replace HBS:Hid (B<=x7.heap.size):=Lib.hid (Nat.le_trans HBS.out hb.size);replace HBL:=Lib.hid hbl;clear hbl hb hfr;go_wp2_with fail
    go_roundw
    case rel=>exact⟨1,by go_num,hlt,Lib.hid (by rw[HM.out];simpa using HBL.out),HBB,HFR,HW,HBS⟩
    case measure=>simp[intOf];omega
   have hjn:(((j:Nat):Int)==0)=false:=beq_eq_false_iff_ne.2 (by omega);clear hj0;have g0:=cell_at (v:=.int .i64 x) HB7.out 0 rfl;have fg0:=froz_at HB7.out 0;have g1:=cell_at (v:=.bool bb) HB7.out 1 rfl;have fg1:=froz_at HB7.out 1;have g2:=cell_at (v:=.slice qo ql qc) HB7.out 2 rfl;have fg2:=froz_at HB7.out 2;have g3:=cell_at (v:=.string ym) HB7.out 3 rfl;have fg3:=froz_at HB7.out 3;have g4:=cell_at (v:=.slice po pl pc) HB7.out 4 rfl;have fg4:=froz_at HB7.out 4;go_wp2_with fail
   refine (bw_str B b (L++txJ ks j) [44,32] x5 HBL.out (by rw[lsa];have h3:=HLE.out;have h4:=congrArg List.length HM.out;rw[lsa,lsa] at h4;have h5:=HLN.out;simp only[lsa,lsc,lsn] at *;omega) HBS.out).mono ?_;rintro e x6 ⟨⟨v,rfl⟩,hbl,hb,hfr⟩;clear g0 fg0 g1 fg1 g2 fg2 g3 fg3 g4 fg4;replace HB7:=Lib.hid (hfr _ _ _ _ HB7.out (by decide) (by decide));replace HW:=Lib.hid (HW.out.trans (hb.mono HB0.out));replace HBB:=Lib.hid (HBB.out.trans hb);replace HFR:=Lib.hid (HFR.out.trans hfr);replace HBS:Hid (B<=x6.heap.size):=Lib.hid (Nat.le_trans HBS.out hb.size);replace HBL:=Lib.hid hbl;clear hbl hb hfr;have g0:=cell_at (v:=.int .i64 x) HB7.out 0 rfl;have fg0:=froz_at HB7.out 0;have g1:=cell_at (v:=.bool bb) HB7.out 1 rfl;have fg1:=froz_at HB7.out 1;have g2:=cell_at (v:=.slice qo ql qc) HB7.out 2 rfl;have fg2:=froz_at HB7.out 2
   have g3:=cell_at (v:=.string ym) HB7.out 3 rfl;have fg3:=froz_at HB7.out 3;have g4:=cell_at (v:=.slice po pl pc) HB7.out 4 rfl;have fg4:=froz_at HB7.out 4;clear c0 c1 c2 c3 c4;go_wp2_with fail
   refine (HIH.out w0 x6 _ kd B b (L++txJ ks j++[44,32]) HFK.out HT.out (HRS.out kd HIN.out) (HTK.out kd HIN.out) HB0.out HW.out HBL.out HBS.out (by rw[lsa,lsa];have h3:=HLE.out;have h4:=congrArg List.length HM.out;rw[lsa,lsa] at h4;have h5:=HLN.out;simp only[lsa,lsc,lsn] at *;omega)).mono ?_;rintro e x7 ⟨⟨v,rfl⟩,hbl,hb,hfr⟩;clear g0 fg0 g1 fg1 g2 fg2 g3 fg3 g4 fg4;replace HB7:=Lib.hid (hfr _ _ _ _ HB7.out (by decide) (by decide));replace HW:=Lib.hid (HW.out.trans (hb.mono HB0.out));replace HBB:=Lib.hid (HBB.out.trans hb);replace HFR:=Lib.hid (HFR.out.trans hfr);replace HBS:Hid (B<=x7.heap.size):=Lib.hid (Nat.le_trans HBS.out hb.size);replace HBL:=Lib.hid hbl;clear hbl hb hfr;go_wp2_with fail
   go_roundw
   case rel=>exact⟨j+1,by go_num,hlt,Lib.hid (by rw[HM.out];simpa using HBL.out),HBB,HFR,HW,HBS⟩
   case measure=>simp[intOf];omega
  have hjk:j=kl:=by omega
  have HJK:Hid (txJ ks j++[41]=txK ks):=Lib.hid (by have h4:=txJ_all ks (by rw[<-HN.out];omega);rw[<-HN.out,<-hjk] at h4;exact h4);clear hjk;go_wp2_with fail
  refine (bw_byte B b (L++txJ ks j) 41 41 rfl wl HBL.out (by rw[lsa];have h3:=congrArg List.length HJK.out;rw[lsa] at h3;have h5:=HLN.out;omega) HBS.out).mono ?_;rintro e x5 ⟨⟨v,rfl⟩,hbl,hb,hfr⟩;replace HW:=Lib.hid (HW.out.trans (hb.mono HB0.out));replace HBB:=Lib.hid (HBB.out.trans hb);replace HFR:=Lib.hid (HFR.out.trans hfr);replace HBS:Hid (B<=x5.heap.size):=Lib.hid (Nat.le_trans HBS.out hb.size);replace HBL:=Lib.hid hbl;clear hbl hb hfr;go_wp2_with fail
  go_end0
  exact⟨⟨_,rfl⟩,by rw[HLL.out,<-HJK.out,<-List.append_assoc];exact HBL.out,HBB.out,HFR.out⟩
theorem write_nk (HQ:QuoteC) (d:Nat) (IH:WriteC d) (w0 w:World) (v:Value) (t:F) (B b:Nat) (l:Bs) (ho:t.op≠0/\t.op≠1/\t.op≠8/\t.op≠14) (hzz:t.num≠0) (hks:t.kids.length≠0):FC w0 tS (d+1) v t->TxT w0->rt t=true->Tm (d+1) t->w0.heap.size<=B->Below w0.heap.size w0 w->Bld B b l w->B<=w.heap.size->l.length+(txF t).length<=1000000 ->
  Calls Tryz.prog 47 #[.pointer (some ⟨b,0,none⟩),v] w (BwPost B b (l++txF t) w):=by
 intro hf ht hrt htm hB hbw hbl hBw hlen;obtain⟨b2,ao,la,c,ko,kl,kc,rfl,⟨-,hz,hkl,hkc,hkm⟩,-,hk⟩:=hf.open;obtain⟨o,z,nm,ks⟩:=t;simp only[F.op,F.num,F.name,F.kids] at hz hk hkl ho hzz hks ⊢;rw[show d+1 - 1=d from rfl] at hk;obtain⟨hfit,hrs⟩:=rt_node hrt;have hor:=fit_range hfit;obtain⟨hnm,hzb,hz0,-,htk⟩:=htm;simp only[F.op,F.num,F.name,F.kids] at hnm hzb hz0 htk;have hkm':kc<=9223372036854775807:=hkm;have hkl2:kl<=9223372036854775807:=Nat.le_trans hkc hkm;have hlen2:l.length+((wd o).length+((numT o z).length+((namT nm).length+(txK ks).length)))<=1000000:=by have h:=hlen;rw[txF,lsa,lsa,lsa] at h;omega
 have HN:=Lib.hid hkl;have HX:=Lib.hid hk;have HZ:=Lib.hid hz;have HT:=Lib.hid ht;have HTK:=Lib.hid htk;have HRS:=Lib.hid hrs;have HLEN:=Lib.hid hlen2;have HQU:=Lib.hid HQ;have HIH:=Lib.hid IH;have HOR:=Lib.hid hor;have HB0:=Lib.hid hB;have HW:=Lib.hid hbw;have HBL:=Lib.hid hbl;have HBS:Hid (B<=w.heap.size):=Lib.hid hBw;have HBB:=Lib.hid (Below.refl B w);have HFR:=Lib.hid (FrB.refl w);have HTXF:Hid (txF (.node o z nm ks)=wd o++(numT o z++(namT nm++txK ks))):=Lib.hid (by rw[txF]);clear hf ht hrt hB hbw hbl hBw hlen hlen2 hkl hk hz hrs htk HQ IH;have hn1:nm=⟨#[]⟩:=by unfold NmOk at hnm;rw[if_neg (by omega),if_neg (by omega),if_neg (by omega)] at hnm;exact hnm
 subst hn1;have HNA:Hid (namT ⟨#[]⟩=[]):=Lib.hid rfl;have hob:(o==0)=false:=beq_eq_false_iff_ne.2 (by omega);have HNL:Hid (numT o z=32::zText z):=Lib.hid (if_pos (.inr hzz));obtain⟨sg1,hsg1⟩:∃ s,s=sgnZ z:=⟨_,rfl⟩
 have hsn:(sg1==0)=false:=beq_eq_false_iff_ne.2 (by rw[hsg1];unfold sgnZ;(repeat' split)<;>omega);have HSG:Hid (sgnZ z=sg1):=Lib.hid hsg1.symm;clear hsg1;have hkp:kl≠0:=by rw[HN.out];exact hks
 have hkb:(((kl:Nat):Int)==0)=false:=beq_eq_false_iff_ne.2 (by omega);clear hks;clear hfit hnm hzb hz0 hor hkc hkm;clear ho hzz;go_enter Tryz.func47,Tryz.ntmps47
 obtain⟨x1,kf,ef,ekf,hbf,hkf,HBf⟩:=newV w #[.int .i64 o,.bool b2,.slice ao la c,.string ⟨#[]⟩,.slice ko kl kc] 29;replace HW:=Lib.hid (HW.out.trans (hbf.out.mono HW.out.size));replace HBL:=Lib.hid (HBL.out.below hbf.out);replace HBB:=Lib.hid (bb_trans HBB.out HBS.out hbf.out);replace HFR:=Lib.hid (HFR.out.trans (fr_below hbf.out));replace HBS:=Lib.hid (Nat.le_trans HBS.out hbf.out.size);have c0:=cell_at (v:=.int .i64 o) HBf.out 0 rfl;have fc0:=froz_at HBf.out 0;have c1:=cell_at (v:=.bool b2) HBf.out 1 rfl;have fc1:=froz_at HBf.out 1;have c2:=cell_at (v:=.slice ao la c) HBf.out 2 rfl;have fc2:=froz_at HBf.out 2;have c3:=cell_at (v:=.string ⟨#[]⟩) HBf.out 3 rfl;have fc3:=froz_at HBf.out 3;have c4:=cell_at (v:=.slice ko kl kc) HBf.out 4 rfl;have fc4:=froz_at HBf.out 4;go_wp2_with fail
 refine (word_p o HOR.out.1 HOR.out.2 x1 (HT.out.below HW.out)).mono ?_;rintro e x2 ⟨rfl,hb⟩;clear c0 fc0 c1 fc1 c2 fc2 c3 fc3 c4 fc4;replace HBf:=kBV hb HBf;replace HW:=Lib.hid (HW.out.trans (hb.mono HW.out.size));replace HBL:=Lib.hid (HBL.out.below hb);replace HBB:=Lib.hid (bb_trans HBB.out HBS.out hb);replace HFR:=Lib.hid (HFR.out.trans (fr_below hb));replace HBS:=Lib.hid (Nat.le_trans HBS.out hb.size);clear hb;go_wp2_with fail
 refine (bw_str B b l (wd o) x2 HBL.out (by have:=HLEN.out;omega) HBS.out).mono ?_;rintro e x3 ⟨⟨v,rfl⟩,hbl,hb,hfr⟩;replace HBf:=Lib.hid (hfr _ _ _ _ HBf.out (by decide) (by decide));replace HW:=Lib.hid (HW.out.trans (hb.mono HB0.out));replace HBB:=Lib.hid (HBB.out.trans hb);replace HFR:=Lib.hid (HFR.out.trans hfr);replace HBS:Hid (B<=x3.heap.size):=Lib.hid (Nat.le_trans HBS.out hb.size);replace HBL:=Lib.hid hbl;clear hbl hb hfr;have c0:=cell_at (v:=.int .i64 o) HBf.out 0 rfl;have fc0:=froz_at HBf.out 0;have c1:=cell_at (v:=.bool b2) HBf.out 1 rfl;have fc1:=froz_at HBf.out 1;have c2:=cell_at (v:=.slice ao la c) HBf.out 2 rfl;have fc2:=froz_at HBf.out 2;have c3:=cell_at (v:=.string ⟨#[]⟩) HBf.out 3 rfl;have fc3:=froz_at HBf.out 3;have c4:=cell_at (v:=.slice ko kl kc) HBf.out 4 rfl;have fc4:=froz_at HBf.out 4;go_wp2_with fail
 refine (wsign_any _ z 600 x3 ((HZ.out.below HW.out).gi) (by decide)).mono ?_;rintro e x4 ⟨rfl,hb⟩;clear c0 fc0 c1 fc1 c2 fc2 c3 fc3 c4 fc4;replace HBf:=kBV hb HBf;replace HW:=Lib.hid (HW.out.trans (hb.mono HW.out.size));replace HBL:=Lib.hid (HBL.out.below hb);replace HBB:=Lib.hid (bb_trans HBB.out HBS.out hb);replace HFR:=Lib.hid (HFR.out.trans (fr_below hb));replace HBS:=Lib.hid (Nat.le_trans HBS.out hb.size);clear hb;rw[HSG.out];have c0:=cell_at (v:=.int .i64 o) HBf.out 0 rfl;have fc0:=froz_at HBf.out 0;have c1:=cell_at (v:=.bool b2) HBf.out 1 rfl;have fc1:=froz_at HBf.out 1;have c2:=cell_at (v:=.slice ao la c) HBf.out 2 rfl;have fc2:=froz_at HBf.out 2;have c3:=cell_at (v:=.string ⟨#[]⟩) HBf.out 3 rfl;have fc3:=froz_at HBf.out 3;have c4:=cell_at (v:=.slice ko kl kc) HBf.out 4 rfl;have fc4:=froz_at HBf.out 4;go_wp2_with fail
 refine (bw_byte B b (l++wd o) 32 32 rfl x4 HBL.out (by have:=HLEN.out;have h3:=HNL.out;rw[h3] at this;rw[lsa];simp only[lsc] at this;omega) HBS.out).mono ?_;rintro e x5 ⟨⟨v,rfl⟩,hbl,hb,hfr⟩;clear c0 fc0 c1 fc1 c2 fc2 c3 fc3 c4 fc4;replace HBf:=Lib.hid (hfr _ _ _ _ HBf.out (by decide) (by decide));replace HW:=Lib.hid (HW.out.trans (hb.mono HB0.out));replace HBB:=Lib.hid (HBB.out.trans hb);replace HFR:=Lib.hid (HFR.out.trans hfr);replace HBS:Hid (B<=x5.heap.size):=Lib.hid (Nat.le_trans HBS.out hb.size);replace HBL:=Lib.hid hbl;clear hbl hb hfr;have c0:=cell_at (v:=.int .i64 o) HBf.out 0 rfl;have fc0:=froz_at HBf.out 0;have c1:=cell_at (v:=.bool b2) HBf.out 1 rfl;have fc1:=froz_at HBf.out 1;have c2:=cell_at (v:=.slice ao la c) HBf.out 2 rfl;have fc2:=froz_at HBf.out 2;have c3:=cell_at (v:=.string ⟨#[]⟩) HBf.out 3 rfl
 have fc3:=froz_at HBf.out 3;have c4:=cell_at (v:=.slice ko kl kc) HBf.out 4 rfl;have fc4:=froz_at HBf.out 4;go_wp2_with fail
 refine (wtext_any _ z 600 x5 (HT.out.below HW.out).p10 ((HZ.out.below HW.out).gi) (by decide)).mono ?_;rintro e x6 ⟨rfl,hb⟩;clear c0 fc0 c1 fc1 c2 fc2 c3 fc3 c4 fc4;replace HBf:=kBV hb HBf;replace HW:=Lib.hid (HW.out.trans (hb.mono HW.out.size));replace HBL:=Lib.hid (HBL.out.below hb);replace HBB:=Lib.hid (bb_trans HBB.out HBS.out hb);replace HFR:=Lib.hid (HFR.out.trans (fr_below hb));replace HBS:=Lib.hid (Nat.le_trans HBS.out hb.size);clear hb;go_wp2_with fail
 refine (bw_str B b (l++wd o++[32]) (zText z) x6 HBL.out (by have:=HLEN.out;have h3:=HNL.out;rw[h3] at this;rw[lsa,lsa];simp only[lsc,lsn] at this ⊢;omega) HBS.out).mono ?_;rintro e x7 ⟨⟨v,rfl⟩,hbl,hb,hfr⟩;replace HBf:=Lib.hid (hfr _ _ _ _ HBf.out (by decide) (by decide));replace HW:=Lib.hid (HW.out.trans (hb.mono HB0.out));replace HBB:=Lib.hid (HBB.out.trans hb);replace HFR:=Lib.hid (HFR.out.trans hfr);replace HBS:Hid (B<=x7.heap.size):=Lib.hid (Nat.le_trans HBS.out hb.size);replace HBL:=Lib.hid hbl;clear hbl hb hfr;have c0:=cell_at (v:=.int .i64 o) HBf.out 0 rfl;have fc0:=froz_at HBf.out 0;have c1:=cell_at (v:=.bool b2) HBf.out 1 rfl;have fc1:=froz_at HBf.out 1;have c2:=cell_at (v:=.slice ao la c) HBf.out 2 rfl;have fc2:=froz_at HBf.out 2;have c3:=cell_at (v:=.string ⟨#[]⟩) HBf.out 3 rfl;have fc3:=froz_at HBf.out 3
 have c4:=cell_at (v:=.slice ko kl kc) HBf.out 4 rfl;have fc4:=froz_at HBf.out 4;go_wp2_with fail
 clear c0 fc0 c1 fc1 c2 fc2 c3 fc3 c4 fc4;obtain⟨L,hL⟩:∃ L,L=l++wd o++[32]++zText z:=⟨_,rfl⟩
 rw[<-hL] at HBL;have HLL:Hid (l++txF (.node o z ⟨#[]⟩ ks)=L++txK ks):=Lib.hid (by rw[HTXF.out,HNL.out,HNA.out,hL];simp);have HLN:Hid (L.length+(txK ks).length<=1000000):=Lib.hid (by have h3:=congrArg List.length HLL.out;rw[lsa,lsa] at h3;have h4:=HLEN.out;have h5:=congrArg List.length HTXF.out;rw[lsa,lsa,lsa] at h5;omega);clear hL;replace HBL:Hid (Bld B b (L++txJ ks 0) x7):=Lib.hid (by rw[txJ_zero,List.append_nil];exact HBL.out)
 go_loopw [44] (fun i wr=>∃ j:Nat,i=.int .i64 (j:Nat)/\j<=kl/\Hid (Bld B b (L++txJ ks j) wr)/\Hid (Below B w wr)/\Hid (FrB w wr)/\Hid (Below w0.heap.size w0 wr)/\Hid (B<=wr.heap.size)) (fun i _=>kl - (intOf i).toNat)
 case atStart=>exact⟨0,rfl,Nat.zero_le _,HBL,HBB,HFR,HW,HBS⟩
 case round =>
  obtain⟨wl,hwl⟩:∃ q,q=wr:=⟨_,rfl⟩
  subst hwl;clear HBL HBB HFR HW HBS;obtain⟨j,rfl,hj,HBL,HBB,HFR,HW,HBS⟩:=hrel
  by_cases hlt:j<kl
  ·have hjs:j<ks.length:=by rw[<-HN.out];exact hlt
   have HJS:=Lib.hid hjs;obtain⟨m,hm1,hm2⟩:=txJ_step ks j hjs;have HM:=Lib.hid hm1;have hle1:=txJ_le ks (j+1) hjs (by omega);have HLE:=Lib.hid hle1;have hin:(ks[j]'hjs) ∈ ks:=List.getElem_mem hjs;have HIN:=Lib.hid hin;obtain⟨kd,hkd⟩:∃ y,y=(ks[j]'hjs):=⟨_,rfl⟩
   rw[<-hkd] at HM HIN;have HKD:Hid (kd=ks[j]'HJS.out):=Lib.hid hkd;obtain⟨a,bb,qo,ql,qc,po,pl,pc,rfl,hcel,hfk⟩:=HX.out.cells j hjs;rw[<-hkd] at hcel hfk;obtain⟨x,hxx⟩:∃ x,x=kd.op:=⟨_,rfl⟩
   obtain⟨ym,hym⟩:∃ x,x=kd.name:=⟨_,rfl⟩
   rw[<-hxx,<-hym] at hcel hfk;have HFK:=Lib.hid hfk;obtain⟨c0,c1,c2,c3,c4⟩:=hcel;rw[<-HW.out.cell (cell_lt c0)] at c0;rw[<-HW.out.cell (cell_lt c1)] at c1;rw[<-HW.out.cell (cell_lt c2)] at c2;rw[<-HW.out.cell (cell_lt c3)] at c3;rw[<-HW.out.cell (cell_lt c4)] at c4;clear hm1 hle1 hin hkd hfk hxx hym hjs;obtain⟨x8,k7,e7,ek7,hb7,hk7,HB7⟩:=newV wl #[.int .i64 x,.bool bb,.slice qo ql qc,.string ym,.slice po pl pc] 29;replace HW:=Lib.hid (HW.out.trans (hb7.out.mono HW.out.size));replace HBL:=Lib.hid (HBL.out.below hb7.out);replace HBB:=Lib.hid (bb_trans HBB.out HBS.out hb7.out);replace HFR:=Lib.hid (HFR.out.trans (fr_below hb7.out));replace HBS:=Lib.hid (Nat.le_trans HBS.out hb7.out.size);rcases hm2 with ⟨rfl,rfl⟩ | ⟨hj0,rfl⟩
   ·simp only[Nat.zero_mul,add0B] at c0 c1 c2 c3 c4;have g0:=cell_at (v:=.int .i64 x) HB7.out 0 rfl;have fg0:=froz_at HB7.out 0;have g1:=cell_at (v:=.bool bb) HB7.out 1 rfl;have fg1:=froz_at HB7.out 1;have g2:=cell_at (v:=.slice qo ql qc) HB7.out 2 rfl;have fg2:=froz_at HB7.out 2;have g3:=cell_at (v:=.string ym) HB7.out 3 rfl;have fg3:=froz_at HB7.out 3;have g4:=cell_at (v:=.slice po pl pc) HB7.out 4 rfl;have fg4:=froz_at HB7.out 4;go_wp2_with fail
    refine (bw_byte B b (L++txJ ks 0) 40 40 rfl x8 HBL.out (by rw[lsa];have h3:=HLE.out;have h4:=congrArg List.length HM.out;rw[lsa,lsa] at h4;have h5:=HLN.out;simp only[lsa,lsc,lsn] at *;omega) HBS.out).mono ?_;rintro e x9 ⟨⟨v,rfl⟩,hbl,hb,hfr⟩;clear g0 fg0 g1 fg1 g2 fg2 g3 fg3 g4 fg4;replace HB7:=Lib.hid (hfr _ _ _ _ HB7.out (by decide) (by decide));replace HW:=Lib.hid (HW.out.trans (hb.mono HB0.out));replace HBB:=Lib.hid (HBB.out.trans hb);replace HFR:=Lib.hid (HFR.out.trans hfr);replace HBS:Hid (B<=x9.heap.size):=Lib.hid (Nat.le_trans HBS.out hb.size);replace HBL:=Lib.hid hbl;clear hbl hb hfr;have g0:=cell_at (v:=.int .i64 x) HB7.out 0 rfl;have fg0:=froz_at HB7.out 0;have g1:=cell_at (v:=.bool bb) HB7.out 1 rfl;have fg1:=froz_at HB7.out 1;have g2:=cell_at (v:=.slice qo ql qc) HB7.out 2 rfl;have fg2:=froz_at HB7.out 2
    have g3:=cell_at (v:=.string ym) HB7.out 3 rfl;have fg3:=froz_at HB7.out 3;have g4:=cell_at (v:=.slice po pl pc) HB7.out 4 rfl;have fg4:=froz_at HB7.out 4;clear c0 c1 c2 c3 c4;go_wp2_with fail
    refine (HIH.out w0 x9 _ kd B b (L++txJ ks 0++[40]) HFK.out HT.out (HRS.out kd HIN.out) (HTK.out kd HIN.out) HB0.out HW.out HBL.out HBS.out (by rw[lsa,lsa];have h3:=HLE.out;have h4:=congrArg List.length HM.out;rw[lsa,lsa] at h4;have h5:=HLN.out;simp only[lsa,lsc,lsn] at *;omega)).mono ?_;rintro e x10 ⟨⟨v,rfl⟩,hbl,hb,hfr⟩;clear g0 fg0 g1 fg1 g2 fg2 g3 fg3 g4 fg4;replace HB7:=Lib.hid (hfr _ _ _ _ HB7.out (by decide) (by decide));replace HW:=Lib.hid (HW.out.trans (hb.mono HB0.out));replace HBB:=Lib.hid (HBB.out.trans hb);replace HFR:=Lib.hid (HFR.out.trans hfr);replace HBS:Hid (B<=x10.heap.size):=Lib.hid (Nat.le_trans HBS.out hb.size);replace HBL:=Lib.hid hbl;clear hbl hb hfr;go_wp2_with fail
    go_roundw
    case rel=>exact⟨1,by go_num,hlt,Lib.hid (by rw[HM.out];simpa using HBL.out),HBB,HFR,HW,HBS⟩
    case measure=>simp[intOf];omega
   have hjn:(((j:Nat):Int)==0)=false:=beq_eq_false_iff_ne.2 (by omega);clear hj0;have g0:=cell_at (v:=.int .i64 x) HB7.out 0 rfl;have fg0:=froz_at HB7.out 0;have g1:=cell_at (v:=.bool bb) HB7.out 1 rfl;have fg1:=froz_at HB7.out 1;have g2:=cell_at (v:=.slice qo ql qc) HB7.out 2 rfl;have fg2:=froz_at HB7.out 2;have g3:=cell_at (v:=.string ym) HB7.out 3 rfl;have fg3:=froz_at HB7.out 3;have g4:=cell_at (v:=.slice po pl pc) HB7.out 4 rfl;have fg4:=froz_at HB7.out 4;go_wp2_with fail
   refine (bw_str B b (L++txJ ks j) [44,32] x8 HBL.out (by rw[lsa];have h3:=HLE.out;have h4:=congrArg List.length HM.out;rw[lsa,lsa] at h4;have h5:=HLN.out;simp only[lsa,lsc,lsn] at *;omega) HBS.out).mono ?_;rintro e x9 ⟨⟨v,rfl⟩,hbl,hb,hfr⟩;clear g0 fg0 g1 fg1 g2 fg2 g3 fg3 g4 fg4;replace HB7:=Lib.hid (hfr _ _ _ _ HB7.out (by decide) (by decide));replace HW:=Lib.hid (HW.out.trans (hb.mono HB0.out));replace HBB:=Lib.hid (HBB.out.trans hb);replace HFR:=Lib.hid (HFR.out.trans hfr);replace HBS:Hid (B<=x9.heap.size):=Lib.hid (Nat.le_trans HBS.out hb.size);replace HBL:=Lib.hid hbl;clear hbl hb hfr;have g0:=cell_at (v:=.int .i64 x) HB7.out 0 rfl;have fg0:=froz_at HB7.out 0;have g1:=cell_at (v:=.bool bb) HB7.out 1 rfl;have fg1:=froz_at HB7.out 1;have g2:=cell_at (v:=.slice qo ql qc) HB7.out 2 rfl;have fg2:=froz_at HB7.out 2
   have g3:=cell_at (v:=.string ym) HB7.out 3 rfl;have fg3:=froz_at HB7.out 3;have g4:=cell_at (v:=.slice po pl pc) HB7.out 4 rfl;have fg4:=froz_at HB7.out 4;clear c0 c1 c2 c3 c4;go_wp2_with fail
   refine (HIH.out w0 x9 _ kd B b (L++txJ ks j++[44,32]) HFK.out HT.out (HRS.out kd HIN.out) (HTK.out kd HIN.out) HB0.out HW.out HBL.out HBS.out (by rw[lsa,lsa];have h3:=HLE.out;have h4:=congrArg List.length HM.out;rw[lsa,lsa] at h4;have h5:=HLN.out;simp only[lsa,lsc,lsn] at *;omega)).mono ?_;rintro e x10 ⟨⟨v,rfl⟩,hbl,hb,hfr⟩;clear g0 fg0 g1 fg1 g2 fg2 g3 fg3 g4 fg4;replace HB7:=Lib.hid (hfr _ _ _ _ HB7.out (by decide) (by decide));replace HW:=Lib.hid (HW.out.trans (hb.mono HB0.out));replace HBB:=Lib.hid (HBB.out.trans hb);replace HFR:=Lib.hid (HFR.out.trans hfr);replace HBS:Hid (B<=x10.heap.size):=Lib.hid (Nat.le_trans HBS.out hb.size);replace HBL:=Lib.hid hbl;clear hbl hb hfr;go_wp2_with fail
   go_roundw
   case rel=>exact⟨j+1,by go_num,hlt,Lib.hid (by rw[HM.out];simpa using HBL.out),HBB,HFR,HW,HBS⟩
   case measure=>simp[intOf];omega
  have hjk:j=kl:=by omega
  have HJK:Hid (txJ ks j++[41]=txK ks):=Lib.hid (by have h4:=txJ_all ks (by rw[<-HN.out];omega);rw[<-HN.out,<-hjk] at h4;exact h4);clear hjk;go_wp2_with fail
  refine (bw_byte B b (L++txJ ks j) 41 41 rfl wl HBL.out (by rw[lsa];have h3:=congrArg List.length HJK.out;rw[lsa] at h3;have h5:=HLN.out;omega) HBS.out).mono ?_;rintro e x8 ⟨⟨v,rfl⟩,hbl,hb,hfr⟩;replace HW:=Lib.hid (HW.out.trans (hb.mono HB0.out));replace HBB:=Lib.hid (HBB.out.trans hb);replace HFR:=Lib.hid (HFR.out.trans hfr);replace HBS:Hid (B<=x8.heap.size):=Lib.hid (Nat.le_trans HBS.out hb.size);replace HBL:=Lib.hid hbl;clear hbl hb hfr;go_wp2_with fail
  go_end0
  exact⟨⟨_,rfl⟩,by rw[HLL.out,<-HJK.out,<-List.append_assoc];exact HBL.out,HBB.out,HFR.out⟩
theorem write_z0 (HQ:QuoteC) (d:Nat) (IH:WriteC d) (w0 w:World) (v:Value) (t:F) (B b:Nat) (l:Bs) (ho:t.op≠0/\t.op≠1/\t.op≠8/\t.op≠14) (hzz:t.num=0) (hks:t.kids.length=0):FC w0 tS (d+1) v t->TxT w0->rt t=true->Tm (d+1) t->w0.heap.size<=B->Below w0.heap.size w0 w->Bld B b l w->B<=w.heap.size->l.length+(txF t).length<=1000000 ->
  Calls Tryz.prog 47 #[.pointer (some ⟨b,0,none⟩),v] w (BwPost B b (l++txF t) w):=by
 intro hf ht hrt htm hB hbw hbl hBw hlen;obtain⟨b2,ao,la,c,ko,kl,kc,rfl,⟨-,hz,hkl,hkc,hkm⟩,-,hk⟩:=hf.open;obtain⟨o,z,nm,ks⟩:=t;simp only[F.op,F.num,F.name,F.kids] at hz hk hkl ho hzz hks ⊢;rw[show d+1 - 1=d from rfl] at hk;obtain⟨hfit,hrs⟩:=rt_node hrt;have hor:=fit_range hfit;obtain⟨hnm,hzb,hz0,-,htk⟩:=htm;simp only[F.op,F.num,F.name,F.kids] at hnm hzb hz0 htk;have hkm':kc<=9223372036854775807:=hkm;have hkl2:kl<=9223372036854775807:=Nat.le_trans hkc hkm;have hlen2:l.length+((wd o).length+((numT o z).length+((namT nm).length+(txK ks).length)))<=1000000:=by have h:=hlen;rw[txF,lsa,lsa,lsa] at h;omega
 have HN:=Lib.hid hkl;have HX:=Lib.hid hk;have HZ:=Lib.hid hz;have HT:=Lib.hid ht;have HTK:=Lib.hid htk;have HRS:=Lib.hid hrs;have HLEN:=Lib.hid hlen2;have HQU:=Lib.hid HQ;have HIH:=Lib.hid IH;have HOR:=Lib.hid hor;have HB0:=Lib.hid hB;have HW:=Lib.hid hbw;have HBL:=Lib.hid hbl;have HBS:Hid (B<=w.heap.size):=Lib.hid hBw;have HBB:=Lib.hid (Below.refl B w);have HFR:=Lib.hid (FrB.refl w);have HTXF:Hid (txF (.node o z nm ks)=wd o++(numT o z++(namT nm++txK ks))):=Lib.hid (by rw[txF]);clear hf ht hrt hB hbw hbl hBw hlen hlen2 hkl hk hz hrs htk HQ IH;have hn1:nm=⟨#[]⟩:=by unfold NmOk at hnm;rw[if_neg (by omega),if_neg (by omega),if_neg (by omega)] at hnm;exact hnm
 subst hn1;have HNA:Hid (namT ⟨#[]⟩=[]):=Lib.hid rfl;have hob:(o==0)=false:=beq_eq_false_iff_ne.2 (by omega);subst hzz;have HNL:Hid (numT o 0=[]):=Lib.hid (if_neg (by omega));have HSG:Hid (sgnZ 0=0):=Lib.hid rfl;have hkE:ks=[]:=List.eq_nil_of_length_eq_zero hks;have HKE:Hid (txK ks=[]):=Lib.hid (by rw[hkE];rfl);have hkl0:kl=0:=by rw[HN.out,hks]
 subst hkl0;clear hkE hks;clear hfit hnm hzb hz0 hor hkc hkm;clear ho;go_enter Tryz.func47,Tryz.ntmps47
 obtain⟨x1,kf,ef,ekf,hbf,hkf,HBf⟩:=newV w #[.int .i64 o,.bool b2,.slice ao la c,.string ⟨#[]⟩,.slice ko 0 kc] 29;replace HW:=Lib.hid (HW.out.trans (hbf.out.mono HW.out.size));replace HBL:=Lib.hid (HBL.out.below hbf.out);replace HBB:=Lib.hid (bb_trans HBB.out HBS.out hbf.out);replace HFR:=Lib.hid (HFR.out.trans (fr_below hbf.out));replace HBS:=Lib.hid (Nat.le_trans HBS.out hbf.out.size);have c0:=cell_at (v:=.int .i64 o) HBf.out 0 rfl;have fc0:=froz_at HBf.out 0;have c1:=cell_at (v:=.bool b2) HBf.out 1 rfl;have fc1:=froz_at HBf.out 1;have c2:=cell_at (v:=.slice ao la c) HBf.out 2 rfl;have fc2:=froz_at HBf.out 2;have c3:=cell_at (v:=.string ⟨#[]⟩) HBf.out 3 rfl;have fc3:=froz_at HBf.out 3;have c4:=cell_at (v:=.slice ko 0 kc) HBf.out 4 rfl;have fc4:=froz_at HBf.out 4;go_wp2_with fail
 refine (word_p o HOR.out.1 HOR.out.2 x1 (HT.out.below HW.out)).mono ?_;rintro e x2 ⟨rfl,hb⟩;clear c0 fc0 c1 fc1 c2 fc2 c3 fc3 c4 fc4;replace HBf:=kBV hb HBf;replace HW:=Lib.hid (HW.out.trans (hb.mono HW.out.size));replace HBL:=Lib.hid (HBL.out.below hb);replace HBB:=Lib.hid (bb_trans HBB.out HBS.out hb);replace HFR:=Lib.hid (HFR.out.trans (fr_below hb));replace HBS:=Lib.hid (Nat.le_trans HBS.out hb.size);clear hb;go_wp2_with fail
 refine (bw_str B b l (wd o) x2 HBL.out (by have:=HLEN.out;omega) HBS.out).mono ?_;rintro e x3 ⟨⟨v,rfl⟩,hbl,hb,hfr⟩;replace HBf:=Lib.hid (hfr _ _ _ _ HBf.out (by decide) (by decide));replace HW:=Lib.hid (HW.out.trans (hb.mono HB0.out));replace HBB:=Lib.hid (HBB.out.trans hb);replace HFR:=Lib.hid (HFR.out.trans hfr);replace HBS:Hid (B<=x3.heap.size):=Lib.hid (Nat.le_trans HBS.out hb.size);replace HBL:=Lib.hid hbl;clear hbl hb hfr;have c0:=cell_at (v:=.int .i64 o) HBf.out 0 rfl;have fc0:=froz_at HBf.out 0;have c1:=cell_at (v:=.bool b2) HBf.out 1 rfl;have fc1:=froz_at HBf.out 1;have c2:=cell_at (v:=.slice ao la c) HBf.out 2 rfl;have fc2:=froz_at HBf.out 2;have c3:=cell_at (v:=.string ⟨#[]⟩) HBf.out 3 rfl;have fc3:=froz_at HBf.out 3;have c4:=cell_at (v:=.slice ko 0 kc) HBf.out 4 rfl;have fc4:=froz_at HBf.out 4;go_wp2_with fail
 refine (wsign_any _ 0 600 x3 ((HZ.out.below HW.out).gi) (by decide)).mono ?_;rintro e x4 ⟨rfl,hb⟩;clear c0 fc0 c1 fc1 c2 fc2 c3 fc3 c4 fc4;replace HBf:=kBV hb HBf;replace HW:=Lib.hid (HW.out.trans (hb.mono HW.out.size));replace HBL:=Lib.hid (HBL.out.below hb);replace HBB:=Lib.hid (bb_trans HBB.out HBS.out hb);replace HFR:=Lib.hid (HFR.out.trans (fr_below hb));replace HBS:=Lib.hid (Nat.le_trans HBS.out hb.size);clear hb;rw[HSG.out];have c0:=cell_at (v:=.int .i64 o) HBf.out 0 rfl;have fc0:=froz_at HBf.out 0;have c1:=cell_at (v:=.bool b2) HBf.out 1 rfl;have fc1:=froz_at HBf.out 1;have c2:=cell_at (v:=.slice ao la c) HBf.out 2 rfl;have fc2:=froz_at HBf.out 2;have c3:=cell_at (v:=.string ⟨#[]⟩) HBf.out 3 rfl;have fc3:=froz_at HBf.out 3;have c4:=cell_at (v:=.slice ko 0 kc) HBf.out 4 rfl;have fc4:=froz_at HBf.out 4;go_wp2_with fail
 go_end0
 exact⟨⟨_,rfl⟩,by rw[HTXF.out,HNL.out,HNA.out,HKE.out];simpa using HBL.out,HBB.out,HFR.out⟩
theorem write_all (HQ:QuoteC):∀ d:Nat,WriteC d
 | 0=>by
  intro w0 w v t B b l h;obtain⟨_,_,_,_,_,_,_,_,_,h0,_⟩:=h.open
  omega
 | d+1=>by
  intro w0 w v t B b l h1 h2 h3 h4 h5 h6 h7 h8 h9;have IH:=write_all HQ d
  by_cases e0:t.op=0
  ·exact write_num HQ d IH w0 w v t B b l e0 h1 h2 h3 h4 h5 h6 h7 h8 h9
  by_cases e1:t.op=1\/t.op=8\/t.op=14
  ·exact write_nam HQ d IH w0 w v t B b l e1 h1 h2 h3 h4 h5 h6 h7 h8 h9
  have e2:t.op≠0/\t.op≠1/\t.op≠8/\t.op≠14:=by omega
  by_cases e3:t.num=0
  ·by_cases e4:t.kids.length=0
   ·exact write_z0 HQ d IH w0 w v t B b l e2 e3 e4 h1 h2 h3 h4 h5 h6 h7 h8 h9
   exact write_zk HQ d IH w0 w v t B b l e2 e3 e4 h1 h2 h3 h4 h5 h6 h7 h8 h9
  by_cases e4:t.kids.length=0
  ·exfalso
   obtain⟨o,z,nm,ks⟩:=t;have hn:=h4.2.2.1;have hf:=(rt_node h3).1;simp only[F.op,F.num,F.kids] at hn e2 e3 e4;have hks:ks=[]:=List.eq_nil_of_length_eq_zero e4;subst hks
   have h35:o=3\/o=5:=by
    by_cases a3:o=3
    ·exact .inl a3
    by_cases a5:o=5
    ·exact .inr a5
    exact absurd (hn e2.1 a3 a5) e3
   rcases h35 with rfl | rfl<;>simp[fitF,kidsOk,srts] at hf
  exact write_nk HQ d IH w0 w v t B b l e2 e3 e4 h1 h2 h3 h4 h5 h6 h7 h8 h9
end Go.Proofs.YtdkfnbbebpbhaaaGreatDoor
namespace Go.Proofs
open Go.Shelf
def Tryz.lays177_renC:Go.Shelf.Ren:=⟨fun | 177=>83 | 250=>120 | 289=>143 | 197=>150 | 323=>151 | 260=>157 | 339=>158 | 340=>159 | 242=>160 | 119=>161 | 345=>167 | 346=>168 | 278=>169 | n=>n,fun | 9=>9 | 5=>5 | 4=>4 | 3=>3 | 37=>70 | 21=>21 | 105=>186 | 46=>143 | 119=>201 | 0=>0 | 139=>204 | 138=>203 | 49=>205 | 234=>206 | 131=>207 | 51=>113 | 236=>23 | n=>n,fun | 3=>2 | 4=>3 | 20=>4 | 21=>5 | 22=>6 | 23=>7 | 24=>8 | n=>n⟩
theorem Tryz.lays177C:Go.Proofs.Lays.n177 Tryz.prog Tryz.lays177_renC:={
 mixed:=by kernel_rfl
 f119:=Tryz.func161.trans (congrArg some (by kernel_rfl))
 f177:=Tryz.func83.trans (congrArg some (by kernel_rfl))
 f197:=Tryz.func150.trans (congrArg some (by kernel_rfl))
 f242:=Tryz.func160.trans (congrArg some (by kernel_rfl))
 f250:=Tryz.func120.trans (congrArg some (by kernel_rfl))
 f260:=Tryz.func157.trans (congrArg some (by kernel_rfl))
 f278:=Tryz.func169.trans (congrArg some (by kernel_rfl))
 f289:=Tryz.func143.trans (congrArg some (by kernel_rfl))
 f323:=Tryz.func151.trans (congrArg some (by kernel_rfl))
 f339:=Tryz.func158.trans (congrArg some (by kernel_rfl))
 f340:=Tryz.func159.trans (congrArg some (by kernel_rfl))
 f345:=Tryz.func167.trans (congrArg some (by kernel_rfl))
 f346:=Tryz.func168.trans (congrArg some (by kernel_rfl))
 t0:=Tryz.underlying0
 a0:=Tryz.isAgg0
 z0:=Tryz.sizeOf0
 v0:=Tryz.zeroValue0
 t3:=Tryz.underlying3
 a3:=Tryz.isAgg3
 z3:=Tryz.sizeOf3
 v3:=Tryz.zeroValue3
 t4:=Tryz.underlying4
 a4:=Tryz.isAgg4
 z4:=Tryz.sizeOf4
 v4:=Tryz.zeroValue4
 t5:=Tryz.underlying5
 a5:=Tryz.isAgg5
 z5:=Tryz.sizeOf5
 v5:=Tryz.zeroValue5
 t9:=Tryz.underlying9
 a9:=Tryz.isAgg9
 z9:=Tryz.sizeOf9
 v9:=Tryz.zeroValue9
 t21:=Tryz.underlying21
 a21:=Tryz.isAgg21
 z21:=Tryz.sizeOf21
 v21:=Tryz.zeroValue21
 t37:=Tryz.underlying70
 a37:=Tryz.isAgg70
 z37:=Tryz.sizeOf70
 v37:=Tryz.zeroValue70
 t46:=Tryz.underlying143
 a46:=Tryz.isAgg143
 z46:=Tryz.sizeOf143
 v46:=Tryz.zeroValue143
 t49:=Tryz.underlying205
 a49:=Tryz.isAgg205
 z49:=Tryz.sizeOf205
 v49:=Tryz.zeroValue205
 t51:=Tryz.underlying113
 a51:=Tryz.isAgg113
 z51:=Tryz.sizeOf113
 v51:=Tryz.zeroValue113
 t105:=Tryz.underlying186
 a105:=Tryz.isAgg186
 z105:=Tryz.sizeOf186
 v105:=Tryz.zeroValue186
 t119:=Tryz.underlying201
 a119:=Tryz.isAgg201
 z119:=Tryz.sizeOf201
 t131:=Tryz.underlying207
 a131:=Tryz.isAgg207
 z131:=Tryz.sizeOf207
 v131:=Tryz.zeroValue207
 t138:=Tryz.underlying203
 a138:=Tryz.isAgg203
 z138:=Tryz.sizeOf203
 v138:=Tryz.zeroValue203
 t139:=Tryz.underlying204
 a139:=Tryz.isAgg204
 z139:=Tryz.sizeOf204
 v139:=Tryz.zeroValue204
 t234:=Tryz.underlying206
 a234:=Tryz.isAgg206
 z234:=Tryz.sizeOf206
 v234:=Tryz.zeroValue206
 t236:=Tryz.underlying23
 a236:=Tryz.isAgg23
 z236:=Tryz.sizeOf23
 v236:=Tryz.zeroValue23
 g3:=by kernel_rfl
 g4:=by kernel_rfl
 g20:=by kernel_rfl
 g21:=by kernel_rfl
 g22:=by kernel_rfl
 g23:=by kernel_rfl
 g24:=by kernel_rfl }
open Go.RowKit in
theorem Tryz.strconv_QuoteC (T:Lib.PrintTabs) (s:ByteArray) (w:World) (hlen:10*s.size+12<=140737488355328) (hT:Lib.PrintTabsAt 4 5 6 7 T w) (hU:Lib.Utf8Tabs 2 3 w) :
  Calls Tryz.prog 83 #[.string s] w fun e w'=>e=.returned (.string (strOfNums (Lib.quoteZ T s)))/\Below w.heap.size w w':=Any.strconv_Quote Tryz.lays177C (by kernel_rfl) T s w hlen hT hU
end Go.Proofs
namespace Go.Proofs.YtdkfnbbebpbhaaaGreatDoor
open Go.RowKit
set_option maxRecDepth 100000
set_option linter.unusedVariables false
set_option linter.unusedSimpArgs false
theorem quote_c:QuoteC:=by
 intro nm h w ht;refine (Tryz.strconv_QuoteC Lib.goPrintTabs nm w ?_ ht.prt ht.utf).mono ?_
 ·simp only[nmTab,List.mem_cons,List.not_mem_nil,or_false] at h;rcases h with rfl | rfl | rfl | rfl | rfl | rfl | rfl<;>decide
 rintro e w' ⟨rfl,hb⟩;exact⟨by rw[quoted nm h],hb⟩
theorem wd_ne (o:Int) (h0:0<=o) (h1:o<=20):wd o ≠ []:=by
 have:o=0\/o=1\/o=2\/o=3\/o=4\/o=5\/o=6\/o=7\/o=8\/o=9\/o=10\/o=11\/o=12\/o=13\/o=14\/o=15\/o=16\/o=17\/o=18\/o=19\/o=20:=by omega
 rcases this with rfl | rfl | rfl | rfl | rfl | rfl | rfl | rfl | rfl | rfl | rfl | rfl | rfl | rfl | rfl | rfl | rfl | rfl | rfl | rfl | rfl<;>decide
theorem tx_ne {t:F} (h:rt t=true):txF t ≠ []:=by
 obtain⟨o,z,nm,ks⟩:=t;have hr:=fit_range (rt_node h).1;rw[txF];intro e;exact wd_ne o hr.1 hr.2 (List.append_eq_nil_iff.1 e).1
theorem lenT_le:∀ d,d<=6->lenT d<=100000:=by
 intro d h;have:d=0\/d=1\/d=2\/d=3\/d=4\/d=5\/d=6:=by omega
 rcases this with rfl | rfl | rfl | rfl | rfl | rfl | rfl<;>decide
theorem text_p (d:Nat) (hd:d<=6) (v:Value) (t:F) (S:Nat->Prop) (w:World) (h:FC w S d v t) (hrt:rt t=true) (htm:Tm d t) (ht:TxT w) :
  Calls Tryz.prog 16 #[v] w fun e w'=>e=.returned (.string ⟨(txF t).toArray⟩)/\Below w.heap.size w w':=by
 have HF:=Lib.hid (h.mono (S':=tS) (fun _ _=>trivial));obtain⟨b,ao,l,c,ko,kl,kc,rfl,-,-,-⟩:=h.open;obtain⟨o,hoo⟩:∃ o,o=t.op:=⟨_,rfl⟩
 obtain⟨nm,hnm⟩:∃ o,o=t.name:=⟨_,rfl⟩
 rw[<-hoo,<-hnm] at HF ⊢;have HRT:=Lib.hid hrt;have HTM:=Lib.hid htm;have HT:=Lib.hid ht;have HLN:Hid (([]:Bs).length+(txF t).length<=1000000):=Lib.hid (by have h1:=tx_len d t htm;have h2:=lenT_le d hd;simp only[lsn];omega);clear h hrt htm ht hoo hnm;have HW:=Lib.hid (Below.refl w.heap.size w);go_enter Tryz.func16,Tryz.ntmps16
 obtain⟨x1,kf,ef,ekf,hbf,hkf,HBf⟩:=newV w #[.int .i64 o,.bool b,.slice ao l c,.string nm,.slice ko kl kc] 29;replace HW:=Lib.hid (HW.out.trans (hbf.out.mono HW.out.size));obtain⟨x2,ku,eu,eku,hbu,hku,HBu⟩:=newV x1 #[.pointer none,.slice none 0 0] 82;replace HBf:=kBV hbu.out HBf;replace HW:=Lib.hid (HW.out.trans (hbu.out.mono HW.out.size));have HKU:Hid (w.heap.size<=ku):=Lib.hid (Nat.le_trans hbf.out.size hku.out);have HBL:Hid (Bld ku ku [] x2):=Lib.hid (by rw[<-eu,<-eku];exact Bld.fresh x1);have HBS:Hid (ku<=x2.heap.size):=Lib.hid (Nat.le_of_lt (lt_of_block HBu.out));have c0:=cell_at (v:=.int .i64 o) HBf.out 0 rfl;have fc0:=froz_at HBf.out 0;have c1:=cell_at (v:=.bool b) HBf.out 1 rfl;have fc1:=froz_at HBf.out 1;have c2:=cell_at (v:=.slice ao l c) HBf.out 2 rfl;have fc2:=froz_at HBf.out 2
 have c3:=cell_at (v:=.string nm) HBf.out 3 rfl;have fc3:=froz_at HBf.out 3;have c4:=cell_at (v:=.slice ko kl kc) HBf.out 4 rfl;have fc4:=froz_at HBf.out 4;go_wp2_with fail
 refine (write_all quote_c d w x2 _ t ku ku [] HF.out HT.out HRT.out HTM.out HKU.out HW.out HBL.out HBS.out HLN.out).mono ?_;rintro e x3 ⟨⟨v,rfl⟩,hbl,hb,-⟩;clear c0 fc0 c1 fc1 c2 fc2 c3 fc3 c4 fc4;rw[List.nil_append] at hbl;have HBL3:=Lib.hid hbl;have HW3:=Lib.hid (HW.out.trans (hb.mono HKU.out));clear hbl hb;go_wp2_with fail
 refine (bw_string ku ku (txF t) x3 HBL3.out (tx_ne HRT.out)).mono ?_;rintro e x4 ⟨rfl,hb⟩;have HW4:=Lib.hid (HW3.out.trans (hb.mono HKU.out));clear hb;go_wp2_with fail
 go_ret
 exact⟨rfl,HW4.out⟩
open Classical in
theorem zchar45 (z:Int):∀ c ∈ zText z,45<=c.toNat:=by
 have hd:=(dn_dec z.natAbs).1;unfold zText
 split
 ·intro c hc;rcases List.mem_cons.1 hc with rfl | hc
  ·exact Nat.le_refl _
  have:=hd c hc;omega
 intro c hc;have:=hd c hc;omega
theorem zText_injF {z w:Int} (h:zText z=zText w):z=w:=by
 have a:=dn_dec z.natAbs;have b:=dn_dec w.natAbs;unfold zText at h
 by_cases hz:z<0<;>by_cases hw:w<0
 ·rw[if_pos hz,if_pos hw] at h;injection h with _ h;have:=congrArg dn h;rw[a.2.1,b.2.1] at this
  omega
 ·rw[if_pos hz,if_neg hw] at h;have:=b.1 45 (by rw[<-h];exact List.mem_cons_self ..)
  simp at this
 ·rw[if_neg hz,if_pos hw] at h;have:=a.1 45 (by rw[h];exact List.mem_cons_self ..)
  simp at this
 rw[if_neg hz,if_neg hw] at h;have:=congrArg dn h;rw[a.2.1,b.2.1] at this
 omega
def Cut (m:Nat) (l:Bs):Prop:=∀ c r,l=c::r->c.toNat<m
theorem split_at (m:Nat):∀ (a b x y:Bs),(∀ c ∈ a,m<=c.toNat)->(∀ c ∈ b,m<=c.toNat)->Cut m x->Cut m y->a++x=b++y->a=b/\x=y
 | [],[],x,y,_,_,_,_,h=>⟨rfl,h⟩
 | [],c::b,x,y,_,hb,hx,_,h=>by
  have h1:=hb c (List.mem_cons_self ..);have h2:=hx c (b++y) (by simpa using h)
  omega
 | c::a,[],x,y,ha,_,_,hy,h=>by
  have h1:=ha c (List.mem_cons_self ..);have h2:=hy c (a++x) (by simpa using h.symm)
  omega
 | c::a,d::b,x,y,ha,hb,hx,hy,h=>by
  rw[List.cons_append,List.cons_append] at h;injection h with h1 h2;obtain⟨h3,h4⟩:=split_at m a b x y (fun c hc=>ha c (List.mem_cons_of_mem _ hc)) (fun c hc=>hb c (List.mem_cons_of_mem _ hc)) hx hy h2;exact⟨by rw[h1,h3],h4⟩
def StopT (r:Bs):Prop:=r=[]\/∃ l,r=44::l\/r=41::l
theorem StopT.cut {r:Bs} (h:StopT r) {m:Nat} (hm:45<=m):Cut m r:=by
 intro c l e;rcases h with rfl | ⟨q,rfl | rfl⟩
 ·cases e
 ·injection e with e1;subst e1;show 44<m;omega
 injection e with e1;subst e1;show 41<m;omega
theorem stop_txM (l:List F) (r:Bs):StopT (txM l++r):=by
 cases l with
 | nil=>exact .inr ⟨r,.inr rfl⟩
 | cons a l=>exact .inr ⟨32::(txF a++txM l)++r,.inl rfl⟩
theorem cut_txK (ks:List F) (r:Bs) (hr:StopT r) {m:Nat} (hm:45<=m):Cut m (txK ks++r):=by
 cases ks with
 | nil=>exact hr.cut hm
 | cons a l =>
  intro c q e;rw[txK,List.cons_append] at e;injection e with e1;subst e1
  show 40<m
  omega
theorem wdTab_inj:∀ i,i<21->∀ j,j<21->wdTab.getD i []=wdTab.getD j []->i=j:=by decide
theorem wd_inj {o p:Int} (ho:0<=o/\o<=20) (hp:0<=p/\p<=20) (h:wd o=wd p):o=p:=by
 have:=wdTab_inj o.toNat (by omega) p.toNat (by omega) h
 omega
theorem wdTab_let:∀ i,i<21->∀ c ∈ wdTab.getD i [],65<=c.toNat:=by decide
theorem wd_let {o:Int} (ho:0<=o/\o<=20):∀ c ∈ wd o,65<=c.toNat:=wdTab_let o.toNat (by omega)
theorem cut_rest (o z:Int) (nm:ByteArray) (ks:List F) (r:Bs) (hr:StopT r):Cut 45 (numT o z++(namT nm++(txK ks++r))):=by
 unfold numT
 split
 ·intro c q e;rw[List.cons_append] at e;injection e with e1;subst e1
  decide
 unfold namT
 split
 ·exact cut_txK ks r hr (Nat.le_refl _)
 intro c q e;rw[List.nil_append,List.cons_append] at e;injection e with e1;subst e1
 decide
theorem Cut.up {m n:Nat} {l:Bs} (h:Cut m l) (hn:m<=n):Cut n l:=fun c r e=>Nat.lt_of_lt_of_le (h c r e) hn
theorem qt_inj {a b:ByteArray} (h:qt a=qt b):a=b:=by
 unfold qt at h;injection h with _ h;have:=List.append_cancel_right h;exact ByteArray.ext (Array.toList_inj.1 this)
theorem nm_named {o:Int} {nm:ByteArray} (ho:o=1\/o=8\/o=14) (h:NmOk o nm):nm ≠ ⟨#[]⟩/\(qt nm).length=4:=by
 rcases ho with rfl | rfl | rfl
 ·rcases (show nm=_\/nm=_\/nm=_ from h) with rfl | rfl | rfl<;>exact⟨by decide,rfl⟩
 ·rcases (show nm=_\/nm=_ from h) with rfl | rfl<;>exact⟨by decide,rfl⟩
 rcases (show nm=_\/nm=_ from h) with rfl | rfl<;>exact⟨by decide,rfl⟩
theorem nm_none {o:Int} {nm:ByteArray} (ho:¬(o=1\/o=8\/o=14)) (h:NmOk o nm):nm=⟨#[]⟩:=by
 unfold NmOk at h
 rwa [if_neg (by omega),if_neg (by omega),if_neg (by omega)] at h
theorem num_same {o z w:Int} {x y:Bs} (hx:Cut 45 x) (hy:Cut 45 y) (h1:¬(o=0\/z≠0)->(o=0\/w≠0)->∀ q,x≠32::q) (h2:¬(o=0\/w≠0)->(o=0\/z≠0)->∀ q,y≠32::q) (h:numT o z++x=numT o w++y):z=w/\x=y:=by
 unfold numT at h
 by_cases a:o=0\/z≠0<;>by_cases b:o=0\/w≠0
 ·rw[if_pos a,if_pos b,List.cons_append,List.cons_append] at h;injection h with _ h;obtain⟨e1,e2⟩:=split_at 45 _ _ _ _ (zchar45 z) (zchar45 w) hx hy h;exact⟨zText_injF e1,e2⟩
 ·rw[if_pos a,if_neg b,List.nil_append,List.cons_append] at h;exact absurd h.symm (h2 b a _)
 ·rw[if_neg a,if_pos b,List.nil_append,List.cons_append] at h;exact absurd h (h1 a b _)
 rw[if_neg a,if_neg b] at h;exact⟨by omega,h⟩
theorem not32 {ks:List F} {r:Bs} (hr:StopT r) (q:Bs):txK ks++r≠32::q:=by
 cases ks with
 | nil =>
  intro e;rcases hr with rfl | ⟨l,rfl | rfl⟩
  ·cases e
  ·injection e with e;cases e
  injection e with e;cases e
 | cons a l=>intro e;rw[txK,List.cons_append] at e;injection e with e;cases e
theorem named_kids {o z:Int} {ks:List F} (ho:o=1\/o=8\/o=14) (h:fitF o z (srts ks)=true):ks=[]:=by
 rcases ho with rfl | rfl | rfl<;>exact srts_nil (by simpa [fitF,kidsOk] using h)
theorem tx_inj:∀ (d:Nat) (t s:F),Tm d t->Tm d s->rt t=true->rt s=true->∀ r r':Bs,StopT r->StopT r'->txF t++r=txF s++r'->t=s/\r=r'
 | 0,t,s,h,_,_,_=>absurd h id
 | d+1,.node o z nm ks,.node o' z' nm' ks',ht,hs,rt1,rt2=>by
  intro r r' hr hr' h;obtain⟨hf,hk⟩:=rt_node rt1;obtain⟨hf',hk'⟩:=rt_node rt2;have ho:=fit_range hf;have ho':=fit_range hf';obtain⟨n1,n2,n3,-,n5⟩:=ht;obtain⟨m1,m2,m3,-,m5⟩:=hs;simp only[F.op,F.num,F.name,F.kids] at n1 n3 n5 m1 m3 m5;rw[txF,txF,List.append_assoc,List.append_assoc,List.append_assoc,List.append_assoc,List.append_assoc,List.append_assoc] at h;obtain⟨e1,e2⟩:=split_at 65 _ _ _ _ (wd_let ho) (wd_let ho') ((cut_rest o z nm ks r hr).up (by decide)) ((cut_rest o' z' nm' ks' r' hr').up (by decide)) h;have eo:=wd_inj ho ho' e1;subst eo
  -- the kids
  have kids:∀ (l l':List F),(∀ k ∈ l,Tm d k/\rt k=true)->(∀ k ∈ l',Tm d k/\rt k=true)->∀ x y:Bs,StopT x->StopT y->txM l++x=txM l'++y->l=l'/\x=y:=by
   intro l
   induction l with
   | nil =>
    intro l' _ _ x y _ _ e
    cases l' with
    | nil=>rw[txM,List.cons_append,List.cons_append] at e;injection e with _ e;exact⟨rfl,e⟩
    | cons a m=>rw[txM,txM,List.cons_append,List.cons_append] at e;injection e with e;cases e
   | cons a m ih =>
    intro l' hl hl' x y hx hy e
    cases l' with
    | nil=>rw[txM,txM,List.cons_append,List.cons_append] at e;injection e with e;cases e
    | cons b n =>
     rw[txM,txM,List.cons_append,List.cons_append,List.cons_append,List.cons_append] at e;injection e with _ e;injection e with _ e;rw[List.append_assoc,List.append_assoc] at e;obtain⟨q1,q2⟩:=tx_inj d a b (hl a (by simp)).1 (hl' b (by simp)).1 (hl a (by simp)).2 (hl' b (by simp)).2 _ _ (stop_txM m x) (stop_txM n y) e;obtain⟨q3,q4⟩:=ih n (fun k hk=>hl k (by simp[hk])) (fun k hk=>hl' k (by simp[hk])) x y hx hy q2;exact⟨by rw[q1,q3],q4⟩
  have kidsK:txK ks++r=txK ks'++r'->ks=ks'/\r=r':=by
   intro e
   cases ks with
   | nil =>
    cases ks' with
    | nil=>exact⟨rfl,e⟩
    | cons b n =>
     rw[txK,txK,List.nil_append,List.cons_append] at e;rcases hr with rfl | ⟨l,rfl | rfl⟩
     ·cases e
     ·injection e with e;cases e
     injection e with e;cases e
   | cons a m =>
    cases ks' with
    | nil =>
     rw[txK,txK,List.nil_append,List.cons_append] at e;rcases hr' with rfl | ⟨l,rfl | rfl⟩
     ·cases e
     ·injection e with e;cases e
     injection e with e;cases e
    | cons b n =>
     rw[txK,txK,List.cons_append,List.cons_append] at e;injection e with _ e;rw[List.append_assoc,List.append_assoc] at e;obtain⟨q1,q2⟩:=tx_inj d a b (n5 a (by simp)) (m5 b (by simp)) (hk a (by simp)) (hk' b (by simp)) _ _ (stop_txM m r) (stop_txM n r') e;obtain⟨q3,q4⟩:=kids m n (fun k h=>⟨n5 k (by simp[h]),hk k (by simp[h])⟩) (fun k h=>⟨m5 k (by simp[h]),hk' k (by simp[h])⟩) r r' hr hr' q2;exact⟨by rw[q1,q3],q4⟩
  by_cases hn:o=1\/o=8\/o=14
  ·have k1:=named_kids hn hf;have k2:=named_kids hn hf';have z1:z=0:=n3 (by omega) (by omega) (by omega);have z2:z'=0:=m3 (by omega) (by omega) (by omega);obtain⟨a1,a2⟩:=nm_named hn n1;obtain⟨b1,b2⟩:=nm_named hn m1;subst k1 k2 z1 z2;rw[show numT o 0=[] from if_neg (by omega),List.nil_append,List.nil_append,show namT nm=32::qt nm from if_neg a1,show namT nm'=32::qt nm' from if_neg b1,List.cons_append,List.cons_append] at e2;injection e2 with _ e2;obtain⟨q1,q2⟩:=List.append_inj e2 (by rw[a2,b2]);exact⟨by rw[qt_inj q1],q2⟩
  have a1:=nm_none hn n1;have b1:=nm_none hn m1;subst a1 b1;rw[show namT ⟨#[]⟩=[] from rfl,List.nil_append,List.nil_append] at e2;obtain⟨q1,q2⟩:=num_same (cut_txK ks r hr (Nat.le_refl _)) (cut_txK ks' r' hr' (Nat.le_refl _)) (fun _ _ q=>not32 hr q) (fun _ _ q=>not32 hr' q) e2;obtain⟨q3,q4⟩:=kidsK q2;exact⟨by rw[q1,q3],q4⟩
theorem text_inj {d:Nat} {t s:F} (h1:Tm d t) (h2:Tm d s) (h3:rt t=true) (h4:rt s=true) (h:txF t=txF s):t=s:=
 (tx_inj d t s h1 h2 h3 h4 [] [] (.inl rfl) (.inl rfl) (by rw[List.append_nil,List.append_nil,h])).1
attribute [local go_sem] fieldV0 fieldV1 fieldV2 fieldV3
theorem count_p (d:Nat):∀ (v:Value) (t:F) (S:Nat->Prop) (w:World),FC w S d v t->szF t<=1000000 ->
  Calls Tryz.prog 19 #[v] w fun e w'=>e=.returned (.int .i64 (szF t:Nat))/\Below w.heap.size w w':=by
 induction d with
 | zero=>intro v t S w h;obtain⟨_,_,_,_,_,_,_,_,_,h0,_⟩:=h.open;omega
 | succ d ih =>
  intro v t S w h hsz;obtain⟨b,ao,l,c,ko,kl,kc,rfl,⟨hr,hz,hkl,hkc,hkm⟩,-,hk⟩:=h.open;obtain⟨o,z,nm,ks⟩:=t;simp only[F.op,F.num,F.name,F.kids] at hr hz hk hkl ⊢;obtain⟨n,hn⟩:∃ n,n=ks.length:=⟨_,rfl⟩
  rw[<-hn] at hkl;subst hkl;have HN:=Lib.hid hn;have HSZ:=Lib.hid hsz;clear hn hr hz h hsz;have HX:=Lib.hid hk;have IH:=Lib.hid ih;clear hk ih;have HW:=Lib.hid (Below.refl w.heap.size w);have hkm':kc<=9223372036854775807:=hkm;go_enter Tryz.func19,Tryz.ntmps19
  obtain⟨x1,kf,ef,ekf,hbf,hkf,HBf⟩:=newV w #[.int .i64 o,.bool b,.slice ao l c,.string nm,.slice ko kl kc] 29;replace HX:=Lib.hid (HX.out.below hbf.out);replace HW:=Lib.hid (HW.out.trans (hbf.out.mono HW.out.size));have c0:=cell_at (v:=.int .i64 o) HBf.out 0 rfl;have fc0:=froz_at HBf.out 0;have c1:=cell_at (v:=.bool b) HBf.out 1 rfl;have fc1:=froz_at HBf.out 1;have c2:=cell_at (v:=.slice ao l c) HBf.out 2 rfl;have fc2:=froz_at HBf.out 2;have c3:=cell_at (v:=.string nm) HBf.out 3 rfl;have fc3:=froz_at HBf.out 3;have c4:=cell_at (v:=.slice ko kl kc) HBf.out 4 rfl;have fc4:=froz_at HBf.out 4;go_wp2_with fail
  clear c0 fc0 c1 fc1 c2 fc2 c3 fc3 c4 fc4
  go_loopw [3,9] (fun m i wr=>∃ j:Nat,m=.int .i64 ((1+szsF (ks.take j):Nat):Int)/\i=.int .i64 (j:Nat)/\j<=kl/\Hid (Below x1.heap.size x1 wr)) (fun _ i _=>kl - (intOf i).toNat)
  case atStart=>exact⟨0,rfl,rfl,Nat.zero_le _,Lib.hid (Below.refl _ _)⟩
  case round =>
   obtain⟨j,rfl,rfl,hj,HB⟩:=hrel;replace HX:=Lib.hid (HX.out.below HB.out);replace HW:=Lib.hid (HW.out.trans (HB.out.mono HW.out.size))
   by_cases hlt:j<kl
   ·have hz:j<ks.length:=by rw[<-HN.out];exact hlt
    obtain⟨a,bb,qo,ql,qc,po,pl,pc,rfl,⟨c0,c1,c2,c3,c4⟩,hf⟩:=HX.out.cells j hz;have HFC:=Lib.hid hf;clear hf;obtain⟨x,hxx⟩:∃ x,x=ks[j].op:=⟨_,rfl⟩
    obtain⟨ym,hnm⟩:∃ x,x=ks[j].name:=⟨_,rfl⟩
    rw[<-hxx] at c0 HFC;rw[<-hnm] at c3 HFC;clear hxx hnm;have hst:=szsF_take ks j hz;have hle:=szsF_take_le ks (j+1);have hs1:szsF ks+1<=1000000:=by have:=HSZ.out;rw[szF] at this;omega
    have HST:=Lib.hid hst;have hb1:szsF (ks.take j)<=1000000:=by omega
    have hb2:szF ks[j]<=1000000:=by omega
    have hb3:szsF (ks.take j)+szF ks[j]<=1000000:=by omega
    clear hst hle hs1;obtain⟨x2,k8,e8,ek8,hb8,hk8,HB8⟩:=newV wr #[.int .i64 x,.bool bb,.slice qo ql qc,.string ym,.slice po pl pc] 29;replace HW:=Lib.hid (HW.out.trans (hb8.out.mono HW.out.size));replace HB:=Lib.hid (HB.out.trans (hb8.out.mono HB.out.size));replace HFC:=Lib.hid (HFC.out.below hb8.out);have g0:=cell_at (v:=.int .i64 x) HB8.out 0 rfl;have fg0:=froz_at HB8.out 0;have g1:=cell_at (v:=.bool bb) HB8.out 1 rfl;have fg1:=froz_at HB8.out 1;have g2:=cell_at (v:=.slice qo ql qc) HB8.out 2 rfl;have fg2:=froz_at HB8.out 2;have g3:=cell_at (v:=.string ym) HB8.out 3 rfl;have fg3:=froz_at HB8.out 3;have g4:=cell_at (v:=.slice po pl pc) HB8.out 4 rfl;have fg4:=froz_at HB8.out 4;go_wp2_with fail
    refine (IH.out _ ks[j] S x2 HFC.out hb2).mono ?_;rintro e x3 ⟨rfl,hb⟩;clear g0 fg0 g1 fg1 g2 fg2 g3 fg3 g4 fg4;replace HB8:=kBV hb HB8;replace HW:=Lib.hid (HW.out.trans (hb.mono HW.out.size));replace HB:=Lib.hid (HB.out.trans (hb.mono HB.out.size));replace HFC:=Lib.hid (HFC.out.below hb);clear hb HFC;obtain⟨X,hX⟩:∃ X,X=szF ks[j]:=⟨_,rfl⟩
    obtain⟨Y,hY⟩:∃ Y,Y=szsF (ks.take j):=⟨_,rfl⟩
    rw[<-hX] at HST hb2 hb3 ⊢;rw[<-hY] at HST hb1 hb3 ⊢;clear hX hY;go_wp2_with fail
    go_roundw
    case rel=>exact⟨j+1,by rw[HST.out];go_num,by go_num,hlt,HB⟩
    case measure=>simp[intOf];omega
   go_wp2_with fail
   go_ret
   refine⟨?_,HW.out⟩;rw[show j=kl by omega,HN.out,List.take_length,szF];rfl
theorem sg_zero {z w:Int}:(sgnZ (z - w)=0) ↔ z=w:=by
 unfold sgnZ
 constructor
 ·intro h;revert h;(repeat' split)<;>intro h<;>first | omega | (exfalso;omega)
 intro h;subst h;simp
theorem take_next_eq {ks ls:List F} {j:Nat} (h1:j<ks.length) (h2:j<ls.length) (h:ks.take j=ls.take j) (he:ks[j]=ls[j]):ks.take (j+1)=ls.take (j+1):=by
 rw[List.take_succ_eq_append_getElem h1,List.take_succ_eq_append_getElem h2,h,he]
open Classical in
theorem samef_p (d:Nat):∀ (v u:Value) (t s:F) (S S':Nat->Prop) (w:World),FC w S d v t->FC w S' d u s ->
  Calls Tryz.prog 17 #[v,u] w fun e w'=>e=.returned (.bool (decide (t=s)))/\Below w.heap.size w w':=by
 induction d with
 | zero=>intro v u t s S S' w h;obtain⟨_,_,_,_,_,_,_,_,_,h0,_⟩:=h.open;omega
 | succ d ih =>
  intro v u t s S S' w h k;obtain⟨b,ao,l,c,ko,kl,kc,rfl,⟨-,hz,hkl,hkc,hkm⟩,-,hk⟩:=h.open;obtain⟨b2,ao2,l2,c2,ko2,kl2,kc2,rfl,⟨-,hz2,hkl2,hkc2,hkm2⟩,-,hk2⟩:=k.open;obtain⟨o,z,nm,ks⟩:=t;obtain⟨p,y,ym,ls⟩:=s;simp only[F.op,F.num,F.name,F.kids] at hz hk hkl hz2 hk2 hkl2 ⊢;rw[show d+1 - 1=d from rfl] at hk hk2;have hkm':kc<=9223372036854775807:=hkm;have hkm2':kc2<=9223372036854775807:=hkm2;have HN:=Lib.hid hkl;have HN2:=Lib.hid hkl2;have HZ:=Lib.hid hz;have HY:=Lib.hid hz2;have HX:=Lib.hid hk;have HX2:=Lib.hid hk2;have IH:=Lib.hid ih;have HNO:Hid (¬(o=p/\nm=ym/\z=y/\ks=ls)->decide (F.node o z nm ks=F.node p y ym ls)=false):=Lib.hid (fun h=>decide_eq_false (fun e=>h (by injection e with e1 e2 e3 e4;exact⟨e1,e3,e2,e4⟩)))
  have HYES:Hid ((o=p/\nm=ym/\z=y/\ks=ls)->decide (F.node o z nm ks=F.node p y ym ls)=true):=Lib.hid (fun h=>decide_eq_true (by obtain⟨rfl,rfl,rfl,rfl⟩:=h;rfl));have hkk:kl<=9223372036854775807:=Nat.le_trans hkc hkm;have hkk2:kl2<=9223372036854775807:=Nat.le_trans hkc2 hkm2;clear h k hkl hkl2 hz hz2 hk hk2 ih
  by_cases h1:o=p
  rotate_left
  ·have hq:(o != p)=true:=bne_iff_ne.2 h1;have HW:=Lib.hid (Below.refl w.heap.size w);go_enter Tryz.func17,Tryz.ntmps17
   obtain⟨x1,kf,ef,ekf,hbf,hkf,HBf⟩:=newV w #[.int .i64 o,.bool b,.slice ao l c,.string nm,.slice ko kl kc] 29;replace HX:=Lib.hid (HX.out.below hbf.out);replace HX2:=Lib.hid (HX2.out.below hbf.out);replace HW:=Lib.hid (HW.out.trans (hbf.out.mono HW.out.size));replace HZ:=Lib.hid (HZ.out.below hbf.out);replace HY:=Lib.hid (HY.out.below hbf.out);obtain⟨x2,kg,eg,ekg,hbg,hkg,HBg⟩:=newV x1 #[.int .i64 p,.bool b2,.slice ao2 l2 c2,.string ym,.slice ko2 kl2 kc2] 29;replace HBf:=kBV hbg.out HBf;replace HX:=Lib.hid (HX.out.below hbg.out);replace HX2:=Lib.hid (HX2.out.below hbg.out);replace HW:=Lib.hid (HW.out.trans (hbg.out.mono HW.out.size));replace HZ:=Lib.hid (HZ.out.below hbg.out);replace HY:=Lib.hid (HY.out.below hbg.out);have xf0:=cell_at (v:=.int .i64 o) HBf.out 0 rfl;have fxf0:=froz_at HBf.out 0
   have xf1:=cell_at (v:=.bool b) HBf.out 1 rfl;have fxf1:=froz_at HBf.out 1;have xf2:=cell_at (v:=.slice ao l c) HBf.out 2 rfl;have fxf2:=froz_at HBf.out 2;have xf3:=cell_at (v:=.string nm) HBf.out 3 rfl;have fxf3:=froz_at HBf.out 3;have xf4:=cell_at (v:=.slice ko kl kc) HBf.out 4 rfl;have fxf4:=froz_at HBf.out 4;have xg0:=cell_at (v:=.int .i64 p) HBg.out 0 rfl;have fxg0:=froz_at HBg.out 0;have xg1:=cell_at (v:=.bool b2) HBg.out 1 rfl;have fxg1:=froz_at HBg.out 1;have xg2:=cell_at (v:=.slice ao2 l2 c2) HBg.out 2 rfl;have fxg2:=froz_at HBg.out 2;have xg3:=cell_at (v:=.string ym) HBg.out 3 rfl;have fxg3:=froz_at HBg.out 3;have xg4:=cell_at (v:=.slice ko2 kl2 kc2) HBg.out 4 rfl;have fxg4:=froz_at HBg.out 4;go_wp2_with fail
   go_ret
   exact⟨by rw[HNO.out (fun h=>h1 h.1)];rfl,HW.out⟩
  have hq1:(o != p)=false:=by simpa using h1
  have H1:=Lib.hid h1;clear h1
  by_cases h2:nm=ym
  rotate_left
  ·have hn2:=bs_no h2;have hq2:(nm.toList != ym.toList)=true:=by unfold bne;rw[hn2];rfl
   have H2:=Lib.hid h2;clear h2;have HW:=Lib.hid (Below.refl w.heap.size w);go_enter Tryz.func17,Tryz.ntmps17
   obtain⟨x1,kf,ef,ekf,hbf,hkf,HBf⟩:=newV w #[.int .i64 o,.bool b,.slice ao l c,.string nm,.slice ko kl kc] 29;replace HX:=Lib.hid (HX.out.below hbf.out);replace HX2:=Lib.hid (HX2.out.below hbf.out);replace HW:=Lib.hid (HW.out.trans (hbf.out.mono HW.out.size));replace HZ:=Lib.hid (HZ.out.below hbf.out);replace HY:=Lib.hid (HY.out.below hbf.out);obtain⟨x2,kg,eg,ekg,hbg,hkg,HBg⟩:=newV x1 #[.int .i64 p,.bool b2,.slice ao2 l2 c2,.string ym,.slice ko2 kl2 kc2] 29;replace HBf:=kBV hbg.out HBf;replace HX:=Lib.hid (HX.out.below hbg.out);replace HX2:=Lib.hid (HX2.out.below hbg.out);replace HW:=Lib.hid (HW.out.trans (hbg.out.mono HW.out.size));replace HZ:=Lib.hid (HZ.out.below hbg.out);replace HY:=Lib.hid (HY.out.below hbg.out);have xf0:=cell_at (v:=.int .i64 o) HBf.out 0 rfl;have fxf0:=froz_at HBf.out 0
   have xf1:=cell_at (v:=.bool b) HBf.out 1 rfl;have fxf1:=froz_at HBf.out 1;have xf2:=cell_at (v:=.slice ao l c) HBf.out 2 rfl;have fxf2:=froz_at HBf.out 2;have xf3:=cell_at (v:=.string nm) HBf.out 3 rfl;have fxf3:=froz_at HBf.out 3;have xf4:=cell_at (v:=.slice ko kl kc) HBf.out 4 rfl;have fxf4:=froz_at HBf.out 4;have xg0:=cell_at (v:=.int .i64 p) HBg.out 0 rfl;have fxg0:=froz_at HBg.out 0;have xg1:=cell_at (v:=.bool b2) HBg.out 1 rfl;have fxg1:=froz_at HBg.out 1;have xg2:=cell_at (v:=.slice ao2 l2 c2) HBg.out 2 rfl;have fxg2:=froz_at HBg.out 2;have xg3:=cell_at (v:=.string ym) HBg.out 3 rfl;have fxg3:=froz_at HBg.out 3;have xg4:=cell_at (v:=.slice ko2 kl2 kc2) HBg.out 4 rfl;have fxg4:=froz_at HBg.out 4;go_wp2_with fail
   go_ret
   exact⟨by rw[HNO.out (fun h=>H2.out h.2.1)];rfl,HW.out⟩
  have hq2:=bs_yes h2;have hq3:(nm.toList != ym.toList)=false:=by unfold bne;rw[hq2];rfl
  have H2:=Lib.hid h2;clear h2;have HW:=Lib.hid (Below.refl w.heap.size w);go_enter Tryz.func17,Tryz.ntmps17
  obtain⟨x1,kf,ef,ekf,hbf,hkf,HBf⟩:=newV w #[.int .i64 o,.bool b,.slice ao l c,.string nm,.slice ko kl kc] 29;replace HX:=Lib.hid (HX.out.below hbf.out);replace HX2:=Lib.hid (HX2.out.below hbf.out);replace HW:=Lib.hid (HW.out.trans (hbf.out.mono HW.out.size));replace HZ:=Lib.hid (HZ.out.below hbf.out);replace HY:=Lib.hid (HY.out.below hbf.out);obtain⟨x2,kg,eg,ekg,hbg,hkg,HBg⟩:=newV x1 #[.int .i64 p,.bool b2,.slice ao2 l2 c2,.string ym,.slice ko2 kl2 kc2] 29;replace HBf:=kBV hbg.out HBf;replace HX:=Lib.hid (HX.out.below hbg.out);replace HX2:=Lib.hid (HX2.out.below hbg.out);replace HW:=Lib.hid (HW.out.trans (hbg.out.mono HW.out.size));replace HZ:=Lib.hid (HZ.out.below hbg.out);replace HY:=Lib.hid (HY.out.below hbg.out);have xf0:=cell_at (v:=.int .i64 o) HBf.out 0 rfl;have fxf0:=froz_at HBf.out 0
  have xf1:=cell_at (v:=.bool b) HBf.out 1 rfl;have fxf1:=froz_at HBf.out 1;have xf2:=cell_at (v:=.slice ao l c) HBf.out 2 rfl;have fxf2:=froz_at HBf.out 2;have xf3:=cell_at (v:=.string nm) HBf.out 3 rfl;have fxf3:=froz_at HBf.out 3;have xf4:=cell_at (v:=.slice ko kl kc) HBf.out 4 rfl;have fxf4:=froz_at HBf.out 4;have xg0:=cell_at (v:=.int .i64 p) HBg.out 0 rfl;have fxg0:=froz_at HBg.out 0;have xg1:=cell_at (v:=.bool b2) HBg.out 1 rfl;have fxg1:=froz_at HBg.out 1;have xg2:=cell_at (v:=.slice ao2 l2 c2) HBg.out 2 rfl;have fxg2:=froz_at HBg.out 2;have xg3:=cell_at (v:=.string ym) HBg.out 3 rfl;have fxg3:=froz_at HBg.out 3;have xg4:=cell_at (v:=.slice ko2 kl2 kc2) HBg.out 4 rfl;have fxg4:=froz_at HBg.out 4;go_wp2_with fail
  refine (wcmp_any _ _ z y 600 600 x2 HZ.out.gi HY.out.gi (by decide) (by decide)).mono ?_;rintro e x3 ⟨rfl,hb⟩;clear xf0 fxf0 xf1 fxf1 xf2 fxf2 xf3 fxf3 xf4 fxf4 xg0 fxg0 xg1 fxg1 xg2 fxg2 xg3 fxg3 xg4 fxg4;replace HBf:=kBV hb HBf;replace HBg:=kBV hb HBg;replace HX:=Lib.hid (HX.out.below hb);replace HX2:=Lib.hid (HX2.out.below hb);replace HW:=Lib.hid (HW.out.trans (hb.mono HW.out.size));replace HZ:=Lib.hid (HZ.out.below hb);replace HY:=Lib.hid (HY.out.below hb);clear hb;obtain⟨q,hq⟩:∃ q,q=sgnZ (z - y):=⟨_,rfl⟩
  rw[<-hq]
  by_cases h3:z=y
  rotate_left
  ·have hqn:(q != 0)=true:=bne_iff_ne.2 (fun e=>h3 (sg_zero.1 (hq.symm.trans e)));clear hq;have xf0:=cell_at (v:=.int .i64 o) HBf.out 0 rfl;have fxf0:=froz_at HBf.out 0;have xf1:=cell_at (v:=.bool b) HBf.out 1 rfl;have fxf1:=froz_at HBf.out 1;have xf2:=cell_at (v:=.slice ao l c) HBf.out 2 rfl;have fxf2:=froz_at HBf.out 2;have xf3:=cell_at (v:=.string nm) HBf.out 3 rfl;have fxf3:=froz_at HBf.out 3;have xf4:=cell_at (v:=.slice ko kl kc) HBf.out 4 rfl;have fxf4:=froz_at HBf.out 4;have xg0:=cell_at (v:=.int .i64 p) HBg.out 0 rfl;have fxg0:=froz_at HBg.out 0;have xg1:=cell_at (v:=.bool b2) HBg.out 1 rfl;have fxg1:=froz_at HBg.out 1;have xg2:=cell_at (v:=.slice ao2 l2 c2) HBg.out 2 rfl;have fxg2:=froz_at HBg.out 2;have xg3:=cell_at (v:=.string ym) HBg.out 3 rfl;have fxg3:=froz_at HBg.out 3
   have xg4:=cell_at (v:=.slice ko2 kl2 kc2) HBg.out 4 rfl;have fxg4:=froz_at HBg.out 4;go_wp2_with fail
   go_ret
   exact⟨by rw[HNO.out (fun h=>h3 h.2.2.1)];rfl,HW.out⟩
  have hq0:q=0:=hq.trans (sg_zero.2 h3);subst hq0;clear hq;have H3:=Lib.hid h3;clear h3
  by_cases h4:kl=kl2
  rotate_left
  ·have hln:(((kl:Nat):Int) != ((kl2:Nat):Int))=true:=bne_iff_ne.2 (by omega);have H4:Hid (ks≠ls):=Lib.hid (fun e=>h4 (by rw[HN.out,HN2.out,e]));have xf0:=cell_at (v:=.int .i64 o) HBf.out 0 rfl;have fxf0:=froz_at HBf.out 0;have xf1:=cell_at (v:=.bool b) HBf.out 1 rfl;have fxf1:=froz_at HBf.out 1;have xf2:=cell_at (v:=.slice ao l c) HBf.out 2 rfl;have fxf2:=froz_at HBf.out 2;have xf3:=cell_at (v:=.string nm) HBf.out 3 rfl;have fxf3:=froz_at HBf.out 3;have xf4:=cell_at (v:=.slice ko kl kc) HBf.out 4 rfl;have fxf4:=froz_at HBf.out 4;have xg0:=cell_at (v:=.int .i64 p) HBg.out 0 rfl;have fxg0:=froz_at HBg.out 0;have xg1:=cell_at (v:=.bool b2) HBg.out 1 rfl;have fxg1:=froz_at HBg.out 1;have xg2:=cell_at (v:=.slice ao2 l2 c2) HBg.out 2 rfl;have fxg2:=froz_at HBg.out 2;have xg3:=cell_at (v:=.string ym) HBg.out 3 rfl
   have fxg3:=froz_at HBg.out 3;have xg4:=cell_at (v:=.slice ko2 kl2 kc2) HBg.out 4 rfl;have fxg4:=froz_at HBg.out 4;go_wp2_with fail
   go_ret
   exact⟨by rw[HNO.out (fun h=>H4.out h.2.2.2)];rfl,HW.out⟩
  subst h4;have xf0:=cell_at (v:=.int .i64 o) HBf.out 0 rfl;have fxf0:=froz_at HBf.out 0;have xf1:=cell_at (v:=.bool b) HBf.out 1 rfl;have fxf1:=froz_at HBf.out 1;have xf2:=cell_at (v:=.slice ao l c) HBf.out 2 rfl;have fxf2:=froz_at HBf.out 2;have xf3:=cell_at (v:=.string nm) HBf.out 3 rfl;have fxf3:=froz_at HBf.out 3;have xf4:=cell_at (v:=.slice ko kl kc) HBf.out 4 rfl;have fxf4:=froz_at HBf.out 4;have xg0:=cell_at (v:=.int .i64 p) HBg.out 0 rfl;have fxg0:=froz_at HBg.out 0;have xg1:=cell_at (v:=.bool b2) HBg.out 1 rfl;have fxg1:=froz_at HBg.out 1;have xg2:=cell_at (v:=.slice ao2 l2 c2) HBg.out 2 rfl;have fxg2:=froz_at HBg.out 2;have xg3:=cell_at (v:=.string ym) HBg.out 3 rfl;have fxg3:=froz_at HBg.out 3;have xg4:=cell_at (v:=.slice ko2 kl kc2) HBg.out 4 rfl;have fxg4:=froz_at HBg.out 4;go_wp2_with fail
  clear xf0 fxf0 xf1 fxf1 xf2 fxf2 xf3 fxf3 xf4 fxf4 xg0 fxg0 xg1 fxg1 xg2 fxg2 xg3 fxg3 xg4 fxg4
  go_loopw [38] (fun i wr=>∃ j:Nat,i=.int .i64 (j:Nat)/\j<=kl/\Hid (ks.take j=ls.take j)/\Hid (Below x3.heap.size x3 wr)) (fun i _=>kl - (intOf i).toNat)
  case atStart=>exact⟨0,rfl,Nat.zero_le _,Lib.hid rfl,Lib.hid (Below.refl _ _)⟩
  case round =>
   obtain⟨wl,hwl⟩:∃ q,q=wr:=⟨_,rfl⟩
   subst hwl;obtain⟨j,rfl,hj,HTK,HB⟩:=hrel;replace HX:=Lib.hid (HX.out.below HB.out);replace HX2:=Lib.hid (HX2.out.below HB.out);replace HW:=Lib.hid (HW.out.trans (HB.out.mono HW.out.size));replace HBf:=Lib.hid ((HB.out.block _ (lt_of_block HBf.out)).trans HBf.out);replace HBg:=Lib.hid ((HB.out.block _ (lt_of_block HBg.out)).trans HBg.out);clear HZ HY
   by_cases hlt:j<kl
   ·have hj1:j<ks.length:=by rw[<-HN.out];exact hlt
    have hj2:j<ls.length:=by rw[<-HN2.out];exact hlt
    have HJ1:=Lib.hid hj1;have HJ2:=Lib.hid hj2;obtain⟨a5,b5x,o5,l5,c5,p5,m5,q5,hko5,hcel,hf⟩:=HX.out.cells j hj1;obtain⟨x5,hx⟩:∃ x,x=(ks[j]'hj1).op:=⟨_,rfl⟩
    obtain⟨y5,hy⟩:∃ x,x=(ks[j]'hj1).name:=⟨_,rfl⟩
    rw[<-hx,<-hy] at hcel hf;obtain⟨k5,hkk⟩:∃ k,k=(ks[j]'hj1):=⟨_,rfl⟩
    rw[<-hkk] at hf;have HK5:Hid (k5=ks[j]'HJ1.out):=Lib.hid hkk;have HF5:=Lib.hid hf;have HC5:=Lib.hid hcel;clear hx hy hkk hf hcel;obtain⟨a6,b6x,o6,l6,c6,p6,m6,q6,hko6,hcel,hf⟩:=HX2.out.cells j hj2;obtain⟨x6,hx⟩:∃ x,x=(ls[j]'hj2).op:=⟨_,rfl⟩
    obtain⟨y6,hy⟩:∃ x,x=(ls[j]'hj2).name:=⟨_,rfl⟩
    rw[<-hx,<-hy] at hcel hf;obtain⟨k6,hkk⟩:∃ k,k=(ls[j]'hj2):=⟨_,rfl⟩
    rw[<-hkk] at hf;have HK6:Hid (k6=ls[j]'HJ2.out):=Lib.hid hkk;have HF6:=Lib.hid hf;have HC6:=Lib.hid hcel;clear hx hy hkk hf hcel;subst hko5;subst hko6;clear hj1 hj2;go_upto_region 6 with fail
    have hlt_f:=lt_of_block HBf.out;have hlt_g:=lt_of_block HBg.out;have hog:Hid (∀ q,q<0->(fun q=>0) q<wl.heap.size):=Lib.hid (fun q h=>absurd h (Nat.not_lt_zero _));refine R7.region (by kernel_rfl) [[],[0],[],[0,1,2],[0,1,2,3],[],[5],[],[5,6,7],[5,6,7,8],[0,1,2,3,4,5,6,7,8,9],[0,1,2,3,4,5,6,7,8,9,10]] [] [] (fun q=>0) 0 12 (by kernel_rfl) (by kernel_rfl) (by rfl) hog.out (fun q q' h h' hn=>absurd hn (by omega)) ?_;refine R7.Chain.det ?_ (by rfl) (fun T xs wr hA=>?_) ?_
    rotate_left 1
    ·have e2:=hA.pre 2 (by kernel_rfl);simp only[gsa,gsc,gsz] at e2;clear hA;refine⟨(by rfl),?_⟩;go_simp<;>(try with_reducible rfl)
    refine R7.Chain.det ?_ (by rfl) (fun T xs wr hA=>?_) ?_
    rotate_left 1
    ·have e41:=hA.tm 0 41 (by rfl) (by rfl);have f41:xs 0=_:=hA.fa 0 (by rfl)
     (try simp (disch:=first | rfl | decide) only [R7.mask_in] at f41)
     rw[f41] at e41;clear f41;have hBq:wr.heap[kf]?=_:=(hA.bl _ hlt_f (fun q h=>absurd h (Nat.not_lt_zero _))).trans HBf.out;have q0:=cell_at (v:=.int .i64 o) hBq 0 rfl;have q1:=cell_at (v:=.bool b) hBq 1 rfl;have q2:=cell_at (v:=.slice ao l c) hBq 2 rfl;have q3:=cell_at (v:=.string nm) hBq 3 rfl;have q4:=cell_at (v:=.slice (some a5) kl kc) hBq 4 rfl;clear hBq;clear hA;refine⟨(by rfl),?_⟩;go_simp<;>(try with_reducible rfl)
    refine R7.Chain.det ?_ (by rfl) (fun T xs wr hA=>?_) ?_
    rotate_left 1
    ·have e5:=hA.pre 5 (by kernel_rfl);simp only[gsa,gsc,gsz] at e5;clear hA;refine⟨(by rfl),?_⟩;go_simp<;>(try with_reducible rfl)
    refine R7.Chain.det ?_ (by rfl) (fun T xs wr hA=>?_) ?_
    rotate_left 1
    ·have e42:=hA.tm 1 42 (by rfl) (by rfl);have f42:xs 1=_:=hA.fa 1 (by rfl)
     (try simp (disch:=first | rfl | decide) only [R7.mask_in] at f42)
     rw[f42] at e42;clear f42;have e43:=hA.tm 2 43 (by rfl) (by rfl);have f43:xs 2=_:=hA.fa 2 (by rfl)
     (try simp (disch:=first | rfl | decide) only [R7.mask_in] at f43)
     rw[f43] at e43;clear f43;clear hA;refine⟨(by rfl),?_⟩;go_simp<;>(try with_reducible rfl)
    refine R7.Chain.det ?_ (by rfl) (fun T xs wr hA=>?_) ?_
    rotate_left 1
    ·have e44:=hA.tm 3 44 (by rfl) (by rfl);have f44:xs 3=_:=hA.fa 3 (by rfl)
     (try simp (disch:=first | rfl | decide) only [R7.mask_in] at f44)
     rw[f44] at e44;clear f44;have hbw:=undrew (hA.be wl.heap.size (Nat.le_refl _) (fun q h=>absurd h (Nat.not_lt_zero q)));obtain⟨g0,g1,g2,g3,g4⟩:=HC5.out;rw[<-hbw.cell (cell_lt g0)] at g0;rw[<-hbw.cell (cell_lt g1)] at g1;rw[<-hbw.cell (cell_lt g2)] at g2;rw[<-hbw.cell (cell_lt g3)] at g3;rw[<-hbw.cell (cell_lt g4)] at g4;clear hA;refine⟨(by rfl),?_⟩;go_simp<;>(try with_reducible rfl)
    refine R7.Chain.det ?_ (by rfl) (fun T xs wr hA=>?_) ?_
    rotate_left 1
    ·have e3:=hA.pre 3 (by kernel_rfl);simp only[gsa,gsc,gsz] at e3;clear hA;refine⟨(by rfl),?_⟩;go_simp<;>(try with_reducible rfl)
    refine R7.Chain.det ?_ (by rfl) (fun T xs wr hA=>?_) ?_
    rotate_left 1
    ·have e46:=hA.tm 5 46 (by rfl) (by rfl);have f46:xs 5=_:=hA.fa 5 (by rfl)
     (try simp (disch:=first | rfl | decide) only [R7.mask_in] at f46)
     rw[f46] at e46;clear f46;have hBq:wr.heap[kg]?=_:=(hA.bl _ hlt_g (fun q h=>absurd h (Nat.not_lt_zero _))).trans HBg.out;have q0:=cell_at (v:=.int .i64 p) hBq 0 rfl;have q1:=cell_at (v:=.bool b2) hBq 1 rfl;have q2:=cell_at (v:=.slice ao2 l2 c2) hBq 2 rfl;have q3:=cell_at (v:=.string ym) hBq 3 rfl;have q4:=cell_at (v:=.slice (some a6) kl kc2) hBq 4 rfl;clear hBq;clear hA;refine⟨(by rfl),?_⟩;go_simp<;>(try with_reducible rfl)
    refine R7.Chain.det ?_ (by rfl) (fun T xs wr hA=>?_) ?_
    rotate_left 1
    ·have e5:=hA.pre 5 (by kernel_rfl);simp only[gsa,gsc,gsz] at e5;clear hA;refine⟨(by rfl),?_⟩;go_simp<;>(try with_reducible rfl)
    refine R7.Chain.det ?_ (by rfl) (fun T xs wr hA=>?_) ?_
    rotate_left 1
    ·have e47:=hA.tm 6 47 (by rfl) (by rfl);have f47:xs 6=_:=hA.fa 6 (by rfl)
     (try simp (disch:=first | rfl | decide) only [R7.mask_in] at f47)
     rw[f47] at e47;clear f47;have e48:=hA.tm 7 48 (by rfl) (by rfl);have f48:xs 7=_:=hA.fa 7 (by rfl)
     (try simp (disch:=first | rfl | decide) only [R7.mask_in] at f48)
     rw[f48] at e48;clear f48;clear hA;refine⟨(by rfl),?_⟩;go_simp<;>(try with_reducible rfl)
    refine R7.Chain.det ?_ (by rfl) (fun T xs wr hA=>?_) ?_
    rotate_left 1
    ·have e49:=hA.tm 8 49 (by rfl) (by rfl);have f49:xs 8=_:=hA.fa 8 (by rfl)
     (try simp (disch:=first | rfl | decide) only [R7.mask_in] at f49)
     rw[f49] at e49;clear f49;have hbw:=undrew (hA.be wl.heap.size (Nat.le_refl _) (fun q h=>absurd h (Nat.not_lt_zero q)));obtain⟨g0,g1,g2,g3,g4⟩:=HC6.out;rw[<-hbw.cell (cell_lt g0)] at g0;rw[<-hbw.cell (cell_lt g1)] at g1;rw[<-hbw.cell (cell_lt g2)] at g2;rw[<-hbw.cell (cell_lt g3)] at g3;rw[<-hbw.cell (cell_lt g4)] at g4;clear hA;refine⟨(by rfl),?_⟩;go_simp<;>(try with_reducible rfl)
    refine R7.Chain.call (fun xs v w=>v=.bool (decide (k5=k6))) (fun _ _ _ _ h _=>h) (fun _ _ _ _ _ h _ _=>h) (by rfl) (fun T xs wr hA=>?_) ?_
    ·have hsw:=(hA.be 0 (Nat.zero_le _) (fun _ _=>Nat.zero_le _)).size;have e45:=hA.tm 4 45 (by rfl) (by rfl);have f45:xs 4=_:=hA.fa 4 (by rfl)
     (try simp (disch:=first | rfl | decide) only [R7.mask_in] at f45)
     rw[f45] at e45;clear f45;have e50:=hA.tm 9 50 (by rfl) (by rfl);have f50:xs 9=_:=hA.fa 9 (by rfl)
     (try simp (disch:=first | rfl | decide) only [R7.mask_in] at f50)
     rw[f50] at e50;clear f50;have hbw:=undrew (hA.be wl.heap.size (Nat.le_refl _) (fun q h=>absurd h (Nat.not_lt_zero q)));have hf5:=HF5.out.below hbw;have hf6:=HF6.out.below hbw;clear hA;refine⟨(by rfl),fun K hK=>?_⟩;go_simp
     refine (IH.out _ _ k5 k6 _ _ _ hf5 hf6).mono ?_;rintro e w' ⟨rfl,hb'⟩;exact hK.out _ _ rfl hb'
    refine R7.Chain.det ?_ (by rfl) (fun T xs wr hA=>?_) ?_
    rotate_left 1
    ·have e51:=hA.tm 10 51 (by rfl) (by rfl);have f51:xs 10=(.bool (decide (k5=k6))):=hA.fa 10 (by rfl);rw[f51] at e51;clear f51;clear hA;refine⟨(by rfl),?_⟩;go_simp<;>(try with_reducible rfl)
    refine R7.Chain.done (fun xs x4 hL=>?_);obtain⟨⟨hbe,hbl⟩,hf,-,-⟩:=hL;have f0:xs 0=_:=hf 0 (by decide)
    (try simp (disch:=first | rfl | decide) only [R7.mask_in] at f0)
    have f1:xs 1=_:=hf 1 (by decide)
    (try simp (disch:=first | rfl | decide) only [R7.mask_in] at f1)
    have f2:xs 2=_:=hf 2 (by decide)
    (try simp (disch:=first | rfl | decide) only [R7.mask_in] at f2)
    have f3:xs 3=_:=hf 3 (by decide)
    (try simp (disch:=first | rfl | decide) only [R7.mask_in] at f3)
    have f4:xs 4=_:=hf 4 (by decide)
    (try simp (disch:=first | rfl | decide) only [R7.mask_in] at f4)
    have f5:xs 5=_:=hf 5 (by decide)
    (try simp (disch:=first | rfl | decide) only [R7.mask_in] at f5)
    have f6:xs 6=_:=hf 6 (by decide)
    (try simp (disch:=first | rfl | decide) only [R7.mask_in] at f6)
    have f7:xs 7=_:=hf 7 (by decide)
    (try simp (disch:=first | rfl | decide) only [R7.mask_in] at f7)
    have f8:xs 8=_:=hf 8 (by decide)
    (try simp (disch:=first | rfl | decide) only [R7.mask_in] at f8)
    have f9:xs 9=_:=hf 9 (by decide)
    (try simp (disch:=first | rfl | decide) only [R7.mask_in] at f9)
    have f10:xs 10=(.bool (decide (k5=k6))):=hf 10 (by decide);have f11:xs 11=_:=hf 11 (by decide)
    (try simp (disch:=first | rfl | decide) only [R7.mask_in] at f11)
    have hb0:Below 0 wl x4:=undrew (hbe 0 (Nat.zero_le _) (fun _ _=>Nat.zero_le _));have hgr:∀ j,j<wl.heap.size->(∀ q,q<0->(fun q=>0) q≠j)->x4.heap[j]?=wl.heap[j]?:=hbl;clear hbe hbl hf;have hb:Below wl.heap.size wl x4:=⟨hb0.os,hb0.tape,hb0.output,hb0.size,fun q hq=>hgr q hq (fun q h=>absurd h (Nat.not_lt_zero _))⟩
    refine R7.rest_done ?_;simp only[R7.fill,t5_,t6_,t7_,f0,f1,f2,f3,f4,f5,f6,f7,f8,f9,f10,f11];clear hb0 hgr hog hlt_f hlt_g f0 f1 f2 f3 f4 f5 f6 f7 f8 f9 f10 f11;replace HBf:=kBV hb HBf;replace HBg:=kBV hb HBg;replace HW:=Lib.hid (HW.out.trans (hb.mono HW.out.size));replace HB:=Lib.hid (HB.out.trans (hb.mono HB.out.size));replace HF5:=Lib.hid (HF5.out.below hb);replace HF6:=Lib.hid (HF6.out.below hb);replace hb:=Lib.hid hb
    by_cases hk:k5=k6
    ·have hd:decide (k5=k6)=true:=decide_eq_true hk;have HKE:Hid (ks[j]'HJ1.out=ls[j]'HJ2.out):=Lib.hid (by rw[<-HK5.out,<-HK6.out];exact hk);rw[hd];clear hk hd;go_wp2_with fail
     go_roundw
     case rel=>exact⟨j+1,by go_num,hlt,Lib.hid (take_next_eq HJ1.out HJ2.out HTK.out HKE.out),HB⟩
     case measure=>simp[intOf];omega
    have hd:decide (k5=k6)=false:=decide_eq_false hk;have HKE:Hid (ks≠ls):=Lib.hid (fun e=>hk (by rw[HK5.out,HK6.out];subst e;rfl));rw[hd];clear hk hd;go_wp2_with fail
    all_goals go_ret
    all_goals exact⟨by rw[HNO.out (fun h=>HKE.out h.2.2.2)];rfl,HW.out⟩
   have HKE:Hid (ks=ls):=Lib.hid (by have h9:=HTK.out;rw[show j=kl by omega] at h9;rwa [HN.out,List.take_length,<-HN.out,HN2.out,List.take_length] at h9);go_wp2_with fail
   all_goals go_ret
   all_goals exact⟨by rw[HYES.out ⟨H1.out,H2.out,H3.out,HKE.out⟩];rfl,HW.out⟩
namespace Rel9
open R7
def upd (d:Nat->Bool) (i:Nat):Nat->Bool:=fun j=>decide (j=i) || d j
section
variable {P:Program} {ops:List Oper} {D:List (List Nat)} {m:Nat} {t0:Array Value} {ds:List Deferred} {Q:Exit->Act->World->Prop}
theorem main (hok:ok ops D m t0.size=true) (hin:inOrder ops m=true) (J:(Nat->Bool)->Array Value->World->Prop)
  (hstep:∀ d T wc i o,J d T wc->ops[i]?=some o->i<m->d i=false->(∀ j,(dep D i).contains j=true->d j=true)->(∀ j k,d j=true->(dep D j).contains k=true->d k=true)->o.guard=none/\∀ K:Act->World->Prop,Hid (∀ T' w',J (upd d i) T' w'->K ⟨T',ds⟩ w')->o.wp P ⟨T,ds⟩ wc K Q)
  (hrest:∀ T wc,J (fun j=>decide (j<m)) T wc->wpList P ops.toArray Q (ops.drop m) ⟨T,ds⟩ wc) :
  ∀ (fuel:Nat) (l:Array Bool) (T:Array Value) (w:World),l.size=ops.length->l.toList.count false=fuel->(∀ j,l.getD j false=true->j<m)->(∀ j k,l.getD j false=true->(dep D j).contains k=true->l.getD k false=true)->J (fun j=>l.getD j false) T w->wpAny P .any ops.toArray Q fuel l ⟨T,ds⟩ w:=by
 have hml:=ok_len hok
 have fin:∀ (l:Array Bool) (T:Array Value) (w:World),l.size=ops.length->(∀ j,l.getD j false=true->j<m)->(∀ j,j<m->l.getD j false=true)->J (fun j=>l.getD j false) T w->wpAny P .any ops.toArray Q (l.toList.count false) l ⟨T,ds⟩ w:=by
  intro l T w hs hlt hall hJ
  have hl:l=lst ops.length m:=by
   refine Array.ext (by simp[lst,hs];omega) fun i h1 h2=>?_
   have e1:l[i]=l.getD i false:=by simp[Array.getD_eq_getD_getElem?,h1]
   rw[e1]
   by_cases hi:i<m
   ·rw[hall i hi];simp[lst,hi]
   have:l.getD i false=false:=by
    cases h:l.getD i false with
    | false=>rfl
    | true=>exact absurd (hlt i h) hi
   rw[this];simp[lst,List.getElem_append,hi]
  have hJ2:(fun j=>l.getD j false)=fun j=>decide (j<m):=funext fun j=>by
   by_cases hj:j<m
   ·rw[hall j hj];simp[hj]
   cases h:l.getD j false with
   | false=>simp[hj]
   | true=>exact absurd (hlt j h) hj
  rw[hJ2] at hJ;have hc:l.toList.count false=ops.length - m:=by rw[hl];simp[lst,List.count_append,List.count_replicate]
  rw[hc,hl];refine rest_any (ops.length - m) m (by omega) (fun i h1 h2=>?_) _ _ (hrest T w hJ);unfold inOrder at hin;have:=List.all_eq_true.1 hin i (List.mem_range.2 h2);simp only[Bool.or_eq_true,decide_eq_true_eq,beq_iff_eq] at this;exact this.resolve_left (by omega)
 intro fuel
 induction fuel with
 | zero =>
  intro l T w hs hc hlt hcl hJ;rw[<-hc];refine fin l T w hs hlt (fun j hj=>?_) hJ;rw[Array.getD_eq_getD_getElem?,Array.getElem?_eq_getElem (by omega)];simp only[Option.getD_some];have h0:=List.count_eq_zero.1 hc
  cases h:l[j]'(by omega) with
  | true=>rfl
  | false=>exact absurd (by rw[<-h];simp) h0
 | succ fuel ih =>
  intro l T w hs hc hlt hcl hJ
  by_cases hall:∀ j,j<m->l.getD j false=true
  ·rw[<-hc];exact fin l T w hs hlt hall hJ
  have tf:∀ i,i<ops.length->(l.getD i true=false ↔ l.getD i false=false):=fun i hi=>by simp[Array.getD_eq_getD_getElem?,show i<l.size by omega]
  refine⟨fun h0=>?_,fun i hi=>?_⟩
  ·-- the first that has not come up may come up
   have:∃ j,(j<m/\l.getD j false≠true)/\∀ i,i<j->l.getD i false=true:=by
    obtain⟨j,hj⟩:=Classical.not_forall.1 hall;obtain⟨hj1,hj2⟩:=Classical.not_imp.1 hj;clear hj
    induction j using Nat.strongRecOn with
    | ind j ihj =>
     by_cases h:∀ i,i<j->l.getD i false=true
     ·exact⟨j,⟨hj1,hj2⟩,h⟩
     obtain⟨i,hi⟩:=Classical.not_forall.1 h;obtain⟨hi1,hi2⟩:=Classical.not_imp.1 hi;exact ihj i hi1 (by omega) hi2
   obtain⟨j,⟨hj1,hj2⟩,hj3⟩:=this;have hjl:j<ops.length:=by omega
   have hm:j ∈ Region.ready .any ops.toArray l:=by
    rw[mem_ready];refine⟨(tf j hjl).2 (by simpa using hj2),ops[j],by simp[hjl],fun e he hb=>hj3 _ ?_⟩;exact (ok_at hok (List.getElem?_eq_getElem hjl)).1 e he hb
   rw[h0] at hm;cases hm
  obtain⟨h1,o,ho,he⟩:=mem_ready.1 hi;have ho':ops[i]?=some o:=by simpa using ho
  have hil:i<ops.length:=(List.getElem?_eq_some_iff.1 ho').1;have h1':=(tf i hil).1 h1;have hk:=ok_at hok ho'
  have hdep:∀ j,(dep D i).contains j=true->l.getD j false=true:=fun j hj=>by
   obtain⟨⟨e,e1,e2,e3⟩,-,-⟩:=hk.2.1 j hj;have:=he e e1 e2;rcases e3 with e3 | e3
   ·rw[<-e3];exact this
   exact hcl _ _ this e3
  have him:i<m:=by
   rcases hk.2.2.1 with h | h
   ·exact h
   exact absurd (fun j hj=>hdep j (h j hj)) hall
  obtain⟨hg,hw⟩:=hstep _ T w i o hJ ho' him h1' hdep hcl;unfold wpOp;rw[ho];have hwant:Region.wanted o (yielded ops.toArray T)=true:=by unfold Region.wanted;rw[hg]
  simp only[hwant,if_true];refine Or.inl (hw _ (Lib.hid fun T' w' hJ'=>?_));have hli:i<l.size:=by omega
  have hup:(fun j=>(l.setIfInBounds i true).getD j false)=upd (fun j=>l.getD j false) i:=funext fun j=>R7.getD_set hli
  have hget:l.toList[i]?=some false:=by
   rw[Array.getElem?_toList,Array.getElem?_eq_getElem hli];have:=h1';rw[Array.getD_eq_getD_getElem?,Array.getElem?_eq_getElem hli] at this;exact congrArg some this
  refine ih _ T' w' (by simpa using hs) ?_ (fun j hj=>?_) (fun j k hj hjk=>?_) (by rw[hup];exact hJ')
  ·rw[Array.toList_setIfInBounds];have:=count_false hget
   omega
  ·rw[R7.getD_set hli,Bool.or_eq_true,decide_eq_true_eq] at hj;rcases hj with rfl | hj
   ·exact him
   exact hlt j hj
  rw[R7.getD_set hli,Bool.or_eq_true,decide_eq_true_eq] at hj ⊢;rcases hj with rfl | hj
  ·exact .inr (hdep k hjk)
  exact .inr (hcl j k hj hjk)
theorem region {id:Nat} {w:World} (hm:P.follows .mixedOrders=true) (D:List (List Nat)) (m:Nat) (hok:ok ops D m t0.size=true) (hin:inOrder ops m=true) (J:(Nat->Bool)->Array Value->World->Prop)
  (h0:J (fun _=>false) t0 w.drew)
  (hstep:∀ d T wc i o,J d T wc->ops[i]?=some o->i<m->d i=false->(∀ j,(dep D i).contains j=true->d j=true)->(∀ j k,d j=true->(dep D j).contains k=true->d k=true)->o.guard=none/\∀ K:Act->World->Prop,Hid (∀ T' w',J (upd d i) T' w'->K ⟨T',ds⟩ w')->o.wp P ⟨T,ds⟩ wc K Q)
  (hrest:∀ T wc,J (fun j=>decide (j<m)) T wc->wpList P ops.toArray Q (ops.drop m) ⟨T,ds⟩ wc):(Code.region id ops.toArray true).wp P Q ⟨t0,ds⟩ w:=by
 refine wp_region_any hm ?_
 have hno:(fun j=>(Array.replicate ops.toArray.size false).getD j false)=fun _=>false:=funext fun j=>by
  rw[Array.getD_eq_getD_getElem?]
  by_cases h:j<ops.length<;>simp[h]
 have hnn:∀ j,(Array.replicate ops.toArray.size false).getD j false=true->False:=fun j hj=>by
  have:=congrFun hno j;rw[this] at hj;cases hj
 have hc:(Array.replicate ops.toArray.size false).toList.count false=ops.toArray.size:=by simp
 exact main hok hin J hstep hrest _ _ t0 _ (by simp) hc (fun j hj=>(hnn j hj).elim) (fun j k hj=>(hnn j hj).elim) (by rw[hno];exact h0)
end
end Rel9
end Go.Proofs.YtdkfnbbebpbhaaaGreatDoor
namespace Go.Proofs.YtdkfnbbebpbhaaaGreatDoor
open Go.RowKit
set_option maxRecDepth 100000
set_option linter.unusedVariables false
set_option linter.unusedSimpArgs false
def zFA:Obj:=.cells #[.int .i64 0,.bool false,.slice none 0 0,.string ⟨#[]⟩,.slice none 0 0] 29 (0,0)
def ptrV (g:Nat):Value:=.pointer (some ⟨g,0,none⟩)
theorem ptr_inj {g h:Nat} (e:(some (ptrV g):Option Value)=some (ptrV h)):g=h:=by unfold ptrV at e;injection e with e;injection e with e;injection e with e;injection e
def TrJ (w:World) (T:Array Value) (s a b:Nat) (D:Nat) (P:F->Prop) (da db:Bool):Prop:=
 ∃ y t lo hi,T[s]?=some (fV y)/\FT w (fun q=>lo<=q/\q<hi) D y t/\hi<=w.heap.size/\P t/\(∀ g,da=true->T[a]?=some (ptrV g)->g<lo\/hi<=g)/\(∀ g,db=true->T[b]?=some (ptrV g)->g<lo\/hi<=g)
def VaJ (W0 w:World) (T:Array Value) (s:Nat):Prop:=∃ g,T[s]?=some (ptrV g)/\W0.heap.size<=g/\w.heap[g]?=some zFA
structure TJ (W0:World) (t0:Array Value) (sl:Nat->Nat) (X Y:Value) (D1 D3:Nat) (P1 P3:F->Prop) (d:Nat->Bool) (T:Array Value) (w:World):Prop where
 be:Below W0.heap.size W0 w
 sz:T.size=t0.size
 oth:∀ j,(∀ i,i<6->j≠sl i)->T[j]?=t0[j]?
 v0:d 0=true->T[sl 0]?=some X
 v2:d 2=true->T[sl 2]?=some Y
 v1:d 1=true->TrJ w T (sl 1) (sl 4) (sl 5) D1 P1 (d 4) (d 5)
 v3:d 3=true->TrJ w T (sl 3) (sl 4) (sl 5) D3 P3 (d 4) (d 5)
 v4:d 4=true->VaJ W0 w T (sl 4)
 v5:d 5=true->VaJ W0 w T (sl 5)
 v45:d 4=true->d 5=true->T[sl 4]? ≠ T[sl 5]?
section
variable {W0:World} {t0:Array Value} {sl:Nat->Nat} {X Y:Value} {D1 D3:Nat} {P1 P3:F->Prop} {d:Nat->Bool} {T:Array Value} {w w':World}
theorem set_ne {T:Array Value} {i j:Nat} {v:Value} (h:j≠i):(T.setIfInBounds i v)[j]?=T[j]?:=by
 rw[Array.getElem?_setIfInBounds];simp[h.symm]
theorem set_eq {T:Array Value} {i:Nat} {v:Value} (h:i<T.size):(T.setIfInBounds i v)[i]?=some v:=by
 rw[Array.getElem?_setIfInBounds];simp[h]
theorem upd_ne' {d:Nat->Bool} {i k:Nat} (h:k≠i):Rel9.upd d i k=d k:=by unfold Rel9.upd;simp[h]
theorem TJ.step (h:TJ W0 t0 sl X Y D1 D3 P1 P3 d T w) (hne:∀ i j,i<6->j<6->i≠j->sl i≠sl j) (hlt:∀ i,i<6->sl i<t0.size) (i:Nat) (hi:i<6) (hd:d i=false) (v:Value) (hb:Below w.heap.size w w')
  (n0:i=0->v=X) (n2:i=2->v=Y) (n1:i=1->∃ y t,v=fV y/\FT w' (fun b=>w.heap.size<=b) D1 y t/\P1 t) (n3:i=3->∃ y t,v=fV y/\FT w' (fun b=>w.heap.size<=b) D3 y t/\P3 t)
  (n4:i=4->v=ptrV w.heap.size/\w'.heap[w.heap.size]?=some zFA) (n5:i=5->v=ptrV w.heap.size/\w'.heap[w.heap.size]?=some zFA):TJ W0 t0 sl X Y D1 D3 P1 P3 (Rel9.upd d i) (T.setIfInBounds (sl i) v) w':=by
 have hsz:sl i<T.size:=by rw[h.sz];exact hlt i hi
 have hwW:W0.heap.size<=w.heap.size:=h.be.size;have get:∀ k,k<6->k≠i->(T.setIfInBounds (sl i) v)[sl k]?=T[sl k]?:=fun k hk hki=>set_ne (hne k i hk hi hki)
 have geti:(T.setIfInBounds (sl i) v)[sl i]?=some v:=set_eq hsz
 have vlt:∀ k,k=4\/k=5->d k=true->∀ g,T[sl k]?=some (ptrV g)->g<w.heap.size:=by
  intro k hk hdk g hg;have:VaJ W0 w T (sl k):=by rcases hk with rfl | rfl;exact h.v4 hdk;exact h.v5 hdk
  obtain⟨q,hq,_,hc⟩:=this;rw[hq] at hg;rw[<-ptr_inj hg];exact lt_of_block hc
 have var:∀ k,k=4\/k=5->(d k=true->VaJ W0 w T (sl k))->(i=k->v=ptrV w.heap.size/\w'.heap[w.heap.size]?=some zFA)->Rel9.upd d i k=true->VaJ W0 w' (T.setIfInBounds (sl i) v) (sl k):=by
  intro k hk hv hn hu
  by_cases hki:k=i
  ·subst hki;obtain⟨e1,e2⟩:=hn rfl;exact⟨w.heap.size,by rw[geti,e1],hwW,e2⟩
  rw[upd_ne' hki] at hu;obtain⟨g,h1,h2,h3⟩:=hv hu;exact⟨g,by rw[get k (by omega) hki];exact h1,h2,by rw[hb.block g (lt_of_block h3)];exact h3⟩
 -- what a variable's address says of blocks made earlier and later
 have adr:∀ k,k=4\/k=5->∀ lo hi,hi<=w.heap.size->(∀ g,d k=true->T[sl k]?=some (ptrV g)->g<lo\/hi<=g)->(i=k->v=ptrV w.heap.size)->∀ g,Rel9.upd d i k=true->(T.setIfInBounds (sl i) v)[sl k]?=some (ptrV g)->g<lo\/hi<=g:=by
  intro k hk lo hi' hhi ho hn g hu hg
  by_cases hki:k=i
  ·subst hki;rw[geti,hn rfl] at hg;have:=ptr_inj hg
   omega
  rw[upd_ne' hki] at hu;rw[get k (by omega) hki] at hg;exact ho g hu hg
 have tree:∀ s D P,s=1\/s=3->(d s=true->TrJ w T (sl s) (sl 4) (sl 5) D P (d 4) (d 5))->(i=s->∃ y t,v=fV y/\FT w' (fun b=>w.heap.size<=b) D y t/\P t)->Rel9.upd d i s=true->TrJ w' (T.setIfInBounds (sl i) v) (sl s) (sl 4) (sl 5) D P (Rel9.upd d i 4) (Rel9.upd d i 5):=by
  intro s D P hs ho hn hu
  by_cases hsi:s=i
  ·subst hsi;obtain⟨y,t,e1,e2,e3⟩:=hn rfl;have h4:Rel9.upd d s 4=d 4:=upd_ne' (by omega);have h5:Rel9.upd d s 5=d 5:=upd_ne' (by omega);refine⟨y,t,w.heap.size,w'.heap.size,by rw[geti,e1],e2.lt,Nat.le_refl _,e3,fun g hg hgt=>?_,fun g hg hgt=>?_⟩
   ·rw[h4] at hg;rw[get 4 (by omega) (by omega)] at hgt;exact .inl (vlt 4 (.inl rfl) hg g hgt)
   rw[h5] at hg;rw[get 5 (by omega) (by omega)] at hgt;exact .inl (vlt 5 (.inr rfl) hg g hgt)
  rw[upd_ne' hsi] at hu;obtain⟨y,t,lo,hi',a1,a2,a3,a4,a5,a6⟩:=ho hu;exact⟨y,t,lo,hi',by rw[get s (by omega) hsi];exact a1,a2.below hb,Nat.le_trans a3 hb.size,a4,adr 4 (.inl rfl) lo hi' a3 a5 (fun e=>(n4 e).1),adr 5 (.inr rfl) lo hi' a3 a6 (fun e=>(n5 e).1)⟩
 refine⟨h.be.trans (hb.mono hwW),by rw[Array.size_setIfInBounds,h.sz],fun j hj=>?_,fun hu=>?_,fun hu=>?_,tree 1 D1 P1 (.inl rfl) h.v1 n1,tree 3 D3 P3 (.inr rfl) h.v3 n3,var 4 (.inl rfl) h.v4 n4,var 5 (.inr rfl) h.v5 n5,fun h4 h5=>?_⟩
 ·rw[set_ne (hj i hi)];exact h.oth j hj
 ·by_cases hi0:i=0
  ·subst hi0;rw[geti,n0 rfl]
  rw[upd_ne' (fun e=>hi0 e.symm)] at hu;rw[get 0 (by omega) (fun e=>hi0 e.symm)];exact h.v0 hu
 ·by_cases hi0:i=2
  ·subst hi0;rw[geti,n2 rfl]
  rw[upd_ne' (fun e=>hi0 e.symm)] at hu;rw[get 2 (by omega) (fun e=>hi0 e.symm)];exact h.v2 hu
 by_cases h4i:i=4
 ·subst h4i;rw[upd_ne' (by omega)] at h5;rw[get 5 (by omega) (by omega),geti,(n4 rfl).1];intro e;have:=vlt 5 (.inr rfl) h5 _ e.symm
  omega
 rw[upd_ne' (fun e=>h4i e.symm)] at h4
 by_cases h5i:i=5
 ·subst h5i;rw[get 4 (by omega) (by omega),geti,(n5 rfl).1];intro e;have:=vlt 4 (.inl rfl) h4 _ e
  omega
 rw[upd_ne' (fun e=>h5i e.symm)] at h5;rw[get 4 (by omega) (fun e=>h4i e.symm),get 5 (by omega) (fun e=>h5i e.symm)];exact h.v45 h4 h5
theorem TJ.start (W0:World) (t0:Array Value) (sl:Nat->Nat) (X Y:Value) (D1 D3:Nat) (P1 P3:F->Prop):TJ W0 t0 sl X Y D1 D3 P1 P3 (fun _=>false) t0 W0.drew:=
 ⟨(Below.refl _ _).drew,rfl,fun _ _=>rfl,fun h=>absurd h Bool.false_ne_true,fun h=>absurd h Bool.false_ne_true,fun h=>absurd h Bool.false_ne_true,fun h=>absurd h Bool.false_ne_true,fun h=>absurd h Bool.false_ne_true,fun h=>absurd h Bool.false_ne_true,fun h=>absurd h Bool.false_ne_true⟩
theorem TJ.all (h:TJ W0 t0 sl X Y D1 D3 P1 P3 (fun j=>decide (j<6)) T w):∃ y1 t1 y3 t3 g4 g5,(T[sl 1]?=some (fV y1)/\T[sl 3]?=some (fV y3)/\T[sl 4]?=some (ptrV g4)/\T[sl 5]?=some (ptrV g5)) /\
  FT w (fun b=>b≠g4/\b≠g5) D1 y1 t1/\FT w (fun b=>b≠g4/\b≠g5) D3 y3 t3/\P1 t1/\P3 t3/\(W0.heap.size<=g4/\W0.heap.size<=g5/\g4≠g5)/\w.heap[g4]?=some zFA/\w.heap[g5]?=some zFA:=by
 obtain⟨y1,t1,lo,hi,a1,a2,a3,a4,a5,a6⟩:=h.v1 rfl;obtain⟨y3,t3,lo',hi',b1,b2,b3,b4,b5,b6⟩:=h.v3 rfl;obtain⟨g4,c1,c2,c3⟩:=h.v4 rfl;obtain⟨g5,d1,d2,d3⟩:=h.v5 rfl;have x4:=a5 g4 rfl c1;have x5:=a6 g5 rfl d1;have z4:=b5 g4 rfl c1;have z5:=b6 g5 rfl d1;exact⟨y1,t1,y3,t3,g4,g5,⟨a1,b1,c1,d1⟩,a2.mono (fun b hb=>⟨by omega,by omega⟩),b2.mono (fun b hb=>⟨by omega,by omega⟩),a4,b4,⟨c2,d2,fun e=>h.v45 rfl rfl (by rw[c1,d1,e])⟩,c3,d3⟩
theorem frame6 {T t0:Array Value} {s0 s1 s2 s3 s4 s5:Nat} {u0 u1 u2 u3 u4 u5:Value} (hsz:T.size=t0.size) (hne:[s0,s1,s2,s3,s4,s5].Nodup) (hlt:∀ s ∈ [s0,s1,s2,s3,s4,s5],s<t0.size) (h0:T[s0]?=some u0) (h1:T[s1]?=some u1) (h2:T[s2]?=some u2) (h3:T[s3]?=some u3) (h4:T[s4]?=some u4) (h5:T[s5]?=some u5)
  (ho:∀ j,j≠s0->j≠s1->j≠s2->j≠s3->j≠s4->j≠s5->T[j]?=t0[j]?):T=(((((t0.setIfInBounds s0 u0).setIfInBounds s1 u1).setIfInBounds s2 u2).setIfInBounds s3 u3).setIfInBounds s4 u4).setIfInBounds s5 u5:=by
 simp only[List.nodup_cons,List.mem_cons,List.not_mem_nil,or_false,not_or,List.nodup_nil,and_true,not_false_eq_true] at hne;obtain⟨⟨a1,a2,a3,a4,a5⟩,⟨b2,b3,b4,b5⟩,⟨c3,c4,c5⟩,⟨d4,d5⟩,e5⟩:=hne;have l0:=hlt s0 (by simp);have l1:=hlt s1 (by simp);have l2:=hlt s2 (by simp);have l3:=hlt s3 (by simp);have l4:=hlt s4 (by simp);have l5:=hlt s5 (by simp)
 apply Array.ext_getElem?
 intro j
 by_cases j5:j=s5
 ·subst j5;rw[set_eq (by simp;exact l5)];exact h5
 rw[set_ne j5]
 by_cases j4:j=s4
 ·subst j4;rw[set_eq (by simp;exact l4)];exact h4
 rw[set_ne j4]
 by_cases j3:j=s3
 ·subst j3;rw[set_eq (by simp;exact l3)];exact h3
 rw[set_ne j3]
 by_cases j2:j=s2
 ·subst j2;rw[set_eq (by simp;exact l2)];exact h2
 rw[set_ne j2]
 by_cases j1:j=s1
 ·subst j1;rw[set_eq (by simp;exact l1)];exact h1
 rw[set_ne j1]
 by_cases j0:j=s0
 ·subst j0;rw[set_eq l0];exact h0
 rw[set_ne j0];exact ho j j0 j1 j2 j3 j4 j5
end
theorem RawF.kid {w:World} {d:Nat} {x:RU} (h:RawF w (d+1) x) (i:Nat) (hi:i<x.kl):∃ (a:Addr) (y:RU),x.ko=some a/\(w.cell? (a.add (i*5))=some (.int .i64 y.o)/\w.cell? ⟨(a.add (i*5)).block,(a.add (i*5)).off+1,none⟩=some (.bool y.b)/\w.cell? ⟨(a.add (i*5)).block,(a.add (i*5)).off+2,none⟩=some (.slice y.ao y.l y.c) /\
  w.cell? ⟨(a.add (i*5)).block,(a.add (i*5)).off+3,none⟩=some (.string y.nm)/\w.cell? ⟨(a.add (i*5)).block,(a.add (i*5)).off+4,none⟩=some (.slice y.ko y.kl y.kc))/\RawF w d y:=by
 obtain⟨-,-,-,-,h5⟩:=h;obtain⟨y,⟨a,ha,hc⟩,hy⟩:=h5 i hi;exact⟨a,y,ha,⟨hc 0 _ rfl,hc 1 _ rfl,hc 2 _ rfl,hc 3 _ rfl,hc 4 _ rfl⟩,hy⟩
theorem set_last (us:List FU) (y:FU) {n:Nat} (hn:n=us.length):(us++[zFU]).set n y=us++[y]:=by
 subst hn;rw[List.set_append_right _ _ (Nat.le_refl _)];simp
theorem row_zero {w W:World} {B g n cap ko:Nat} {us:List FU} (h:fR.Row w B (.slice (some ⟨g,0,none⟩) (n+1) cap) (us++[zFU])) (hn:n=us.length) (hog:ko≠g) (hW:∀ k,k<w.heap.size->k≠ko->W.heap[k]?=w.heap[k]?) :
  (W.cell? ⟨g,n*5,none⟩=some (.int .i64 0)/\W.cell? ⟨g,n*5+1,none⟩=some (.bool false)/\W.cell? ⟨g,n*5+2,none⟩=some (.slice none 0 0)/\W.cell? ⟨g,n*5+3,none⟩=some (.string ⟨#[]⟩)/\W.cell? ⟨g,n*5+4,none⟩=some (.slice none 0 0)) /\
  W.frozen? ⟨g,n*5,none⟩=false/\W.frozen? ⟨g,n*5+1,none⟩=false/\W.frozen? ⟨g,n*5+2,none⟩=false/\W.frozen? ⟨g,n*5+3,none⟩=false/\W.frozen? ⟨g,n*5+4,none⟩=false:=by
 have hi:n<(us++[zFU]).length:=by rw[hn];simp
 have e:(us++[zFU])[n]=zFU:=by subst hn;rw[List.getElem_append_right (Nat.le_refl _)];simp
 obtain⟨⟨c0,c1,c2,c3,c4⟩,-⟩:=Row.atF h (by simp[hn]) hi;rw[e] at c0 c1 c2 c3 c4;obtain⟨cc,hc,-⟩:=h.n32 g rfl;have hg:=(hW g (lt_of_block hc) (fun e=>hog e.symm)).trans hc;have key:∀ j v,w.cell? ⟨g,j,none⟩=some v->W.cell? ⟨g,j,none⟩=some v:=fun j v h=>by rw[World.cell?_of_block (w:=w) (hW g (lt_of_block hc) (fun e=>hog e.symm))];exact h
 exact⟨⟨key _ _ c0,key _ _ c1,key _ _ c2,key _ _ c3,key _ _ c4⟩,froz_at hg _,froz_at hg _,froz_at hg _,froz_at hg _,froz_at hg _⟩
def TameC (d:Nat):Prop:=∀ (s o:Int) (b:Bool) (ao:Option Addr) (l c:Nat) (nm:ByteArray) (ko:Option Addr) (kl kc:Nat) (w:World),s=0\/s=1\/s=2->RawF w d ⟨o,b,ao,l,c,nm,ko,kl,kc⟩ ->
 Calls Tryz.prog 10 #[.agg #[.int .i64 o,.bool b,.slice ao l c,.string nm,.slice ko kl kc],.int .i64 s,.int .i64 (d:Nat)] w (TamePost d s w)
theorem kid_p (d:Nat) (hd:d<=100) (IT:TameC d) (w wr:World) (B kf kd kr ko:Nat) (x:RU) (hx:RawF w (d+1) x) (op:Int) (sg:Bool) (ao:Option Addr) (l c:Nat) (nm:ByteArray) (z:Int) (ts:List F) (v:Value) (us:List FU) (i:Nat) (s:Int) (hs:s=0\/s=1\/s=2) (hi:i<=100)
  (h:TSt w B kf kd kr ko x ((d:Nat)+1:Int) op sg ao l c nm z d ts v us wr) (hl:us.length<=100) :
  Calls Tryz.prog 33 #[.int .i64 (i:Nat),.int .i64 s,.pointer (some ⟨kf,0,none⟩),.pointer (some ⟨ko,0,none⟩),.pointer (some ⟨kd,0,none⟩)] wr fun e w'=>(∃ q,e=.returned q)/\∃ t v' us',srt t.op=s/\TSt w B kf kd kr ko x ((d:Nat)+1:Int) op sg ao l c nm z d (ts++[t]) v' us' w':=by
 obtain⟨xo,xb,xao,xl,xc,xnm,xko,xkl,xkc⟩:=x;obtain⟨vo,vc,rfl,hvc1,hvc2,-⟩:=h.row.form;have HS0:=Lib.hid h;have HBf:=Lib.hid h.hf;have HBo:=Lib.hid h.ho;have HBd:=Lib.hid h.hd;simp only at HBf;have HXR:=Lib.hid hx;have HIT:=Lib.hid IT;have HSS:=Lib.hid hs;obtain⟨h4a,h4b⟩:=hx.2.2.2.1;have hxm:xkc<=9223372036854775807:=h4b;have hxk:xkl<=xkc:=h4a;have hvm:vc<=9223372036854775807:=hvc2;obtain⟨n,hn⟩:∃ n,n=us.length:=⟨_,rfl⟩
 rw[<-hn] at HBo hl hvc1;have HN:=Lib.hid hn;have hsub:((d:Nat)+1:Int) - 1=((d:Nat):Int):=by omega
 have hwd:IntKind.i64.wrap ((d:Nat):Int)=((d:Nat):Int):=IntWalk.i64_in _ (by omega);clear h hx hs IT h4a h4b hvc2 hn;have HBf0:=HBf;have HBo0:=HBo;have HBd0:=HBd;have HW:=Lib.hid (Below.refl wr.heap.size wr);go_enter Tryz.func33,Tryz.ntmps33
 go_upto_region 1 with fail
 obtain⟨x1,kx,ex,ekx,hbx,hkx,HBx⟩:=newV wr #[.int .i64 0,.bool false,.slice none 0 0,.string ⟨#[]⟩,.slice none 0 0] 29;replace HBf:=kBV hbx.out HBf;replace HBo:=kBV hbx.out HBo;replace HBd:=kBV hbx.out HBd;replace HW:=Lib.hid (HW.out.trans (hbx.out.mono HW.out.size));rw[ex,ekx];have HKX:Hid (wr.heap.size<=kx):=hkx;have f0:=cell_at (v:=.int .i64 xo) HBf.out 0 rfl;have ff0:=froz_at HBf.out 0;have f1:=cell_at (v:=.bool xb) HBf.out 1 rfl;have ff1:=froz_at HBf.out 1;have f2:=cell_at (v:=.slice xao xl xc) HBf.out 2 rfl;have ff2:=froz_at HBf.out 2;have f3:=cell_at (v:=.string xnm) HBf.out 3 rfl;have ff3:=froz_at HBf.out 3;have f4:=cell_at (v:=.slice xko xkl xkc) HBf.out 4 rfl;have ff4:=froz_at HBf.out 4
 by_cases hlt:i<xkl
 ·obtain⟨a,y,hya,⟨g0,g1,g2,g3,g4⟩,hyr⟩:=HXR.out.kid i hlt;obtain⟨yo,yb,yao,yl,yc,ynm,yko,ykl,ykc⟩:=y;simp only at hya g0 g1 g2 g3 g4;subst hya;have HBE:=Lib.hid HS0.out.be;have HYR:=Lib.hid hyr;clear hyr;rw[<-((HBE.out.trans (HW.out.mono HBE.out.size)).cell (World.block_lt_of_cell? w _ g0))] at g0;rw[<-((HBE.out.trans (HW.out.mono HBE.out.size)).cell (World.block_lt_of_cell? w _ g1))] at g1;rw[<-((HBE.out.trans (HW.out.mono HBE.out.size)).cell (World.block_lt_of_cell? w _ g2))] at g2;rw[<-((HBE.out.trans (HW.out.mono HBE.out.size)).cell (World.block_lt_of_cell? w _ g3))] at g3;rw[<-((HBE.out.trans (HW.out.mono HBE.out.size)).cell (World.block_lt_of_cell? w _ g4))] at g4;have hil:((i:Nat):Int)<((xkl:Nat):Int):=by omega
  have e0:=cell_at (v:=.int .i64 0) HBx.out 0 rfl;have fe0:=froz_at HBx.out 0;have e1:=cell_at (v:=.bool false) HBx.out 1 rfl;have fe1:=froz_at HBx.out 1;have e2:=cell_at (v:=.slice none 0 0) HBx.out 2 rfl;have fe2:=froz_at HBx.out 2;have e3:=cell_at (v:=.string ⟨#[]⟩) HBx.out 3 rfl;have fe3:=froz_at HBx.out 3;have e4:=cell_at (v:=.slice none 0 0) HBx.out 4 rfl;have fe4:=froz_at HBx.out 4;go_upto_region 3 with fail
  clear f0 ff0 f1 ff1 f2 ff2 f3 ff3 f4 ff4 e0 fe0 e1 fe1 e2 fe2 e3 fe3 e4 fe4 g0 g1 g2 g3 g4;have hg1:=grown5V (w:=x1) (k:=kx) (.int .i64 yo) (.bool yb) (.slice yao yl yc) (.string ynm) (.slice yko ykl ykc);have hb1:=set5_same HBx.out (.int .i64 yo) (.bool yb) (.slice yao yl yc) (.string ynm) (.slice yko ykl ykc);obtain⟨W1,hW1⟩:∃ q,q=((((x1.setCell ⟨kx,0,none⟩ (.int .i64 yo)).setCell ⟨kx,1,none⟩ (.bool yb)).setCell ⟨kx,2,none⟩ (.slice yao yl yc)).setCell ⟨kx,3,none⟩ (.string ynm)).setCell ⟨kx,4,none⟩ (.slice yko ykl ykc):=⟨_,rfl⟩
  rw[<-hW1] at hg1 hb1 ⊢;replace HW:=Lib.hid (ext_below HW.out hg1 HKX.out);replace HBx:=Lib.hid hb1;replace HBf:=Lib.hid ((HW.out.block _ (lt_of_block HBf0.out)).trans HBf0.out);replace HBo:=Lib.hid ((HW.out.block _ (lt_of_block HBo0.out)).trans HBo0.out);replace HBd:=Lib.hid ((HW.out.block _ (lt_of_block HBd0.out)).trans HBd0.out);clear hg1 hb1 hW1;have hlt_o:=lt_of_block HBo.out;have hlt_x:=lt_of_block HBx.out;have hlt_d:=lt_of_block HBd.out;have hog:Hid (∀ q,q<0->(fun q=>0) q<W1.heap.size):=Lib.hid (fun q h=>absurd h (Nat.not_lt_zero _))
  refine R7.region (by kernel_rfl) [[],[0],[],[],[],[4],[2,3,4,5],[0,1],[],[0,1,2,3,4,5,6,7,8],[0,1,2,3,4,5,6,7,8,9],[0,1,2,3,4,5,6,7,8,9,10],[0,1,2,3,4,5,6,7,8,9],[0,1,2,3,4,5,6,7,8,9,12]] [] [] (fun q=>0) 0 9 (by kernel_rfl) (by kernel_rfl) (by rfl) hog.out (fun q q' h h' hn=>absurd hn (by omega)) ?_;refine R7.Chain.det ?_ (by rfl) (fun T xs wr hA=>?_) ?_
  rotate_left 1
  ·have e3:=hA.pre 3 (by kernel_rfl);simp only[gsa,gsc,gsz] at e3;clear hA;refine⟨(by rfl),?_⟩;go_simp<;>(try with_reducible rfl)
  refine R7.Chain.det ?_ (by rfl) (fun T xs wr hA=>?_) ?_
  rotate_left 1
  ·have e19:=hA.tm 0 19 (by rfl) (by rfl);have f19:xs 0=_:=hA.fa 0 (by rfl)
   (try simp (disch:=first | rfl | decide) only [R7.mask_in] at f19)
   rw[f19] at e19;clear f19;have hBq:wr.heap[ko]?=_:=(hA.bl _ hlt_o (fun q h=>absurd h (Nat.not_lt_zero _))).trans HBo.out;have q0:=cell_at (v:=.int .i64 op) hBq 0 rfl;have q1:=cell_at (v:=.bool sg) hBq 1 rfl;have q2:=cell_at (v:=.slice ao l c) hBq 2 rfl;have q3:=cell_at (v:=.string nm) hBq 3 rfl;have q4:=cell_at (v:=.slice vo n vc) hBq 4 rfl;clear hBq;clear hA;refine⟨(by rfl),?_⟩;go_simp<;>(try with_reducible rfl)
  refine R7.Chain.det ?_ (by rfl) (fun T xs wr hA=>?_) ?_
  rotate_left 1
  ·have e7:=hA.pre 7 (by kernel_rfl);simp only[gsa,gsc,gsz] at e7;have hBq:wr.heap[kx]?=_:=(hA.bl _ hlt_x (fun q h=>absurd h (Nat.not_lt_zero _))).trans HBx.out;have q0:=cell_at (v:=.int .i64 yo) hBq 0 rfl;have q1:=cell_at (v:=.bool yb) hBq 1 rfl;have q2:=cell_at (v:=.slice yao yl yc) hBq 2 rfl;have q3:=cell_at (v:=.string ynm) hBq 3 rfl;have q4:=cell_at (v:=.slice yko ykl ykc) hBq 4 rfl;clear hBq;clear hA;refine⟨(by rfl),?_⟩;go_simp<;>(try with_reducible rfl)
  refine R7.Chain.det ?_ (by rfl) (fun T xs wr hA=>?_) ?_
  rotate_left 1
  ·have e1:=hA.pre 1 (by kernel_rfl);simp only[gsa,gsc,gsz] at e1;clear hA;refine⟨(by rfl),?_⟩;go_simp<;>(try with_reducible rfl)
  refine R7.Chain.det ?_ (by rfl) (fun T xs wr hA=>?_) ?_
  rotate_left 1
  ·have e4:=hA.pre 4 (by kernel_rfl);simp only[gsa,gsc,gsz] at e4;have hBq:wr.heap[kd]?=_:=(hA.bl _ hlt_d (fun q h=>absurd h (Nat.not_lt_zero _))).trans HBd.out;have q0:=cell_at (v:=.int .i64 ((d:Nat)+1:Int)) hBq 0 rfl;clear hBq;clear hA;refine⟨(by rfl),?_⟩;go_simp<;>(try with_reducible rfl)
  refine R7.Chain.det ?_ (by rfl) (fun T xs wr hA=>?_) ?_
  rotate_left 1
  ·have e23:=hA.tm 4 23 (by rfl) (by rfl);have f23:xs 4=_:=hA.fa 4 (by rfl)
   (try simp (disch:=first | rfl | decide) only [R7.mask_in] at f23)
   rw[f23] at e23;clear f23;clear hA;refine⟨(by rfl),?_⟩;go_simp<;>(try with_reducible rfl)
  refine R7.Chain.call (fun xs v w=>∃ y t,v=fV y/\FT w (fun b=>W1.heap.size<=b) d y t/\rt t=true/\srt t.op=s/\Tm d t) (fun _ _ _ _ h hb=>by obtain⟨y,t,h1,h2,h3⟩:=h;exact⟨y,t,h1,h2.below hb,h3⟩) (fun _ _ _ _ _ _ h _=>by obtain⟨q,hq,_⟩:=h;exact absurd hq (Nat.not_lt_zero _)) (by rfl) (fun T xs wr hA=>?_) ?_
  ·have hsw:=(hA.be 0 (Nat.zero_le _) (fun _ _=>Nat.zero_le _)).size;have e21:=hA.tm 2 21 (by rfl) (by rfl);have f21:xs 2=_:=hA.fa 2 (by rfl)
   (try simp (disch:=first | rfl | decide) only [R7.mask_in] at f21)
   rw[f21] at e21;clear f21;have e22:=hA.tm 3 22 (by rfl) (by rfl);have f22:xs 3=_:=hA.fa 3 (by rfl)
   (try simp (disch:=first | rfl | decide) only [R7.mask_in] at f22)
   rw[f22] at e22;clear f22;have e24:=hA.tm 5 24 (by rfl) (by rfl);have f24:xs 5=_:=hA.fa 5 (by rfl)
   (try simp (disch:=first | rfl | decide) only [R7.mask_in] at f24)
   rw[f24] at e24;clear f24;have hbw:=undrew (hA.be W1.heap.size (Nat.le_refl _) (fun q h=>absurd h (Nat.not_lt_zero q)));have hraw:=HYR.out.below ((HBE.out.trans (HW.out.mono HBE.out.size)).trans (hbw.mono (Nat.le_trans HBE.out.size HW.out.size)));clear hA;refine⟨(by rfl),fun K hK=>?_⟩;go_simp
   refine (HIT.out s _ _ _ _ _ _ _ _ _ _ HSS.out hraw).mono ?_;rintro e w' ⟨q,t,rfl,⟨y,rfl,hy⟩,h2,h3,h4,hb'⟩;exact hK.out _ _ ⟨y,t,rfl,hy.mono (fun b hb=>Nat.le_trans hbw.size hb),h2,h3,h4⟩ hb'
  refine R7.Chain.det ?_ (by rfl) (fun T xs wr hA=>?_) ?_
  rotate_left 1
  ·have e20:=hA.tm 1 20 (by rfl) (by rfl);have f20:xs 1=_:=hA.fa 1 (by rfl)
   (try simp (disch:=first | rfl | decide) only [R7.mask_in] at f20)
   rw[f20] at e20;clear f20;clear hA;refine⟨(by rfl),?_⟩;go_simp<;>(try with_reducible rfl)
  refine R7.Chain.call (fun xs v w=>∃ g,v=.slice (some ⟨g,0,none⟩) 1 1/\W1.heap.size<=g/\w.heap[g]?=some (.cells #[.int .i64 0,.bool false,.slice none 0 0,.string ⟨#[]⟩,.slice none 0 0] 29 (0,0))) (fun _ _ _ _ ⟨g,hv,hl,hg⟩ hb=>⟨g,hv,hl,by rw[hb.block g (Array.getElem?_eq_some_iff.1 hg).1];exact hg⟩) (fun _ _ _ _ _ ⟨g,hv,hl,hg⟩ ⟨q,hq,e⟩ hp=>⟨g,hv,hl,by rw[hp.block g (Array.getElem?_eq_some_iff.1 hg).1 (fun h=>by have:=hog.out q hq;omega)];exact hg⟩) (by rfl) (fun T xs wr hA=>?_) ?_
  ·have hsw:=(hA.be 0 (Nat.zero_le _) (fun _ _=>Nat.zero_le _)).size;clear hA;refine⟨(by rfl),fun K hK=>?_⟩;go_simp
   exact hK.out _ _ ⟨_,rfl,hsw,by simpa using made_at wr _ _ rfl⟩ ((Below.refl _ _).alloc (Nat.le_refl _) _)
  refine R7.Chain.done (fun xs x2 hL=>?_);obtain⟨⟨hbe,hbl⟩,hf,-,-⟩:=hL;have f0:xs 0=_:=hf 0 (by decide)
  (try simp (disch:=first | rfl | decide) only [R7.mask_in] at f0)
  have f1:xs 1=_:=hf 1 (by decide)
  (try simp (disch:=first | rfl | decide) only [R7.mask_in] at f1)
  have f2:xs 2=_:=hf 2 (by decide)
  (try simp (disch:=first | rfl | decide) only [R7.mask_in] at f2)
  have f3:xs 3=_:=hf 3 (by decide)
  (try simp (disch:=first | rfl | decide) only [R7.mask_in] at f3)
  have f4:xs 4=_:=hf 4 (by decide)
  (try simp (disch:=first | rfl | decide) only [R7.mask_in] at f4)
  have f5:xs 5=_:=hf 5 (by decide)
  (try simp (disch:=first | rfl | decide) only [R7.mask_in] at f5)
  have F6:∃ y t,(xs 6)=fV y/\FT x2 (fun b=>W1.heap.size<=b) d y t/\rt t=true/\srt t.op=s/\Tm d t:=hf 6 (by decide);have f7:xs 7=_:=hf 7 (by decide)
  (try simp (disch:=first | rfl | decide) only [R7.mask_in] at f7)
  have F8:∃ g,(xs 8)=.slice (some ⟨g,0,none⟩) 1 1/\W1.heap.size<=g/\x2.heap[g]?=some (.cells #[.int .i64 0,.bool false,.slice none 0 0,.string ⟨#[]⟩,.slice none 0 0] 29 (0,0)):=hf 8 (by decide);have hb0:Below 0 W1 x2:=undrew (hbe 0 (Nat.zero_le _) (fun _ _=>Nat.zero_le _));have hgr:∀ j,j<W1.heap.size->(∀ q,q<0->(fun q=>0) q≠j)->x2.heap[j]?=W1.heap[j]?:=hbl;clear hbe hbl hf;have hb:Below W1.heap.size W1 x2:=⟨hb0.os,hb0.tape,hb0.output,hb0.size,fun q hq=>hgr q hq (fun q h=>absurd h (Nat.not_lt_zero _))⟩
  obtain⟨y,t,hv6,hyT,hyR,HSTx,hyM⟩:=F6;have HST:=Lib.hid HSTx;have hyG:=And.intro hyR hyM;obtain⟨gz,hv8,hgl,hgz⟩:=F8;unfold R7.Rest;simp only[R7.fill,t1_,t2_,t3_,t4_,t5_,t6_,t7_,hv6,hv8,fV,f0,f1,f2,f3,f4,f5,f7];clear hb0 hgr hog hv6 hv8 hyR hyM HSTx hlt_o hlt_x hlt_d f0 f1 f2 f3 f4 f5 f7;have HB5:=Lib.hid (HW.out.trans (hb.mono HW.out.size));have hcur:=HW.out.size;have hrow5:=HS0.out.row.below HB5.out;have hBsz:B<=x2.heap.size:=Nat.le_trans HS0.out.sz HB5.out.size;rw[<-HN.out] at hrow5;refine any_stepL [9] (by kernel_rfl) (by simp) (fun i hi=>?_);obtain rfl:i=9:=by simpa using hi
  refine⟨_,rfl,rfl,fun K hK=>?_⟩;refine fR_append hrow5 (.tmp 20) (.tmp 27) rfl rfl gz zFU rfl hgz (by rw[<-HN.out];omega) hBsz (fun g4 cap w6 hrow6 hfr6 hbl6 hg6 hfresh6 hn1 hn2=>?_);rw[<-HN.out] at hrow6 hn1 ⊢;refine hK.out _ _ ?_;clear hK K;have hlow:=HS0.out.low;have hob6:=(hbl6.block ko hlow.2.2.2).trans ((HB5.out.block ko (lt_of_block HBo0.out)).trans HBo0.out);have hgg:B<=g4:=(hrow6.ge rfl).1;have hog:ko≠g4:=by omega
  have hcells:=fun (W:World) (hW:∀ k,k<w6.heap.size->k≠ko->W.heap[k]?=w6.heap[k]?)=>row_zero hrow6 HN.out hog hW
  have hcapm:cap<=9223372036854775807:=hn2;have hI:(n:Int)<(n:Int)+1:=by omega
  refine any_stepL [10,12] (by kernel_rfl) (by simp) (fun i hi=>?_);rcases (by simpa using hi:i=10\/i=12) with rfl | rfl
  ·refine⟨_,rfl,rfl,fun K hK=>?_⟩;go_simp
   refine hK.out _ _ ?_;clear hK K;refine any_stepL [11,12] (by kernel_rfl) (by simp) (fun i hi=>?_);rcases (by simpa using hi:i=11\/i=12) with rfl | rfl
   ·refine⟨_,rfl,rfl,fun K hK=>?_⟩;obtain⟨⟨z0,z1,z2,z3,z4⟩,fz0,fz1,fz2,fz3,fz4⟩:=hcells w6 (fun k h1 h2=>rfl);go_simp
    obtain⟨w22,hww2⟩:∃ q,q=putF w6 g4 n y:=⟨_,rfl⟩
    change K _ (putF w6 g4 n y);rw[<-hww2];refine hK.out _ _ ?_;clear hK K z0 z1 z2 z3 z4 fz0 fz1 fz2 fz3 fz4;have hothA:∀ k,k<w6.heap.size->k≠g4->w22.heap[k]?=w6.heap[k]?:=fun k h1 h2=>by rw[hww2];exact (putF_grown w6 g4 n y).block k h1 (fun e=>by injection e with e;exact h2 e)
    have HWW2:=Lib.hid hww2;clear hww2;refine any_stepL [12] (by kernel_rfl) (by simp) (fun i hi=>?_);obtain rfl:i=12:=by simpa using hi
    refine⟨_,rfl,rfl,fun K hK=>?_⟩;go_simp
    refine hK.out _ _ ?_;clear hK K;refine any_stepL [13] (by kernel_rfl) (by simp) (fun i hi=>?_);obtain rfl:i=13:=by simpa using hi
    refine⟨_,rfl,rfl,fun K hK=>?_⟩;have hobW:=((hothA ko (lt_of_block hob6) hog).trans hob6)
    have oc4:=cell_at (v:=.slice vo n vc) hobW 4 rfl;have fo4:=froz_at hobW 4;go_simp
    obtain⟨w24,hwx4⟩:∃ q,q=w22.setCell ⟨ko,4,none⟩ (.slice (some ⟨g4,0,none⟩) (n+1) cap):=⟨_,rfl⟩
    rw[<-hwx4];refine hK.out _ _ ?_;clear hK K oc4 fo4;have hobN:w24.heap[ko]?=some (.cells #[.int .i64 op,.bool sg,.slice ao l c,.string nm,.slice (some ⟨g4,0,none⟩) (n+1) cap] 29 (0,0)):=by rw[hwx4];exact heap_setCell_same _ ko 4 _ _ _ hobW
    have hgB:w22.grownBy w24 (some ko):=by rw[hwx4];exact grown_setCell (World.grownBy.refl _ _) _
    have hothB:∀ k,k<w22.heap.size->k≠ko->w24.heap[k]?=w22.heap[k]?:=fun k h1 h2=>hgB.block k h1 (fun e=>by injection e with e;exact h2 e)
    clear hwx4;refine⟨by kernel_rfl,?_⟩;obtain⟨hrA,hfA⟩:=Row.setF hrow6 n (by simp[<-HN.out]) (by simp[<-HN.out]) y HWW2.out;have hfB:Fr 29 w22 w24:=.of_grown hgB (fun j hj=>by injection hj with hj;subst hj;exact⟨_,hobW,n32_F⟩);have hr8:=hrA.other2 hgB (fun j hj e=>hog (by have hj2:g4=j:=(by simpa [Value.ownBlock] using hj);omega)) hfB trivial;have ho8:=hobN;have hsz8:w6.heap.size<=w24.heap.size:=Nat.le_trans (by rw[HWW2.out];exact (putF_grown w6 g4 n y).size) hgB.size;have hoth8:∀ k,k<w6.heap.size->k≠g4->k≠ko->w24.heap[k]?=w6.heap[k]?:=fun k h1 h2 h3=>(hothB k (Nat.lt_of_lt_of_le h1 (by rw[HWW2.out];exact (putF_grown w6 g4 n y).size)) h3).trans (hothA k h1 h2)
    have hkn8:KN w6 w24:=(KN.of_fr hfA).trans (KN.of_fr hfB);have hgA:w6.grownBy w22 (some g4):=by rw[HWW2.out];exact putF_grown _ _ _ _
    have hmt:w24.os=w6.os/\w24.tape=w6.tape/\w24.output=w6.output:=⟨hgB.os.trans hgA.os,hgB.tape.trans hgA.tape,hgB.output.trans hgA.output⟩
    rw[set_last us y HN.out] at hr8
    go_end0
    have hN:=HN.out;subst hN;exact⟨⟨_,rfl⟩,t,_,_,HST.out,HS0.out.next HB5.out hcur hyT hyG hfr6 hg6 hfresh6 hr8 ho8 hoth8 hkn8 hmt.1 hmt.2.1 hmt.2.2 hsz8⟩
   refine⟨_,rfl,rfl,fun K hK=>?_⟩;go_simp
   refine hK.out _ _ ?_;clear hK K;refine any_stepL [11,13] (by kernel_rfl) (by simp) (fun i hi=>?_);rcases (by simpa using hi:i=11\/i=13) with rfl | rfl
   ·refine⟨_,rfl,rfl,fun K hK=>?_⟩;obtain⟨⟨z0,z1,z2,z3,z4⟩,fz0,fz1,fz2,fz3,fz4⟩:=hcells w6 (fun k h1 h2=>rfl);go_simp
    obtain⟨w23,hww3⟩:∃ q,q=putF w6 g4 n y:=⟨_,rfl⟩
    change K _ (putF w6 g4 n y);rw[<-hww3];refine hK.out _ _ ?_;clear hK K z0 z1 z2 z3 z4 fz0 fz1 fz2 fz3 fz4;have hothA:∀ k,k<w6.heap.size->k≠g4->w23.heap[k]?=w6.heap[k]?:=fun k h1 h2=>by rw[hww3];exact (putF_grown w6 g4 n y).block k h1 (fun e=>by injection e with e;exact h2 e)
    have HWW3:=Lib.hid hww3;clear hww3;refine any_stepL [13] (by kernel_rfl) (by simp) (fun i hi=>?_);obtain rfl:i=13:=by simpa using hi
    refine⟨_,rfl,rfl,fun K hK=>?_⟩;have hobW:=((hothA ko (lt_of_block hob6) hog).trans hob6)
    have oc4:=cell_at (v:=.slice vo n vc) hobW 4 rfl;have fo4:=froz_at hobW 4;go_simp
    obtain⟨w24,hwx4⟩:∃ q,q=w23.setCell ⟨ko,4,none⟩ (.slice (some ⟨g4,0,none⟩) (n+1) cap):=⟨_,rfl⟩
    rw[<-hwx4];refine hK.out _ _ ?_;clear hK K oc4 fo4;have hobN:w24.heap[ko]?=some (.cells #[.int .i64 op,.bool sg,.slice ao l c,.string nm,.slice (some ⟨g4,0,none⟩) (n+1) cap] 29 (0,0)):=by rw[hwx4];exact heap_setCell_same _ ko 4 _ _ _ hobW
    have hgB:w23.grownBy w24 (some ko):=by rw[hwx4];exact grown_setCell (World.grownBy.refl _ _) _
    have hothB:∀ k,k<w23.heap.size->k≠ko->w24.heap[k]?=w23.heap[k]?:=fun k h1 h2=>hgB.block k h1 (fun e=>by injection e with e;exact h2 e)
    clear hwx4;refine⟨by kernel_rfl,?_⟩;obtain⟨hrA,hfA⟩:=Row.setF hrow6 n (by simp[<-HN.out]) (by simp[<-HN.out]) y HWW3.out;have hfB:Fr 29 w23 w24:=.of_grown hgB (fun j hj=>by injection hj with hj;subst hj;exact⟨_,hobW,n32_F⟩);have hr8:=hrA.other2 hgB (fun j hj e=>hog (by have hj2:g4=j:=(by simpa [Value.ownBlock] using hj);omega)) hfB trivial;have ho8:=hobN;have hsz8:w6.heap.size<=w24.heap.size:=Nat.le_trans (by rw[HWW3.out];exact (putF_grown w6 g4 n y).size) hgB.size;have hoth8:∀ k,k<w6.heap.size->k≠g4->k≠ko->w24.heap[k]?=w6.heap[k]?:=fun k h1 h2 h3=>(hothB k (Nat.lt_of_lt_of_le h1 (by rw[HWW3.out];exact (putF_grown w6 g4 n y).size)) h3).trans (hothA k h1 h2)
    have hkn8:KN w6 w24:=(KN.of_fr hfA).trans (KN.of_fr hfB);have hgA:w6.grownBy w23 (some g4):=by rw[HWW3.out];exact putF_grown _ _ _ _
    have hmt:w24.os=w6.os/\w24.tape=w6.tape/\w24.output=w6.output:=⟨hgB.os.trans hgA.os,hgB.tape.trans hgA.tape,hgB.output.trans hgA.output⟩
    rw[set_last us y HN.out] at hr8
    go_end0
    have hN:=HN.out;subst hN;exact⟨⟨_,rfl⟩,t,_,_,HST.out,HS0.out.next HB5.out hcur hyT hyG hfr6 hg6 hfresh6 hr8 ho8 hoth8 hkn8 hmt.1 hmt.2.1 hmt.2.2 hsz8⟩
   refine⟨_,rfl,rfl,fun K hK=>?_⟩;have hobW:=hob6;have oc4:=cell_at (v:=.slice vo n vc) hobW 4 rfl;have fo4:=froz_at hobW 4;go_simp
   obtain⟨w23,hwx3⟩:∃ q,q=w6.setCell ⟨ko,4,none⟩ (.slice (some ⟨g4,0,none⟩) (n+1) cap):=⟨_,rfl⟩
   rw[<-hwx3];refine hK.out _ _ ?_;clear hK K oc4 fo4;have hobN:w23.heap[ko]?=some (.cells #[.int .i64 op,.bool sg,.slice ao l c,.string nm,.slice (some ⟨g4,0,none⟩) (n+1) cap] 29 (0,0)):=by rw[hwx3];exact heap_setCell_same _ ko 4 _ _ _ hobW
   have hgB:w6.grownBy w23 (some ko):=by rw[hwx3];exact grown_setCell (World.grownBy.refl _ _) _
   have hothB:∀ k,k<w6.heap.size->k≠ko->w23.heap[k]?=w6.heap[k]?:=fun k h1 h2=>hgB.block k h1 (fun e=>by injection e with e;exact h2 e)
   clear hwx3;refine any_stepL [11] (by kernel_rfl) (by simp) (fun i hi=>?_);obtain rfl:i=11:=by simpa using hi
   refine⟨_,rfl,rfl,fun K hK=>?_⟩;obtain⟨⟨z0,z1,z2,z3,z4⟩,fz0,fz1,fz2,fz3,fz4⟩:=hcells w23 hothB;go_simp
   obtain⟨w24,hww4⟩:∃ q,q=putF w23 g4 n y:=⟨_,rfl⟩
   change K _ (putF w23 g4 n y);rw[<-hww4];refine hK.out _ _ ?_;clear hK K z0 z1 z2 z3 z4 fz0 fz1 fz2 fz3 fz4;have hothA:∀ k,k<w23.heap.size->k≠g4->w24.heap[k]?=w23.heap[k]?:=fun k h1 h2=>by rw[hww4];exact (putF_grown w23 g4 n y).block k h1 (fun e=>by injection e with e;exact h2 e)
   have HWW4:=Lib.hid hww4;clear hww4;refine⟨by kernel_rfl,?_⟩;have hfB:Fr 29 w6 w23:=.of_grown hgB (fun j hj=>by injection hj with hj;subst hj;exact⟨_,hobW,n32_F⟩);have hrB:=hrow6.other2 hgB (fun j hj e=>hog (by have hj2:g4=j:=(by simpa [Value.ownBlock] using hj);omega)) hfB trivial;obtain⟨hr8,hfA⟩:=Row.setF hrB n (by simp[<-HN.out]) (by simp[<-HN.out]) y HWW4.out;have hgA:w23.grownBy w24 (some g4):=by rw[HWW4.out];exact putF_grown _ _ _ _
   have ho8:=(hothA ko (lt_of_block hobN) hog).trans hobN;have hsz8:w6.heap.size<=w24.heap.size:=Nat.le_trans hgB.size hgA.size;have hoth8:∀ k,k<w6.heap.size->k≠g4->k≠ko->w24.heap[k]?=w6.heap[k]?:=fun k h1 h2 h3=>(hothA k (Nat.lt_of_lt_of_le h1 hgB.size) h2).trans (hothB k h1 h3)
   have hkn8:KN w6 w24:=(KN.of_fr hfB).trans (KN.of_fr hfA);have hmt:w24.os=w6.os/\w24.tape=w6.tape/\w24.output=w6.output:=⟨hgA.os.trans hgB.os,hgA.tape.trans hgB.tape,hgA.output.trans hgB.output⟩
   rw[set_last us y HN.out] at hr8
   go_end0
   have hN:=HN.out;subst hN;exact⟨⟨_,rfl⟩,t,_,_,HST.out,HS0.out.next HB5.out hcur hyT hyG hfr6 hg6 hfresh6 hr8 ho8 hoth8 hkn8 hmt.1 hmt.2.1 hmt.2.2 hsz8⟩
  refine⟨_,rfl,rfl,fun K hK=>?_⟩;go_simp
  refine hK.out _ _ ?_;clear hK K;refine any_stepL [10,13] (by kernel_rfl) (by simp) (fun i hi=>?_);rcases (by simpa using hi:i=10\/i=13) with rfl | rfl
  ·refine⟨_,rfl,rfl,fun K hK=>?_⟩;go_simp
   refine hK.out _ _ ?_;clear hK K;refine any_stepL [11,13] (by kernel_rfl) (by simp) (fun i hi=>?_);rcases (by simpa using hi:i=11\/i=13) with rfl | rfl
   ·refine⟨_,rfl,rfl,fun K hK=>?_⟩;obtain⟨⟨z0,z1,z2,z3,z4⟩,fz0,fz1,fz2,fz3,fz4⟩:=hcells w6 (fun k h1 h2=>rfl);go_simp
    obtain⟨w23,hww3⟩:∃ q,q=putF w6 g4 n y:=⟨_,rfl⟩
    change K _ (putF w6 g4 n y);rw[<-hww3];refine hK.out _ _ ?_;clear hK K z0 z1 z2 z3 z4 fz0 fz1 fz2 fz3 fz4;have hothA:∀ k,k<w6.heap.size->k≠g4->w23.heap[k]?=w6.heap[k]?:=fun k h1 h2=>by rw[hww3];exact (putF_grown w6 g4 n y).block k h1 (fun e=>by injection e with e;exact h2 e)
    have HWW3:=Lib.hid hww3;clear hww3;refine any_stepL [13] (by kernel_rfl) (by simp) (fun i hi=>?_);obtain rfl:i=13:=by simpa using hi
    refine⟨_,rfl,rfl,fun K hK=>?_⟩;have hobW:=((hothA ko (lt_of_block hob6) hog).trans hob6)
    have oc4:=cell_at (v:=.slice vo n vc) hobW 4 rfl;have fo4:=froz_at hobW 4;go_simp
    obtain⟨w24,hwx4⟩:∃ q,q=w23.setCell ⟨ko,4,none⟩ (.slice (some ⟨g4,0,none⟩) (n+1) cap):=⟨_,rfl⟩
    rw[<-hwx4];refine hK.out _ _ ?_;clear hK K oc4 fo4;have hobN:w24.heap[ko]?=some (.cells #[.int .i64 op,.bool sg,.slice ao l c,.string nm,.slice (some ⟨g4,0,none⟩) (n+1) cap] 29 (0,0)):=by rw[hwx4];exact heap_setCell_same _ ko 4 _ _ _ hobW
    have hgB:w23.grownBy w24 (some ko):=by rw[hwx4];exact grown_setCell (World.grownBy.refl _ _) _
    have hothB:∀ k,k<w23.heap.size->k≠ko->w24.heap[k]?=w23.heap[k]?:=fun k h1 h2=>hgB.block k h1 (fun e=>by injection e with e;exact h2 e)
    clear hwx4;refine⟨by kernel_rfl,?_⟩;obtain⟨hrA,hfA⟩:=Row.setF hrow6 n (by simp[<-HN.out]) (by simp[<-HN.out]) y HWW3.out;have hfB:Fr 29 w23 w24:=.of_grown hgB (fun j hj=>by injection hj with hj;subst hj;exact⟨_,hobW,n32_F⟩);have hr8:=hrA.other2 hgB (fun j hj e=>hog (by have hj2:g4=j:=(by simpa [Value.ownBlock] using hj);omega)) hfB trivial;have ho8:=hobN;have hsz8:w6.heap.size<=w24.heap.size:=Nat.le_trans (by rw[HWW3.out];exact (putF_grown w6 g4 n y).size) hgB.size;have hoth8:∀ k,k<w6.heap.size->k≠g4->k≠ko->w24.heap[k]?=w6.heap[k]?:=fun k h1 h2 h3=>(hothB k (Nat.lt_of_lt_of_le h1 (by rw[HWW3.out];exact (putF_grown w6 g4 n y).size)) h3).trans (hothA k h1 h2)
    have hkn8:KN w6 w24:=(KN.of_fr hfA).trans (KN.of_fr hfB);have hgA:w6.grownBy w23 (some g4):=by rw[HWW3.out];exact putF_grown _ _ _ _
    have hmt:w24.os=w6.os/\w24.tape=w6.tape/\w24.output=w6.output:=⟨hgB.os.trans hgA.os,hgB.tape.trans hgA.tape,hgB.output.trans hgA.output⟩
    rw[set_last us y HN.out] at hr8
    go_end0
    have hN:=HN.out;subst hN;exact⟨⟨_,rfl⟩,t,_,_,HST.out,HS0.out.next HB5.out hcur hyT hyG hfr6 hg6 hfresh6 hr8 ho8 hoth8 hkn8 hmt.1 hmt.2.1 hmt.2.2 hsz8⟩
   refine⟨_,rfl,rfl,fun K hK=>?_⟩;have hobW:=hob6;have oc4:=cell_at (v:=.slice vo n vc) hobW 4 rfl;have fo4:=froz_at hobW 4;go_simp
   obtain⟨w23,hwx3⟩:∃ q,q=w6.setCell ⟨ko,4,none⟩ (.slice (some ⟨g4,0,none⟩) (n+1) cap):=⟨_,rfl⟩
   rw[<-hwx3];refine hK.out _ _ ?_;clear hK K oc4 fo4;have hobN:w23.heap[ko]?=some (.cells #[.int .i64 op,.bool sg,.slice ao l c,.string nm,.slice (some ⟨g4,0,none⟩) (n+1) cap] 29 (0,0)):=by rw[hwx3];exact heap_setCell_same _ ko 4 _ _ _ hobW
   have hgB:w6.grownBy w23 (some ko):=by rw[hwx3];exact grown_setCell (World.grownBy.refl _ _) _
   have hothB:∀ k,k<w6.heap.size->k≠ko->w23.heap[k]?=w6.heap[k]?:=fun k h1 h2=>hgB.block k h1 (fun e=>by injection e with e;exact h2 e)
   clear hwx3;refine any_stepL [11] (by kernel_rfl) (by simp) (fun i hi=>?_);obtain rfl:i=11:=by simpa using hi
   refine⟨_,rfl,rfl,fun K hK=>?_⟩;obtain⟨⟨z0,z1,z2,z3,z4⟩,fz0,fz1,fz2,fz3,fz4⟩:=hcells w23 hothB;go_simp
   obtain⟨w24,hww4⟩:∃ q,q=putF w23 g4 n y:=⟨_,rfl⟩
   change K _ (putF w23 g4 n y);rw[<-hww4];refine hK.out _ _ ?_;clear hK K z0 z1 z2 z3 z4 fz0 fz1 fz2 fz3 fz4;have hothA:∀ k,k<w23.heap.size->k≠g4->w24.heap[k]?=w23.heap[k]?:=fun k h1 h2=>by rw[hww4];exact (putF_grown w23 g4 n y).block k h1 (fun e=>by injection e with e;exact h2 e)
   have HWW4:=Lib.hid hww4;clear hww4;refine⟨by kernel_rfl,?_⟩;have hfB:Fr 29 w6 w23:=.of_grown hgB (fun j hj=>by injection hj with hj;subst hj;exact⟨_,hobW,n32_F⟩);have hrB:=hrow6.other2 hgB (fun j hj e=>hog (by have hj2:g4=j:=(by simpa [Value.ownBlock] using hj);omega)) hfB trivial;obtain⟨hr8,hfA⟩:=Row.setF hrB n (by simp[<-HN.out]) (by simp[<-HN.out]) y HWW4.out;have hgA:w23.grownBy w24 (some g4):=by rw[HWW4.out];exact putF_grown _ _ _ _
   have ho8:=(hothA ko (lt_of_block hobN) hog).trans hobN;have hsz8:w6.heap.size<=w24.heap.size:=Nat.le_trans hgB.size hgA.size;have hoth8:∀ k,k<w6.heap.size->k≠g4->k≠ko->w24.heap[k]?=w6.heap[k]?:=fun k h1 h2 h3=>(hothA k (Nat.lt_of_lt_of_le h1 hgB.size) h2).trans (hothB k h1 h3)
   have hkn8:KN w6 w24:=(KN.of_fr hfB).trans (KN.of_fr hfA);have hmt:w24.os=w6.os/\w24.tape=w6.tape/\w24.output=w6.output:=⟨hgA.os.trans hgB.os,hgA.tape.trans hgB.tape,hgA.output.trans hgB.output⟩
   rw[set_last us y HN.out] at hr8
   go_end0
   have hN:=HN.out;subst hN;exact⟨⟨_,rfl⟩,t,_,_,HST.out,HS0.out.next HB5.out hcur hyT hyG hfr6 hg6 hfresh6 hr8 ho8 hoth8 hkn8 hmt.1 hmt.2.1 hmt.2.2 hsz8⟩
  refine⟨_,rfl,rfl,fun K hK=>?_⟩;have hobW:=hob6;have oc4:=cell_at (v:=.slice vo n vc) hobW 4 rfl;have fo4:=froz_at hobW 4;go_simp
  obtain⟨w22,hwx2⟩:∃ q,q=w6.setCell ⟨ko,4,none⟩ (.slice (some ⟨g4,0,none⟩) (n+1) cap):=⟨_,rfl⟩
  rw[<-hwx2];refine hK.out _ _ ?_;clear hK K oc4 fo4;have hobN:w22.heap[ko]?=some (.cells #[.int .i64 op,.bool sg,.slice ao l c,.string nm,.slice (some ⟨g4,0,none⟩) (n+1) cap] 29 (0,0)):=by rw[hwx2];exact heap_setCell_same _ ko 4 _ _ _ hobW
  have hgB:w6.grownBy w22 (some ko):=by rw[hwx2];exact grown_setCell (World.grownBy.refl _ _) _
  have hothB:∀ k,k<w6.heap.size->k≠ko->w22.heap[k]?=w6.heap[k]?:=fun k h1 h2=>hgB.block k h1 (fun e=>by injection e with e;exact h2 e)
  clear hwx2;refine any_stepL [10] (by kernel_rfl) (by simp) (fun i hi=>?_);obtain rfl:i=10:=by simpa using hi
  refine⟨_,rfl,rfl,fun K hK=>?_⟩;go_simp
  refine hK.out _ _ ?_;clear hK K;refine any_stepL [11] (by kernel_rfl) (by simp) (fun i hi=>?_);obtain rfl:i=11:=by simpa using hi
  refine⟨_,rfl,rfl,fun K hK=>?_⟩;obtain⟨⟨z0,z1,z2,z3,z4⟩,fz0,fz1,fz2,fz3,fz4⟩:=hcells w22 hothB;go_simp
  obtain⟨w24,hww4⟩:∃ q,q=putF w22 g4 n y:=⟨_,rfl⟩
  change K _ (putF w22 g4 n y);rw[<-hww4];refine hK.out _ _ ?_;clear hK K z0 z1 z2 z3 z4 fz0 fz1 fz2 fz3 fz4;have hothA:∀ k,k<w22.heap.size->k≠g4->w24.heap[k]?=w22.heap[k]?:=fun k h1 h2=>by rw[hww4];exact (putF_grown w22 g4 n y).block k h1 (fun e=>by injection e with e;exact h2 e)
  have HWW4:=Lib.hid hww4;clear hww4;refine⟨by kernel_rfl,?_⟩;have hfB:Fr 29 w6 w22:=.of_grown hgB (fun j hj=>by injection hj with hj;subst hj;exact⟨_,hobW,n32_F⟩);have hrB:=hrow6.other2 hgB (fun j hj e=>hog (by have hj2:g4=j:=(by simpa [Value.ownBlock] using hj);omega)) hfB trivial;obtain⟨hr8,hfA⟩:=Row.setF hrB n (by simp[<-HN.out]) (by simp[<-HN.out]) y HWW4.out;have hgA:w22.grownBy w24 (some g4):=by rw[HWW4.out];exact putF_grown _ _ _ _
  have ho8:=(hothA ko (lt_of_block hobN) hog).trans hobN;have hsz8:w6.heap.size<=w24.heap.size:=Nat.le_trans hgB.size hgA.size;have hoth8:∀ k,k<w6.heap.size->k≠g4->k≠ko->w24.heap[k]?=w6.heap[k]?:=fun k h1 h2 h3=>(hothA k (Nat.lt_of_lt_of_le h1 hgB.size) h2).trans (hothB k h1 h3)
  have hkn8:KN w6 w24:=(KN.of_fr hfB).trans (KN.of_fr hfA);have hmt:w24.os=w6.os/\w24.tape=w6.tape/\w24.output=w6.output:=⟨hgA.os.trans hgB.os,hgA.tape.trans hgB.tape,hgA.output.trans hgB.output⟩
  rw[set_last us y HN.out] at hr8
  go_end0
  have hN:=HN.out;subst hN;exact⟨⟨_,rfl⟩,t,_,_,HST.out,HS0.out.next HB5.out hcur hyT hyG hfr6 hg6 hfresh6 hr8 ho8 hoth8 hkn8 hmt.1 hmt.2.1 hmt.2.2 hsz8⟩
 have hil:¬ ((i:Nat):Int)<((xkl:Nat):Int):=by omega
 have HBE:=Lib.hid HS0.out.be;have HYR:Hid (RawF w d zRU):=Lib.hid (raw_zero w d);go_upto_region 3 with fail
 clear f0 ff0 f1 ff1 f2 ff2 f3 ff3 f4 ff4;have hlt_o:=lt_of_block HBo.out;have hlt_x:=lt_of_block HBx.out;have hlt_d:=lt_of_block HBd.out;have hog:Hid (∀ q,q<0->(fun q=>0) q<x1.heap.size):=Lib.hid (fun q h=>absurd h (Nat.not_lt_zero _));refine R7.region (by kernel_rfl) [[],[0],[],[],[],[4],[2,3,4,5],[0,1],[],[0,1,2,3,4,5,6,7,8],[0,1,2,3,4,5,6,7,8,9],[0,1,2,3,4,5,6,7,8,9,10],[0,1,2,3,4,5,6,7,8,9],[0,1,2,3,4,5,6,7,8,9,12]] [] [] (fun q=>0) 0 9 (by kernel_rfl) (by kernel_rfl) (by rfl) hog.out (fun q q' h h' hn=>absurd hn (by omega)) ?_;refine R7.Chain.det ?_ (by rfl) (fun T xs wr hA=>?_) ?_
 rotate_left 1
 ·have e3:=hA.pre 3 (by kernel_rfl);simp only[gsa,gsc,gsz] at e3;clear hA;refine⟨(by rfl),?_⟩;go_simp<;>(try with_reducible rfl)
 refine R7.Chain.det ?_ (by rfl) (fun T xs wr hA=>?_) ?_
 rotate_left 1
 ·have e19:=hA.tm 0 19 (by rfl) (by rfl);have f19:xs 0=_:=hA.fa 0 (by rfl)
  (try simp (disch:=first | rfl | decide) only [R7.mask_in] at f19)
  rw[f19] at e19;clear f19;have hBq:wr.heap[ko]?=_:=(hA.bl _ hlt_o (fun q h=>absurd h (Nat.not_lt_zero _))).trans HBo.out;have q0:=cell_at (v:=.int .i64 op) hBq 0 rfl;have q1:=cell_at (v:=.bool sg) hBq 1 rfl;have q2:=cell_at (v:=.slice ao l c) hBq 2 rfl;have q3:=cell_at (v:=.string nm) hBq 3 rfl;have q4:=cell_at (v:=.slice vo n vc) hBq 4 rfl;clear hBq;clear hA;refine⟨(by rfl),?_⟩;go_simp<;>(try with_reducible rfl)
 refine R7.Chain.det ?_ (by rfl) (fun T xs wr hA=>?_) ?_
 rotate_left 1
 ·have e7:=hA.pre 7 (by kernel_rfl);simp only[gsa,gsc,gsz] at e7;have hBq:wr.heap[kx]?=_:=(hA.bl _ hlt_x (fun q h=>absurd h (Nat.not_lt_zero _))).trans HBx.out;have q0:=cell_at (v:=.int .i64 0) hBq 0 rfl;have q1:=cell_at (v:=.bool false) hBq 1 rfl;have q2:=cell_at (v:=.slice none 0 0) hBq 2 rfl;have q3:=cell_at (v:=.string ⟨#[]⟩) hBq 3 rfl;have q4:=cell_at (v:=.slice none 0 0) hBq 4 rfl;clear hBq;clear hA;refine⟨(by rfl),?_⟩;go_simp<;>(try with_reducible rfl)
 refine R7.Chain.det ?_ (by rfl) (fun T xs wr hA=>?_) ?_
 rotate_left 1
 ·have e1:=hA.pre 1 (by kernel_rfl);simp only[gsa,gsc,gsz] at e1;clear hA;refine⟨(by rfl),?_⟩;go_simp<;>(try with_reducible rfl)
 refine R7.Chain.det ?_ (by rfl) (fun T xs wr hA=>?_) ?_
 rotate_left 1
 ·have e4:=hA.pre 4 (by kernel_rfl);simp only[gsa,gsc,gsz] at e4;have hBq:wr.heap[kd]?=_:=(hA.bl _ hlt_d (fun q h=>absurd h (Nat.not_lt_zero _))).trans HBd.out;have q0:=cell_at (v:=.int .i64 ((d:Nat)+1:Int)) hBq 0 rfl;clear hBq;clear hA;refine⟨(by rfl),?_⟩;go_simp<;>(try with_reducible rfl)
 refine R7.Chain.det ?_ (by rfl) (fun T xs wr hA=>?_) ?_
 rotate_left 1
 ·have e23:=hA.tm 4 23 (by rfl) (by rfl);have f23:xs 4=_:=hA.fa 4 (by rfl)
  (try simp (disch:=first | rfl | decide) only [R7.mask_in] at f23)
  rw[f23] at e23;clear f23;clear hA;refine⟨(by rfl),?_⟩;go_simp<;>(try with_reducible rfl)
 refine R7.Chain.call (fun xs v w=>∃ y t,v=fV y/\FT w (fun b=>x1.heap.size<=b) d y t/\rt t=true/\srt t.op=s/\Tm d t) (fun _ _ _ _ h hb=>by obtain⟨y,t,h1,h2,h3⟩:=h;exact⟨y,t,h1,h2.below hb,h3⟩) (fun _ _ _ _ _ _ h _=>by obtain⟨q,hq,_⟩:=h;exact absurd hq (Nat.not_lt_zero _)) (by rfl) (fun T xs wr hA=>?_) ?_
 ·have hsw:=(hA.be 0 (Nat.zero_le _) (fun _ _=>Nat.zero_le _)).size;have e21:=hA.tm 2 21 (by rfl) (by rfl);have f21:xs 2=_:=hA.fa 2 (by rfl)
  (try simp (disch:=first | rfl | decide) only [R7.mask_in] at f21)
  rw[f21] at e21;clear f21;have e22:=hA.tm 3 22 (by rfl) (by rfl);have f22:xs 3=_:=hA.fa 3 (by rfl)
  (try simp (disch:=first | rfl | decide) only [R7.mask_in] at f22)
  rw[f22] at e22;clear f22;have e24:=hA.tm 5 24 (by rfl) (by rfl);have f24:xs 5=_:=hA.fa 5 (by rfl)
  (try simp (disch:=first | rfl | decide) only [R7.mask_in] at f24)
  rw[f24] at e24;clear f24;have hbw:=undrew (hA.be x1.heap.size (Nat.le_refl _) (fun q h=>absurd h (Nat.not_lt_zero q)));have hraw:=HYR.out.below ((HBE.out.trans (HW.out.mono HBE.out.size)).trans (hbw.mono (Nat.le_trans HBE.out.size HW.out.size)));clear hA;refine⟨(by rfl),fun K hK=>?_⟩;go_simp
  refine (HIT.out s _ _ _ _ _ _ _ _ _ _ HSS.out hraw).mono ?_;rintro e w' ⟨q,t,rfl,⟨y,rfl,hy⟩,h2,h3,h4,hb'⟩;exact hK.out _ _ ⟨y,t,rfl,hy.mono (fun b hb=>Nat.le_trans hbw.size hb),h2,h3,h4⟩ hb'
 refine R7.Chain.det ?_ (by rfl) (fun T xs wr hA=>?_) ?_
 rotate_left 1
 ·have e20:=hA.tm 1 20 (by rfl) (by rfl);have f20:xs 1=_:=hA.fa 1 (by rfl)
  (try simp (disch:=first | rfl | decide) only [R7.mask_in] at f20)
  rw[f20] at e20;clear f20;clear hA;refine⟨(by rfl),?_⟩;go_simp<;>(try with_reducible rfl)
 refine R7.Chain.call (fun xs v w=>∃ g,v=.slice (some ⟨g,0,none⟩) 1 1/\x1.heap.size<=g/\w.heap[g]?=some (.cells #[.int .i64 0,.bool false,.slice none 0 0,.string ⟨#[]⟩,.slice none 0 0] 29 (0,0))) (fun _ _ _ _ ⟨g,hv,hl,hg⟩ hb=>⟨g,hv,hl,by rw[hb.block g (Array.getElem?_eq_some_iff.1 hg).1];exact hg⟩) (fun _ _ _ _ _ ⟨g,hv,hl,hg⟩ ⟨q,hq,e⟩ hp=>⟨g,hv,hl,by rw[hp.block g (Array.getElem?_eq_some_iff.1 hg).1 (fun h=>by have:=hog.out q hq;omega)];exact hg⟩) (by rfl) (fun T xs wr hA=>?_) ?_
 ·have hsw:=(hA.be 0 (Nat.zero_le _) (fun _ _=>Nat.zero_le _)).size;clear hA;refine⟨(by rfl),fun K hK=>?_⟩;go_simp
  exact hK.out _ _ ⟨_,rfl,hsw,by simpa using made_at wr _ _ rfl⟩ ((Below.refl _ _).alloc (Nat.le_refl _) _)
 refine R7.Chain.done (fun xs x2 hL=>?_);obtain⟨⟨hbe,hbl⟩,hf,-,-⟩:=hL;have f0:xs 0=_:=hf 0 (by decide)
 (try simp (disch:=first | rfl | decide) only [R7.mask_in] at f0)
 have f1:xs 1=_:=hf 1 (by decide)
 (try simp (disch:=first | rfl | decide) only [R7.mask_in] at f1)
 have f2:xs 2=_:=hf 2 (by decide)
 (try simp (disch:=first | rfl | decide) only [R7.mask_in] at f2)
 have f3:xs 3=_:=hf 3 (by decide)
 (try simp (disch:=first | rfl | decide) only [R7.mask_in] at f3)
 have f4:xs 4=_:=hf 4 (by decide)
 (try simp (disch:=first | rfl | decide) only [R7.mask_in] at f4)
 have f5:xs 5=_:=hf 5 (by decide)
 (try simp (disch:=first | rfl | decide) only [R7.mask_in] at f5)
 have F6:∃ y t,(xs 6)=fV y/\FT x2 (fun b=>x1.heap.size<=b) d y t/\rt t=true/\srt t.op=s/\Tm d t:=hf 6 (by decide);have f7:xs 7=_:=hf 7 (by decide)
 (try simp (disch:=first | rfl | decide) only [R7.mask_in] at f7)
 have F8:∃ g,(xs 8)=.slice (some ⟨g,0,none⟩) 1 1/\x1.heap.size<=g/\x2.heap[g]?=some (.cells #[.int .i64 0,.bool false,.slice none 0 0,.string ⟨#[]⟩,.slice none 0 0] 29 (0,0)):=hf 8 (by decide);have hb0:Below 0 x1 x2:=undrew (hbe 0 (Nat.zero_le _) (fun _ _=>Nat.zero_le _));have hgr:∀ j,j<x1.heap.size->(∀ q,q<0->(fun q=>0) q≠j)->x2.heap[j]?=x1.heap[j]?:=hbl;clear hbe hbl hf;have hb:Below x1.heap.size x1 x2:=⟨hb0.os,hb0.tape,hb0.output,hb0.size,fun q hq=>hgr q hq (fun q h=>absurd h (Nat.not_lt_zero _))⟩
 obtain⟨y,t,hv6,hyT,hyR,HSTx,hyM⟩:=F6;have HST:=Lib.hid HSTx;have hyG:=And.intro hyR hyM;obtain⟨gz,hv8,hgl,hgz⟩:=F8;unfold R7.Rest;simp only[R7.fill,t1_,t2_,t3_,t4_,t5_,t6_,t7_,hv6,hv8,fV,f0,f1,f2,f3,f4,f5,f7];clear hb0 hgr hog hv6 hv8 hyR hyM HSTx hlt_o hlt_x hlt_d f0 f1 f2 f3 f4 f5 f7;have HB5:=Lib.hid (HW.out.trans (hb.mono HW.out.size));have hcur:=HW.out.size;have hrow5:=HS0.out.row.below HB5.out;have hBsz:B<=x2.heap.size:=Nat.le_trans HS0.out.sz HB5.out.size;rw[<-HN.out] at hrow5;refine any_stepL [9] (by kernel_rfl) (by simp) (fun i hi=>?_);obtain rfl:i=9:=by simpa using hi
 refine⟨_,rfl,rfl,fun K hK=>?_⟩;refine fR_append hrow5 (.tmp 20) (.tmp 27) rfl rfl gz zFU rfl hgz (by rw[<-HN.out];omega) hBsz (fun g4 cap w6 hrow6 hfr6 hbl6 hg6 hfresh6 hn1 hn2=>?_);rw[<-HN.out] at hrow6 hn1 ⊢;refine hK.out _ _ ?_;clear hK K;have hlow:=HS0.out.low;have hob6:=(hbl6.block ko hlow.2.2.2).trans ((HB5.out.block ko (lt_of_block HBo0.out)).trans HBo0.out);have hgg:B<=g4:=(hrow6.ge rfl).1;have hog:ko≠g4:=by omega
 have hcells:=fun (W:World) (hW:∀ k,k<w6.heap.size->k≠ko->W.heap[k]?=w6.heap[k]?)=>row_zero hrow6 HN.out hog hW
 have hcapm:cap<=9223372036854775807:=hn2;have hI:(n:Int)<(n:Int)+1:=by omega
 refine any_stepL [10,12] (by kernel_rfl) (by simp) (fun i hi=>?_);rcases (by simpa using hi:i=10\/i=12) with rfl | rfl
 ·refine⟨_,rfl,rfl,fun K hK=>?_⟩;go_simp
  refine hK.out _ _ ?_;clear hK K;refine any_stepL [11,12] (by kernel_rfl) (by simp) (fun i hi=>?_);rcases (by simpa using hi:i=11\/i=12) with rfl | rfl
  ·refine⟨_,rfl,rfl,fun K hK=>?_⟩;obtain⟨⟨z0,z1,z2,z3,z4⟩,fz0,fz1,fz2,fz3,fz4⟩:=hcells w6 (fun k h1 h2=>rfl);go_simp
   obtain⟨w22,hww2⟩:∃ q,q=putF w6 g4 n y:=⟨_,rfl⟩
   change K _ (putF w6 g4 n y);rw[<-hww2];refine hK.out _ _ ?_;clear hK K z0 z1 z2 z3 z4 fz0 fz1 fz2 fz3 fz4;have hothA:∀ k,k<w6.heap.size->k≠g4->w22.heap[k]?=w6.heap[k]?:=fun k h1 h2=>by rw[hww2];exact (putF_grown w6 g4 n y).block k h1 (fun e=>by injection e with e;exact h2 e)
   have HWW2:=Lib.hid hww2;clear hww2;refine any_stepL [12] (by kernel_rfl) (by simp) (fun i hi=>?_);obtain rfl:i=12:=by simpa using hi
   refine⟨_,rfl,rfl,fun K hK=>?_⟩;go_simp
   refine hK.out _ _ ?_;clear hK K;refine any_stepL [13] (by kernel_rfl) (by simp) (fun i hi=>?_);obtain rfl:i=13:=by simpa using hi
   refine⟨_,rfl,rfl,fun K hK=>?_⟩;have hobW:=((hothA ko (lt_of_block hob6) hog).trans hob6)
   have oc4:=cell_at (v:=.slice vo n vc) hobW 4 rfl;have fo4:=froz_at hobW 4;go_simp
   obtain⟨w24,hwx4⟩:∃ q,q=w22.setCell ⟨ko,4,none⟩ (.slice (some ⟨g4,0,none⟩) (n+1) cap):=⟨_,rfl⟩
   rw[<-hwx4];refine hK.out _ _ ?_;clear hK K oc4 fo4;have hobN:w24.heap[ko]?=some (.cells #[.int .i64 op,.bool sg,.slice ao l c,.string nm,.slice (some ⟨g4,0,none⟩) (n+1) cap] 29 (0,0)):=by rw[hwx4];exact heap_setCell_same _ ko 4 _ _ _ hobW
   have hgB:w22.grownBy w24 (some ko):=by rw[hwx4];exact grown_setCell (World.grownBy.refl _ _) _
   have hothB:∀ k,k<w22.heap.size->k≠ko->w24.heap[k]?=w22.heap[k]?:=fun k h1 h2=>hgB.block k h1 (fun e=>by injection e with e;exact h2 e)
   clear hwx4;refine⟨by kernel_rfl,?_⟩;obtain⟨hrA,hfA⟩:=Row.setF hrow6 n (by simp[<-HN.out]) (by simp[<-HN.out]) y HWW2.out;have hfB:Fr 29 w22 w24:=.of_grown hgB (fun j hj=>by injection hj with hj;subst hj;exact⟨_,hobW,n32_F⟩);have hr8:=hrA.other2 hgB (fun j hj e=>hog (by have hj2:g4=j:=(by simpa [Value.ownBlock] using hj);omega)) hfB trivial;have ho8:=hobN;have hsz8:w6.heap.size<=w24.heap.size:=Nat.le_trans (by rw[HWW2.out];exact (putF_grown w6 g4 n y).size) hgB.size;have hoth8:∀ k,k<w6.heap.size->k≠g4->k≠ko->w24.heap[k]?=w6.heap[k]?:=fun k h1 h2 h3=>(hothB k (Nat.lt_of_lt_of_le h1 (by rw[HWW2.out];exact (putF_grown w6 g4 n y).size)) h3).trans (hothA k h1 h2)
   have hkn8:KN w6 w24:=(KN.of_fr hfA).trans (KN.of_fr hfB);have hgA:w6.grownBy w22 (some g4):=by rw[HWW2.out];exact putF_grown _ _ _ _
   have hmt:w24.os=w6.os/\w24.tape=w6.tape/\w24.output=w6.output:=⟨hgB.os.trans hgA.os,hgB.tape.trans hgA.tape,hgB.output.trans hgA.output⟩
   rw[set_last us y HN.out] at hr8
   go_end0
   have hN:=HN.out;subst hN;exact⟨⟨_,rfl⟩,t,_,_,HST.out,HS0.out.next HB5.out hcur hyT hyG hfr6 hg6 hfresh6 hr8 ho8 hoth8 hkn8 hmt.1 hmt.2.1 hmt.2.2 hsz8⟩
  refine⟨_,rfl,rfl,fun K hK=>?_⟩;go_simp
  refine hK.out _ _ ?_;clear hK K;refine any_stepL [11,13] (by kernel_rfl) (by simp) (fun i hi=>?_);rcases (by simpa using hi:i=11\/i=13) with rfl | rfl
  ·refine⟨_,rfl,rfl,fun K hK=>?_⟩;obtain⟨⟨z0,z1,z2,z3,z4⟩,fz0,fz1,fz2,fz3,fz4⟩:=hcells w6 (fun k h1 h2=>rfl);go_simp
   obtain⟨w23,hww3⟩:∃ q,q=putF w6 g4 n y:=⟨_,rfl⟩
   change K _ (putF w6 g4 n y);rw[<-hww3];refine hK.out _ _ ?_;clear hK K z0 z1 z2 z3 z4 fz0 fz1 fz2 fz3 fz4;have hothA:∀ k,k<w6.heap.size->k≠g4->w23.heap[k]?=w6.heap[k]?:=fun k h1 h2=>by rw[hww3];exact (putF_grown w6 g4 n y).block k h1 (fun e=>by injection e with e;exact h2 e)
   have HWW3:=Lib.hid hww3;clear hww3;refine any_stepL [13] (by kernel_rfl) (by simp) (fun i hi=>?_);obtain rfl:i=13:=by simpa using hi
   refine⟨_,rfl,rfl,fun K hK=>?_⟩;have hobW:=((hothA ko (lt_of_block hob6) hog).trans hob6)
   have oc4:=cell_at (v:=.slice vo n vc) hobW 4 rfl;have fo4:=froz_at hobW 4;go_simp
   obtain⟨w24,hwx4⟩:∃ q,q=w23.setCell ⟨ko,4,none⟩ (.slice (some ⟨g4,0,none⟩) (n+1) cap):=⟨_,rfl⟩
   rw[<-hwx4];refine hK.out _ _ ?_;clear hK K oc4 fo4;have hobN:w24.heap[ko]?=some (.cells #[.int .i64 op,.bool sg,.slice ao l c,.string nm,.slice (some ⟨g4,0,none⟩) (n+1) cap] 29 (0,0)):=by rw[hwx4];exact heap_setCell_same _ ko 4 _ _ _ hobW
   have hgB:w23.grownBy w24 (some ko):=by rw[hwx4];exact grown_setCell (World.grownBy.refl _ _) _
   have hothB:∀ k,k<w23.heap.size->k≠ko->w24.heap[k]?=w23.heap[k]?:=fun k h1 h2=>hgB.block k h1 (fun e=>by injection e with e;exact h2 e)
   clear hwx4;refine⟨by kernel_rfl,?_⟩;obtain⟨hrA,hfA⟩:=Row.setF hrow6 n (by simp[<-HN.out]) (by simp[<-HN.out]) y HWW3.out;have hfB:Fr 29 w23 w24:=.of_grown hgB (fun j hj=>by injection hj with hj;subst hj;exact⟨_,hobW,n32_F⟩);have hr8:=hrA.other2 hgB (fun j hj e=>hog (by have hj2:g4=j:=(by simpa [Value.ownBlock] using hj);omega)) hfB trivial;have ho8:=hobN;have hsz8:w6.heap.size<=w24.heap.size:=Nat.le_trans (by rw[HWW3.out];exact (putF_grown w6 g4 n y).size) hgB.size;have hoth8:∀ k,k<w6.heap.size->k≠g4->k≠ko->w24.heap[k]?=w6.heap[k]?:=fun k h1 h2 h3=>(hothB k (Nat.lt_of_lt_of_le h1 (by rw[HWW3.out];exact (putF_grown w6 g4 n y).size)) h3).trans (hothA k h1 h2)
   have hkn8:KN w6 w24:=(KN.of_fr hfA).trans (KN.of_fr hfB);have hgA:w6.grownBy w23 (some g4):=by rw[HWW3.out];exact putF_grown _ _ _ _
   have hmt:w24.os=w6.os/\w24.tape=w6.tape/\w24.output=w6.output:=⟨hgB.os.trans hgA.os,hgB.tape.trans hgA.tape,hgB.output.trans hgA.output⟩
   rw[set_last us y HN.out] at hr8
   go_end0
   have hN:=HN.out;subst hN;exact⟨⟨_,rfl⟩,t,_,_,HST.out,HS0.out.next HB5.out hcur hyT hyG hfr6 hg6 hfresh6 hr8 ho8 hoth8 hkn8 hmt.1 hmt.2.1 hmt.2.2 hsz8⟩
  refine⟨_,rfl,rfl,fun K hK=>?_⟩;have hobW:=hob6;have oc4:=cell_at (v:=.slice vo n vc) hobW 4 rfl;have fo4:=froz_at hobW 4;go_simp
  obtain⟨w23,hwx3⟩:∃ q,q=w6.setCell ⟨ko,4,none⟩ (.slice (some ⟨g4,0,none⟩) (n+1) cap):=⟨_,rfl⟩
  rw[<-hwx3];refine hK.out _ _ ?_;clear hK K oc4 fo4;have hobN:w23.heap[ko]?=some (.cells #[.int .i64 op,.bool sg,.slice ao l c,.string nm,.slice (some ⟨g4,0,none⟩) (n+1) cap] 29 (0,0)):=by rw[hwx3];exact heap_setCell_same _ ko 4 _ _ _ hobW
  have hgB:w6.grownBy w23 (some ko):=by rw[hwx3];exact grown_setCell (World.grownBy.refl _ _) _
  have hothB:∀ k,k<w6.heap.size->k≠ko->w23.heap[k]?=w6.heap[k]?:=fun k h1 h2=>hgB.block k h1 (fun e=>by injection e with e;exact h2 e)
  clear hwx3;refine any_stepL [11] (by kernel_rfl) (by simp) (fun i hi=>?_);obtain rfl:i=11:=by simpa using hi
  refine⟨_,rfl,rfl,fun K hK=>?_⟩;obtain⟨⟨z0,z1,z2,z3,z4⟩,fz0,fz1,fz2,fz3,fz4⟩:=hcells w23 hothB;go_simp
  obtain⟨w24,hww4⟩:∃ q,q=putF w23 g4 n y:=⟨_,rfl⟩
  change K _ (putF w23 g4 n y);rw[<-hww4];refine hK.out _ _ ?_;clear hK K z0 z1 z2 z3 z4 fz0 fz1 fz2 fz3 fz4;have hothA:∀ k,k<w23.heap.size->k≠g4->w24.heap[k]?=w23.heap[k]?:=fun k h1 h2=>by rw[hww4];exact (putF_grown w23 g4 n y).block k h1 (fun e=>by injection e with e;exact h2 e)
  have HWW4:=Lib.hid hww4;clear hww4;refine⟨by kernel_rfl,?_⟩;have hfB:Fr 29 w6 w23:=.of_grown hgB (fun j hj=>by injection hj with hj;subst hj;exact⟨_,hobW,n32_F⟩);have hrB:=hrow6.other2 hgB (fun j hj e=>hog (by have hj2:g4=j:=(by simpa [Value.ownBlock] using hj);omega)) hfB trivial;obtain⟨hr8,hfA⟩:=Row.setF hrB n (by simp[<-HN.out]) (by simp[<-HN.out]) y HWW4.out;have hgA:w23.grownBy w24 (some g4):=by rw[HWW4.out];exact putF_grown _ _ _ _
  have ho8:=(hothA ko (lt_of_block hobN) hog).trans hobN;have hsz8:w6.heap.size<=w24.heap.size:=Nat.le_trans hgB.size hgA.size;have hoth8:∀ k,k<w6.heap.size->k≠g4->k≠ko->w24.heap[k]?=w6.heap[k]?:=fun k h1 h2 h3=>(hothA k (Nat.lt_of_lt_of_le h1 hgB.size) h2).trans (hothB k h1 h3)
  have hkn8:KN w6 w24:=(KN.of_fr hfB).trans (KN.of_fr hfA);have hmt:w24.os=w6.os/\w24.tape=w6.tape/\w24.output=w6.output:=⟨hgA.os.trans hgB.os,hgA.tape.trans hgB.tape,hgA.output.trans hgB.output⟩
  rw[set_last us y HN.out] at hr8
  go_end0
  have hN:=HN.out;subst hN;exact⟨⟨_,rfl⟩,t,_,_,HST.out,HS0.out.next HB5.out hcur hyT hyG hfr6 hg6 hfresh6 hr8 ho8 hoth8 hkn8 hmt.1 hmt.2.1 hmt.2.2 hsz8⟩
 refine⟨_,rfl,rfl,fun K hK=>?_⟩;go_simp
 refine hK.out _ _ ?_;clear hK K;refine any_stepL [10,13] (by kernel_rfl) (by simp) (fun i hi=>?_);rcases (by simpa using hi:i=10\/i=13) with rfl | rfl
 ·refine⟨_,rfl,rfl,fun K hK=>?_⟩;go_simp
  refine hK.out _ _ ?_;clear hK K;refine any_stepL [11,13] (by kernel_rfl) (by simp) (fun i hi=>?_);rcases (by simpa using hi:i=11\/i=13) with rfl | rfl
  ·refine⟨_,rfl,rfl,fun K hK=>?_⟩;obtain⟨⟨z0,z1,z2,z3,z4⟩,fz0,fz1,fz2,fz3,fz4⟩:=hcells w6 (fun k h1 h2=>rfl);go_simp
   obtain⟨w23,hww3⟩:∃ q,q=putF w6 g4 n y:=⟨_,rfl⟩
   change K _ (putF w6 g4 n y);rw[<-hww3];refine hK.out _ _ ?_;clear hK K z0 z1 z2 z3 z4 fz0 fz1 fz2 fz3 fz4;have hothA:∀ k,k<w6.heap.size->k≠g4->w23.heap[k]?=w6.heap[k]?:=fun k h1 h2=>by rw[hww3];exact (putF_grown w6 g4 n y).block k h1 (fun e=>by injection e with e;exact h2 e)
   have HWW3:=Lib.hid hww3;clear hww3;refine any_stepL [13] (by kernel_rfl) (by simp) (fun i hi=>?_);obtain rfl:i=13:=by simpa using hi
   refine⟨_,rfl,rfl,fun K hK=>?_⟩;have hobW:=((hothA ko (lt_of_block hob6) hog).trans hob6)
   have oc4:=cell_at (v:=.slice vo n vc) hobW 4 rfl;have fo4:=froz_at hobW 4;go_simp
   obtain⟨w24,hwx4⟩:∃ q,q=w23.setCell ⟨ko,4,none⟩ (.slice (some ⟨g4,0,none⟩) (n+1) cap):=⟨_,rfl⟩
   rw[<-hwx4];refine hK.out _ _ ?_;clear hK K oc4 fo4;have hobN:w24.heap[ko]?=some (.cells #[.int .i64 op,.bool sg,.slice ao l c,.string nm,.slice (some ⟨g4,0,none⟩) (n+1) cap] 29 (0,0)):=by rw[hwx4];exact heap_setCell_same _ ko 4 _ _ _ hobW
   have hgB:w23.grownBy w24 (some ko):=by rw[hwx4];exact grown_setCell (World.grownBy.refl _ _) _
   have hothB:∀ k,k<w23.heap.size->k≠ko->w24.heap[k]?=w23.heap[k]?:=fun k h1 h2=>hgB.block k h1 (fun e=>by injection e with e;exact h2 e)
   clear hwx4;refine⟨by kernel_rfl,?_⟩;obtain⟨hrA,hfA⟩:=Row.setF hrow6 n (by simp[<-HN.out]) (by simp[<-HN.out]) y HWW3.out;have hfB:Fr 29 w23 w24:=.of_grown hgB (fun j hj=>by injection hj with hj;subst hj;exact⟨_,hobW,n32_F⟩);have hr8:=hrA.other2 hgB (fun j hj e=>hog (by have hj2:g4=j:=(by simpa [Value.ownBlock] using hj);omega)) hfB trivial;have ho8:=hobN;have hsz8:w6.heap.size<=w24.heap.size:=Nat.le_trans (by rw[HWW3.out];exact (putF_grown w6 g4 n y).size) hgB.size;have hoth8:∀ k,k<w6.heap.size->k≠g4->k≠ko->w24.heap[k]?=w6.heap[k]?:=fun k h1 h2 h3=>(hothB k (Nat.lt_of_lt_of_le h1 (by rw[HWW3.out];exact (putF_grown w6 g4 n y).size)) h3).trans (hothA k h1 h2)
   have hkn8:KN w6 w24:=(KN.of_fr hfA).trans (KN.of_fr hfB);have hgA:w6.grownBy w23 (some g4):=by rw[HWW3.out];exact putF_grown _ _ _ _
   have hmt:w24.os=w6.os/\w24.tape=w6.tape/\w24.output=w6.output:=⟨hgB.os.trans hgA.os,hgB.tape.trans hgA.tape,hgB.output.trans hgA.output⟩
   rw[set_last us y HN.out] at hr8
   go_end0
   have hN:=HN.out;subst hN;exact⟨⟨_,rfl⟩,t,_,_,HST.out,HS0.out.next HB5.out hcur hyT hyG hfr6 hg6 hfresh6 hr8 ho8 hoth8 hkn8 hmt.1 hmt.2.1 hmt.2.2 hsz8⟩
  refine⟨_,rfl,rfl,fun K hK=>?_⟩;have hobW:=hob6;have oc4:=cell_at (v:=.slice vo n vc) hobW 4 rfl;have fo4:=froz_at hobW 4;go_simp
  obtain⟨w23,hwx3⟩:∃ q,q=w6.setCell ⟨ko,4,none⟩ (.slice (some ⟨g4,0,none⟩) (n+1) cap):=⟨_,rfl⟩
  rw[<-hwx3];refine hK.out _ _ ?_;clear hK K oc4 fo4;have hobN:w23.heap[ko]?=some (.cells #[.int .i64 op,.bool sg,.slice ao l c,.string nm,.slice (some ⟨g4,0,none⟩) (n+1) cap] 29 (0,0)):=by rw[hwx3];exact heap_setCell_same _ ko 4 _ _ _ hobW
  have hgB:w6.grownBy w23 (some ko):=by rw[hwx3];exact grown_setCell (World.grownBy.refl _ _) _
  have hothB:∀ k,k<w6.heap.size->k≠ko->w23.heap[k]?=w6.heap[k]?:=fun k h1 h2=>hgB.block k h1 (fun e=>by injection e with e;exact h2 e)
  clear hwx3;refine any_stepL [11] (by kernel_rfl) (by simp) (fun i hi=>?_);obtain rfl:i=11:=by simpa using hi
  refine⟨_,rfl,rfl,fun K hK=>?_⟩;obtain⟨⟨z0,z1,z2,z3,z4⟩,fz0,fz1,fz2,fz3,fz4⟩:=hcells w23 hothB;go_simp
  obtain⟨w24,hww4⟩:∃ q,q=putF w23 g4 n y:=⟨_,rfl⟩
  change K _ (putF w23 g4 n y);rw[<-hww4];refine hK.out _ _ ?_;clear hK K z0 z1 z2 z3 z4 fz0 fz1 fz2 fz3 fz4;have hothA:∀ k,k<w23.heap.size->k≠g4->w24.heap[k]?=w23.heap[k]?:=fun k h1 h2=>by rw[hww4];exact (putF_grown w23 g4 n y).block k h1 (fun e=>by injection e with e;exact h2 e)
  have HWW4:=Lib.hid hww4;clear hww4;refine⟨by kernel_rfl,?_⟩;have hfB:Fr 29 w6 w23:=.of_grown hgB (fun j hj=>by injection hj with hj;subst hj;exact⟨_,hobW,n32_F⟩);have hrB:=hrow6.other2 hgB (fun j hj e=>hog (by have hj2:g4=j:=(by simpa [Value.ownBlock] using hj);omega)) hfB trivial;obtain⟨hr8,hfA⟩:=Row.setF hrB n (by simp[<-HN.out]) (by simp[<-HN.out]) y HWW4.out;have hgA:w23.grownBy w24 (some g4):=by rw[HWW4.out];exact putF_grown _ _ _ _
  have ho8:=(hothA ko (lt_of_block hobN) hog).trans hobN;have hsz8:w6.heap.size<=w24.heap.size:=Nat.le_trans hgB.size hgA.size;have hoth8:∀ k,k<w6.heap.size->k≠g4->k≠ko->w24.heap[k]?=w6.heap[k]?:=fun k h1 h2 h3=>(hothA k (Nat.lt_of_lt_of_le h1 hgB.size) h2).trans (hothB k h1 h3)
  have hkn8:KN w6 w24:=(KN.of_fr hfB).trans (KN.of_fr hfA);have hmt:w24.os=w6.os/\w24.tape=w6.tape/\w24.output=w6.output:=⟨hgA.os.trans hgB.os,hgA.tape.trans hgB.tape,hgA.output.trans hgB.output⟩
  rw[set_last us y HN.out] at hr8
  go_end0
  have hN:=HN.out;subst hN;exact⟨⟨_,rfl⟩,t,_,_,HST.out,HS0.out.next HB5.out hcur hyT hyG hfr6 hg6 hfresh6 hr8 ho8 hoth8 hkn8 hmt.1 hmt.2.1 hmt.2.2 hsz8⟩
 refine⟨_,rfl,rfl,fun K hK=>?_⟩;have hobW:=hob6;have oc4:=cell_at (v:=.slice vo n vc) hobW 4 rfl;have fo4:=froz_at hobW 4;go_simp
 obtain⟨w22,hwx2⟩:∃ q,q=w6.setCell ⟨ko,4,none⟩ (.slice (some ⟨g4,0,none⟩) (n+1) cap):=⟨_,rfl⟩
 rw[<-hwx2];refine hK.out _ _ ?_;clear hK K oc4 fo4;have hobN:w22.heap[ko]?=some (.cells #[.int .i64 op,.bool sg,.slice ao l c,.string nm,.slice (some ⟨g4,0,none⟩) (n+1) cap] 29 (0,0)):=by rw[hwx2];exact heap_setCell_same _ ko 4 _ _ _ hobW
 have hgB:w6.grownBy w22 (some ko):=by rw[hwx2];exact grown_setCell (World.grownBy.refl _ _) _
 have hothB:∀ k,k<w6.heap.size->k≠ko->w22.heap[k]?=w6.heap[k]?:=fun k h1 h2=>hgB.block k h1 (fun e=>by injection e with e;exact h2 e)
 clear hwx2;refine any_stepL [10] (by kernel_rfl) (by simp) (fun i hi=>?_);obtain rfl:i=10:=by simpa using hi
 refine⟨_,rfl,rfl,fun K hK=>?_⟩;go_simp
 refine hK.out _ _ ?_;clear hK K;refine any_stepL [11] (by kernel_rfl) (by simp) (fun i hi=>?_);obtain rfl:i=11:=by simpa using hi
 refine⟨_,rfl,rfl,fun K hK=>?_⟩;obtain⟨⟨z0,z1,z2,z3,z4⟩,fz0,fz1,fz2,fz3,fz4⟩:=hcells w22 hothB;go_simp
 obtain⟨w24,hww4⟩:∃ q,q=putF w22 g4 n y:=⟨_,rfl⟩
 change K _ (putF w22 g4 n y);rw[<-hww4];refine hK.out _ _ ?_;clear hK K z0 z1 z2 z3 z4 fz0 fz1 fz2 fz3 fz4;have hothA:∀ k,k<w22.heap.size->k≠g4->w24.heap[k]?=w22.heap[k]?:=fun k h1 h2=>by rw[hww4];exact (putF_grown w22 g4 n y).block k h1 (fun e=>by injection e with e;exact h2 e)
 have HWW4:=Lib.hid hww4;clear hww4;refine⟨by kernel_rfl,?_⟩;have hfB:Fr 29 w6 w22:=.of_grown hgB (fun j hj=>by injection hj with hj;subst hj;exact⟨_,hobW,n32_F⟩);have hrB:=hrow6.other2 hgB (fun j hj e=>hog (by have hj2:g4=j:=(by simpa [Value.ownBlock] using hj);omega)) hfB trivial;obtain⟨hr8,hfA⟩:=Row.setF hrB n (by simp[<-HN.out]) (by simp[<-HN.out]) y HWW4.out;have hgA:w22.grownBy w24 (some g4):=by rw[HWW4.out];exact putF_grown _ _ _ _
 have ho8:=(hothA ko (lt_of_block hobN) hog).trans hobN;have hsz8:w6.heap.size<=w24.heap.size:=Nat.le_trans hgB.size hgA.size;have hoth8:∀ k,k<w6.heap.size->k≠g4->k≠ko->w24.heap[k]?=w6.heap[k]?:=fun k h1 h2 h3=>(hothA k (Nat.lt_of_lt_of_le h1 hgB.size) h2).trans (hothB k h1 h3)
 have hkn8:KN w6 w24:=(KN.of_fr hfB).trans (KN.of_fr hfA);have hmt:w24.os=w6.os/\w24.tape=w6.tape/\w24.output=w6.output:=⟨hgA.os.trans hgB.os,hgA.tape.trans hgB.tape,hgA.output.trans hgB.output⟩
 rw[set_last us y HN.out] at hr8
 go_end0
 have hN:=HN.out;subst hN;exact⟨⟨_,rfl⟩,t,_,_,HST.out,HS0.out.next HB5.out hcur hyT hyG hfr6 hg6 hfresh6 hr8 ho8 hoth8 hkn8 hmt.1 hmt.2.1 hmt.2.2 hsz8⟩
theorem and_mask (x:Int) (m:Nat) (hm:m<9223372036854775808):∃ K:Nat,bits BinOp.and IntKind.i64 x (m:Nat)=(K:Int)/\K<=m:=by
 refine⟨(BitVec.ofInt 64 x).toNat &&& m,?_,Nat.and_le_right⟩;have h1:(BitVec.ofInt 64 x).toNat &&& m<=m:=Nat.and_le_right;have h2:m % 2 ^ 64=m:=Nat.mod_eq_of_lt (Nat.lt_trans hm (by decide))
 have h3:bits BinOp.and IntKind.i64 x (m:Nat)=IntKind.i64.wrap (((BitVec.ofInt 64 x).toNat &&& m:Nat):Int):=by
  show IntKind.i64.wrap (((BitVec.ofInt 64 x) &&& (BitVec.ofInt 64 (m:Int))).toNat:Int)=_
  rw[BitVec.ofInt_natCast,BitVec.toNat_and,BitVec.toNat_ofNat,h2]
 rw[h3,IntKind.wrap_i64];generalize (BitVec.ofInt 64 x).toNat &&& m=q at h1 ⊢
 omega
theorem and_255 (x:Int):∃ K:Nat,bits BinOp.and IntKind.i64 x 255=(K:Int)/\K<=255:=and_mask x 255 (by decide)
theorem TSt.fl {w:World} {B kf kd kr ko:Nat} {x:RU} {dd op:Int} {sg:Bool} {ao:Option Addr} {l c:Nat} {nm:ByteArray} {z:Int} {d:Nat} {ts:List F} {v:Value} {us:List FU} {wr:World} (h:TSt w B kf kd kr ko x dd op sg ao l c nm z d ts v us wr):FL wr (fun b=>B<=b) d v ts:=by
 obtain⟨vo,vc,hv,h1,h2,h3⟩:=h.row.form;have hz:(us.zip ts).length=us.length:=by rw[List.length_zip,h.len,Nat.min_self]
 refine⟨us.zip ts,⟨vo,vc,by rw[hz];exact hv,⟨by rw[hz];exact h1,h2,h3⟩,fun _ a ha=>?_,fun i hi=>?_⟩,List.map_snd_zip (by rw[h.len];exact Nat.le_refl _)⟩
 ·have:=(h.row.ge (j:=a.block) (by rw[hv,ha];rfl)).1;exact this
 have hi1:i<us.length:=by rw[hz] at hi;exact hi
 have hi2:i<ts.length:=by rw[<-h.len];exact hi1
 have ho:=h.row.own;rw[hv] at ho;rw[List.getElem_zip];exact⟨own_atF fC (fun _=>rfl) rfl ho i hi1,(h.tr i hi1 hi2).mono fun b hb=>hb.1⟩
theorem TSt.zero {w:World} {B kf kd kr ko:Nat} {x:RU} {dd op:Int} {sg:Bool} {ao:Option Addr} {l c:Nat} {nm:ByteArray} {z:Int} {d:Nat} {wr:World} (ho:wr.heap[ko]?=some (.cells #[.int .i64 op,.bool sg,.slice ao l c,.string nm,.slice none 0 0] 29 (0,0)))
  (hf:wr.heap[kf]?=some (.cells #[.int .i64 x.o,.bool x.b,.slice x.ao x.l x.c,.string x.nm,.slice x.ko x.kl x.kc] 29 (0,0))) (hd:wr.heap[kd]?=some (.cells #[.int .i64 dd] 3 (0,0))) (hr:wr.heap[kr]?=some (.cells #[.int .i64 0,.bool false,.slice none 0 0,.string ⟨#[]⟩,.slice none 0 0] 29 (0,0)))
  (hz:CI wr (.agg #[.bool sg,.slice ao l c]) z 600) (low:kf<B/\kd<B/\kr<B/\ko<B) (dis:kf≠ko/\kd≠ko/\kr≠ko) (hi:w.heap.size<=ko) (be:Below w.heap.size w wr) (sz:B<=wr.heap.size):TSt w B kf kd kr ko x dd op sg ao l c nm z d [] (.slice none 0 0) [] wr:=
 ⟨ho,hf,hd,hr,hz,El.Row.nil _ _,rfl,fun q h=>absurd h (Nat.not_lt_zero q),fun t ht=>(by cases ht),low,dis,hi,be,sz⟩
theorem TSt.fin {w:World} {B kf kd kr ko:Nat} {x:RU} {dd op:Int} {sg:Bool} {ao:Option Addr} {l c:Nat} {nm:ByteArray} {z:Int} {d:Nat} {ts:List F} {v:Value} {us:List FU} {wr w':World} (h:TSt w B kf kd kr ko x dd op sg ao l c nm z d ts v us wr) (hg:wr.grownBy w' (some kr)) (hf:Fr 29 wr w') (hop:IR op) (hB:w.heap.size<=B) (hkr:w.heap.size<=kr)
  (hnm:NmOk op nm) (hzb:z.natAbs<L32 ^ 4) (hz0:op≠0->op≠3->op≠5->z=0) (hl:ts.length<=3) (hfit:fitF op z (srts ts)=true) :
  FC w' (fun b=>w.heap.size<=b) (d+1) (.agg #[.int .i64 op,.bool sg,.slice ao l c,.string nm,v]) (.node op z nm ts)/\rt (.node op z nm ts)=true/\Tm (d+1) (.node op z nm ts)/\Below w.heap.size w w':=by
 have hfl:=h.fl;obtain⟨vo,vc,hv,-⟩:=h.row.form;subst hv;have hk:=h.low.2.2.1;refine⟨FC.mk hop (h.hz.fr hf) ((hfl.grown hg (KN.of_fr hf) (fun b hb e=>by injection e with e;have hb2:B<=b:=hb;omega)).mono fun b hb=>Nat.le_trans hB hb),?_,?_,ext_below h.be hg hkr⟩
 ·rw[rt,hfit,rts_all,Bool.true_and,List.all_eq_true];exact fun t ht=>(h.good t ht).1
 exact⟨hnm,hzb,hz0,hl,fun t ht=>(h.good t ht).2⟩
theorem one_byteL (v:Int) (b:UInt8) (hb:v=(b.toNat:Int)) (w:World) :
  (convert 70 9 (.slice (some ⟨w.heap.size,0,none⟩) 1 1)).run Tryz.prog (w.alloc (.cells #[.int .u8 v] 5))=.ok (.string ⟨#[b]⟩) (w.alloc (.cells #[.int .u8 v] 5)):=by
 subst hb;refine run_convert_bytes_back (P:=Tryz.prog) _ 70 9 5 ⟨w.heap.size,0,none⟩ 1 [b] Tryz.underlying70 Tryz.underlying5 Tryz.underlying9 ?_;intro j hj;have:j=0:=by simpa using hj
 subst this;exact cell_of_row _ _ 0 _ _ (0,0) (made_at w _ _ rfl)
theorem small4 {n:Nat} (h:n<1000):n<L32 ^ 4:=Nat.lt_of_lt_of_le h (by decide)
theorem tmod_cases (n:Nat):(((n:Nat):Int).tmod 3=0\/((n:Nat):Int).tmod 3=1\/((n:Nat):Int).tmod 3=2)/\(((n:Nat):Int).tmod 2=0\/((n:Nat):Int).tmod 2=1):=by
 rw[Int.tmod_eq_emod_of_nonneg (by omega),Int.tmod_eq_emod_of_nonneg (by omega)];omega
theorem CI.nat {w:World} {b:Bool} {o:Option Addr} {l c:Nat} {z:Int} {k:Nat} (h:CI w (.agg #[.bool b,.slice o l c]) z k):GN w (.slice o l c) z.natAbs k:=by
 obtain⟨b',ao,l',c',n,e,hg,rfl⟩:=h.gi.shape
 simp at e
 obtain⟨rfl,rfl,rfl,rfl⟩:=e;have:(sg b n).natAbs=n:=by cases b<;>simp[sg]
 rw[this];exact hg
theorem succ4 {z:Int} (h:z.natAbs<L32 ^ 2):((sg false z.natAbs)+1).natAbs<L32 ^ 4/\1<=sg false z.natAbs+1:=by
 have e:sg false z.natAbs=(z.natAbs:Int):=rfl;rw[e];have h4:L32 ^ 2+1<=L32 ^ 4:=by decide
 omega
theorem fit_all {o:Int} (ho:o=18\/o=19) {ts:List F} (h:∀ t ∈ ts,srt t.op=1):fitF o 0 (srts ts)=true:=by
 rcases ho with rfl | rfl<;>simp[fitF,kidsOk,srts]<;>exact h
theorem idx3_0 (o0 o1 o2:Option Addr) (l0 l1 l2 c0 c1 c2:Nat) (w:World):(Instr.index 66 (.agg #[.slice o0 l0 c0,.slice o1 l1 c1,.slice o2 l2 c2]) (.int .i64 0)).run Tryz.prog w=.ok (.slice o0 l0 c0) w:=by
 unfold Instr.index;simp[go_sem,asIntOf]
theorem idx3_1 (o0 o1 o2:Option Addr) (l0 l1 l2 c0 c1 c2:Nat) (w:World):(Instr.index 66 (.agg #[.slice o0 l0 c0,.slice o1 l1 c1,.slice o2 l2 c2]) (.int .i64 1)).run Tryz.prog w=.ok (.slice o1 l1 c1) w:=by
 unfold Instr.index;simp[go_sem,asIntOf]
theorem idx3_2 (o0 o1 o2:Option Addr) (l0 l1 l2 c0 c1 c2:Nat) (w:World):(Instr.index 66 (.agg #[.slice o0 l0 c0,.slice o1 l1 c1,.slice o2 l2 c2]) (.int .i64 2)).run Tryz.prog w=.ok (.slice o2 l2 c2) w:=by
 unfold Instr.index;simp[go_sem,asIntOf]
end Go.Proofs.YtdkfnbbebpbhaaaGreatDoor
