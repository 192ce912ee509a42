/-
 Joined texts: LgBc,ShelfC,LgBd,LgX,LgY,LgZ.
-/
import Derived.Shelf.Unicode.DecodeSlow
import Derived.Shelf.Strings.Builder1
import Derived.Shelf.Small.Utf8
import Derived.Shelf.Small.Bits
import Derived.Shelf.Small.Wraps
import Derived.Shelf.Strings.BuilderF
import Derived.Shelf.Strings.BuilderK
import Derived.Shelf.Utf8.AppendRune
import Derived.Shelf.Utf8.AppendRunePlain
import Derived.Shelf.Strconv.Bsearch
import Derived.Shelf.Strconv.IsPrint
import Derived.Shelf.Strconv.IsPrint16
import Derived.Shelf.Strconv.IsPrint32
import Derived.Shelf.Strconv.Escaped
import Derived.Shelf.Strconv.Quoted
import Derived.Shelf.Strconv.Quote
import Derived.Shelf.Strconv.Itoa0
import Derived.Shelf.Strconv.Itoa1
import Derived.Shelf.LaysM
import Derived.Shelf.Strconv.Itoa2
import Derived.Shelf.Strconv.Itoa3
import Derived.Shelf.Unicode.Decode
import Derived.Shelf.Unicode.DecodeAny
import Derived.Shelf.Strings.BuilderCap
import Derived.Shelf.Slices.Turned
import Derived.Ground.Names2Prog
import Derived.Shelf.Slices.SearchI
import Derived.Test.YtoncclhbdkjhmaaGreatDoorProg
import Derived.Laws.IdiomStrings
import Derived.Test.YtoncclhbdkjhmaaGreatDoorJLogicPuts5
set_option maxHeartbeats 32000000
open Go renaming lt_of_block→ag,World→an,Value→ay,heap_setCell_same→aF,Calls→bf,Addr→cH
open Go.Instr renaming index→pz
open Go.Lib renaming hid→aa
open Go.Proofs.Tryz renaming prog→ax,underlying9→gH,underlying5→lf,underlying99→oh
open Go.RowKit renaming Below→aC
open Go.RowKit.Below renaming refl→av
open Go.Value renaming ownBlock→eN
open Go.World renaming block_lt_of_cell?→bW
open Go.World.grownBy renaming refl→aJ
open Int renaming tmod_eq_emod_of_nonneg→AS
open List renaming not_mem_nil→cl,getElem_mem→cI,length→dL,eq_nil_of_length_eq_zero→fh,append_assoc→gl
open Nat renaming not_lt_zero→ah,le_refl→ak,le_trans→aq,zero_le→au,lt_of_lt_of_le→aK
namespace Go.Proofs.YtoncclhbdkjhmaaGreatDoor
open Go.RowKit
set_option maxRecDepth 100000
set_option linter.unusedVariables false
set_option linter.unusedSimpArgs false
attribute [local go_sem] jn jm jl jk
structure CJ (w:an):Prop where
 NB : Lib.TabIs ax w "internal/strconv.uint64pow10" .u64 Lib.pow10Tab
 wds:∀ i,i<21->w.cell? ⟨1,i,none⟩=some (.string ⟨(uH.getD i []).toArray⟩)
 Ot:Lib.PrintTabsAt 6 7 8 9 Lib.goPrintTabs w
 Ok:Lib.Utf8Tabs 4 5 w
theorem tabSlice_below {g:Nat} {k:IntKind} {t:List Nat} {w w':an} (h:Lib.TabSlice g k t w) (hb:aC w.heap.size w w'):Lib.TabSlice g k t w':=by
 obtain⟨R,o,c,h1,h2⟩:=h;exact⟨R,o,c,by rw[hb.cell (bS h1)];exact h1,fun j hj=>by rw[hb.cell (bS (h2 j hj))];exact h2 j hj⟩
theorem CJ.below {w w':an} (h:CJ w) (hb:aC w.heap.size w w'):CJ w' where
 NB:=rh h.NB hb
 wds i hi:=by rw[hb.cell (bS (h.wds i hi))];exact h.wds i hi
 Ot:=by
  obtain⟨a,b,c,d,e⟩:=h.Ot;exact⟨tabSlice_below a hb,tabSlice_below b hb,tabSlice_below c hb,tabSlice_below d hb,e⟩
 Ok:=by
  obtain⟨a,b⟩:=h.Ok;exact⟨fun c hc=>by rw[hb.cell (bS (a c hc))];exact a c hc,fun i hi=>⟨by rw[hb.cell (bS (b i hi).1)];exact (b i hi).1,by rw[hb.cell (bS (b i hi).2)];exact (b i hi).2⟩⟩
def sA:Prop:=∀ nm ∈ oX,∀ w:an,CJ w->bf ax 117 #[.string nm] w fun e w'=>e=.returned (.string ⟨(qt nm).toArray⟩)/\aC w.heap.size w w'
theorem vX (o:Int) (h0:0<=o) (h1:o<=20) (w:an) (ht:CJ w) :
  bf ax 115 #[.int .i64 o] w fun e w'=>e=.returned (.string ⟨(wd o).toArray⟩)/\aC w.heap.size w w':=by
 obtain⟨k,rfl⟩:∃ k:Nat,o=k:=⟨o.toNat,by omega⟩
 have hk:k<21:=by omega
 have c:=ht.wds k hk;have e:wd (k:Int)=uH.getD k []:=rfl;rw[e];generalize uH.getD k []=s at c ⊢;clear ht e;go_enter Tryz.func115,Tryz.ntmps115
 go_wp2
 go_ret
 exact⟨rfl,av _ _⟩
theorem zN (ks:List F) (j:Nat):∀ m,j+m<=ks.length->(sW ks j).length<=(sW ks (j+m)).length
 | 0,_=>ak _
 | m+1,h=>by
  have ih:=zN ks j m (by omega)
  by_cases h0:j+m=0
  ·have hj:j=0:=by omega
   subst hj;rw[sV];exact au _
  rw[show j+(m+1)=(j+m)+1 by omega,zM ks (j+m) (by omega) (by omega),fI];omega
theorem DY (ks:List F) (j:Nat) (h:j<=ks.length) (h0:0<ks.length):(sW ks j).length+1<=(rf ks).length:=by
 have h1:=zN ks j (ks.length - j) (by omega);rw[show j+(ks.length - j)=ks.length by omega] at h1;have h2:=congrArg dL (yB ks h0);rw[fI] at h2;simp only[ru,xC] at h2
 omega
theorem zL (ks:List F) (j:Nat) (h:j<ks.length):∃ m:Bs,sW ks (j+1)=sW ks j++(m++nA ks[j])/\((j=0/\m=[40])\/(0<j/\m=[44,32])):=by
 by_cases h0:j=0
 ·subst h0;exact⟨[40],by rw[GF ks h,sV];rfl,.inl ⟨rfl,rfl⟩⟩
 exact⟨[44,32],zM ks j (by omega) h,.inr ⟨by omega,rfl⟩⟩
def uC (d:Nat):Prop:=∀ (w0 w:an) (v:ay) (t:F) (B b:Nat) (l:Bs),FC w0 tS d v t->CJ w0->rt t=true->Tm d t->w0.heap.size<=B->aC w0.heap.size w0 w->sO B b l w->B<=w.heap.size->l.length+(nA t).length<=1000000 ->
 bf ax 67 #[.pointer (some ⟨b,0,none⟩),v] w (q_ B b (l++nA t) w)
theorem ff {B:Nat} {a b c:an} (h:aC B a b) (hB:B<=b.heap.size) (k:aC b.heap.size b c):aC B a c:=h.trans (k.mono hB)
theorem Jp (a:cH):a.add 0=a:=by simp[Addr.add]
theorem JW {o:Int} {nm:ByteArray} (ho:o=1\/o=8\/o=14) (h:fY o nm):nm ∈ oX:=by
 rcases ho with rfl | rfl | rfl
 ·rcases (show nm=_\/nm=_\/nm=_ from h) with rfl | rfl | rfl<;>simp[oX]
 ·rcases (show nm=_\/nm=_ from h) with rfl | rfl<;>simp[oX]
 rcases (show nm=_\/nm=_ from h) with rfl | rfl<;>simp[oX]
theorem JX {nm:ByteArray} (h:nm ∈ oX):nm.toList.isEmpty=false:=by
 simp only[oX,List.mem_cons,cl,or_false] at h;rcases h with rfl | rfl | rfl | rfl | rfl | rfl | rfl<;>(rw[ByteArray.toList_eq];rfl)
theorem LL {nm:ByteArray} (h:nm ∈ oX):nm ≠ ⟨#[]⟩:=by
 intro e;subst e
 simp[oX] at h
theorem CN (HQ:sA) (d:Nat) (IH:uC d) (w0 w:an) (v:ay) (t:F) (B b:Nat) (l:Bs) (ho:t.op=0):FC w0 tS (d+1) v t->CJ w0->rt t=true->Tm (d+1) t->w0.heap.size<=B->aC w0.heap.size w0 w->sO B b l w->B<=w.heap.size->l.length+(nA t).length<=1000000 ->
  bf ax 67 #[.pointer (some ⟨b,0,none⟩),v] w (q_ B b (l++nA t) w):=by
 intro hf ht rS xD hB dK cG hBw hlen;obtain⟨b2,ao,la,c,ko,kl,kc,rfl,⟨-,hz,eR,hkc,hkm⟩,-,hk⟩:=hf.open;obtain⟨o,z,nm,ks⟩:=t;simp only[F.op,F.num,F.name,F.kids] at hz hk eR ho ⊢;rw[show d+1 - 1=d from rfl] at hk;obtain⟨hfit,fy⟩:=iA rS;have xE:=jO hfit;obtain⟨hnm,yQ,hz0,-,uQ⟩:=xD;simp only[F.op,F.num,F.name,F.kids] at hnm yQ hz0 uQ;have vA:kc<=9223372036854775807:=hkm;have Fc:kl<=9223372036854775807:=aq hkc hkm;have n_:l.length+((wd o).length+((qq o z).length+((qL nm).length+(rf ks).length)))<=1000000:=by have h:=hlen;rw[nA,fI,fI,fI] at h;omega
 have HN:=aa eR;have HX:=aa hk;have HZ:=aa hz;have HT:=aa ht;have o5:=aa uQ;have vR:=aa fy;have nS:=aa n_;have Ng:=aa HQ;have Jv:=aa IH;have CK:=aa xE;have jE:=aa hB;have HW:=aa dK;have fN:=aa cG;have eA:Hid (B<=w.heap.size):=aa hBw;have f_:=aa (av B w);have fZ:=aa (zC.refl w);have wV:Hid (nA (.node o z nm ks)=wd o++(qq o z++(qL nm++rf ks))):=aa (by rw[nA]);clear hf ht rS hB dK cG hBw hlen n_ eR hk hz fy uQ HQ IH;subst ho;have Ia:ks=[]:=zR (by simpa [cO,bB] using hfit);have Nr:Hid (rf ks=[]):=aa (by rw[Ia];rfl);have tx:kl=0:=by rw[HN.out,Ia];rfl
 subst tx;have NM:nm=⟨#[]⟩:=hnm;subst NM;have xq:Hid (qq 0 z=32::oQ z):=aa (if_pos (.inl rfl));have Gp:Hid (qL ⟨#[]⟩=[]):=aa rfl;clear hfit hnm yQ hz0 xE hkc hkm;go_enter Tryz.func67,Tryz.ntmps67
 obtain⟨x1,kf,ef,hO,aR,gL,aj⟩:=aL w #[.int .i64 0,.bool b2,.slice ao la c,.string ⟨#[]⟩,.slice ko 0 kc] 29;replace HW:=aa (HW.out.trans (aR.out.mono HW.out.size));replace fN:=aa (fN.out.below aR.out);replace f_:=aa (ff f_.out eA.out aR.out);replace fZ:=aa (fZ.out.trans (eS aR.out));replace eA:=aa (aq eA.out aR.out.size);have c0:=ae (v:=.int .i64 0) aj.out 0 rfl;have bM:=af aj.out 0;have c1:=ae (v:=.bool b2) aj.out 1 rfl;have bL:=af aj.out 1;have c2:=ae (v:=.slice ao la c) aj.out 2 rfl;have bK:=af aj.out 2;have c3:=ae (v:=.string ⟨#[]⟩) aj.out 3 rfl;have bJ:=af aj.out 3;have c4:=ae (v:=.slice ko 0 kc) aj.out 4 rfl;have bI:=af aj.out 4;go_wp2_with fail
 refine (vX 0 CK.out.1 CK.out.2 x1 (HT.out.below HW.out)).mono ?_;rintro e x2 ⟨rfl,hb⟩;clear c0 bM c1 bL c2 bK c3 bJ c4 bI;replace aj:=aG hb aj;replace HW:=aa (HW.out.trans (hb.mono HW.out.size));replace fN:=aa (fN.out.below hb);replace f_:=aa (ff f_.out eA.out hb);replace fZ:=aa (fZ.out.trans (eS hb));replace eA:=aa (aq eA.out hb.size);clear hb;go_wp2_with fail
 refine (oF B b l (wd 0) x2 fN.out (by have:=nS.out;omega) eA.out).mono ?_;rintro e x3 ⟨⟨v,rfl⟩,cG,hb,hfr⟩;replace aj:=aa (hfr _ _ _ _ aj.out (by decide) (by decide));replace HW:=aa (HW.out.trans (hb.mono jE.out));replace f_:=aa (f_.out.trans hb);replace fZ:=aa (fZ.out.trans hfr);replace eA:Hid (B<=x3.heap.size):=aa (aq eA.out hb.size);replace fN:=aa cG;clear cG hb hfr;have c0:=ae (v:=.int .i64 0) aj.out 0 rfl;have bM:=af aj.out 0;have c1:=ae (v:=.bool b2) aj.out 1 rfl;have bL:=af aj.out 1;have c2:=ae (v:=.slice ao la c) aj.out 2 rfl;have bK:=af aj.out 2;have c3:=ae (v:=.string ⟨#[]⟩) aj.out 3 rfl;have bJ:=af aj.out 3;have c4:=ae (v:=.slice ko 0 kc) aj.out 4 rfl;have bI:=af aj.out 4;go_wp2_with fail
 refine (p7 B b (l++wd 0) 32 32 rfl x3 fN.out (by have:=nS.out;have h3:=xq.out;rw[h3] at this;rw[fI];simp only[ru] at this;omega) eA.out).mono ?_;rintro e x4 ⟨⟨v,rfl⟩,cG,hb,hfr⟩;clear c0 bM c1 bL c2 bK c3 bJ c4 bI;replace aj:=aa (hfr _ _ _ _ aj.out (by decide) (by decide));replace HW:=aa (HW.out.trans (hb.mono jE.out));replace f_:=aa (f_.out.trans hb);replace fZ:=aa (fZ.out.trans hfr);replace eA:Hid (B<=x4.heap.size):=aa (aq eA.out hb.size);replace fN:=aa cG;clear cG hb hfr;have c0:=ae (v:=.int .i64 0) aj.out 0 rfl;have bM:=af aj.out 0;have c1:=ae (v:=.bool b2) aj.out 1 rfl;have bL:=af aj.out 1;have c2:=ae (v:=.slice ao la c) aj.out 2 rfl;have bK:=af aj.out 2;have c3:=ae (v:=.string ⟨#[]⟩) aj.out 3 rfl
 have bJ:=af aj.out 3;have c4:=ae (v:=.slice ko 0 kc) aj.out 4 rfl;have bI:=af aj.out 4;go_wp2_with fail
 refine (xN _ z 600 x4 (HT.out.below HW.out).NB ((HZ.out.below HW.out).gi) (by decide)).mono ?_;rintro e x5 ⟨rfl,hb⟩;clear c0 bM c1 bL c2 bK c3 bJ c4 bI;replace aj:=aG hb aj;replace HW:=aa (HW.out.trans (hb.mono HW.out.size));replace fN:=aa (fN.out.below hb);replace f_:=aa (ff f_.out eA.out hb);replace fZ:=aa (fZ.out.trans (eS hb));replace eA:=aa (aq eA.out hb.size);clear hb;go_wp2_with fail
 refine (oF B b (l++wd 0++[32]) (oQ z) x5 fN.out (by have:=nS.out;have h3:=xq.out;rw[h3] at this;rw[fI,fI];simp only[ru,xC] at this ⊢;omega) eA.out).mono ?_;rintro e x6 ⟨⟨v,rfl⟩,cG,hb,hfr⟩;replace aj:=aa (hfr _ _ _ _ aj.out (by decide) (by decide));replace HW:=aa (HW.out.trans (hb.mono jE.out));replace f_:=aa (f_.out.trans hb);replace fZ:=aa (fZ.out.trans hfr);replace eA:Hid (B<=x6.heap.size):=aa (aq eA.out hb.size);replace fN:=aa cG;clear cG hb hfr;have c0:=ae (v:=.int .i64 0) aj.out 0 rfl;have bM:=af aj.out 0;have c1:=ae (v:=.bool b2) aj.out 1 rfl;have bL:=af aj.out 1;have c2:=ae (v:=.slice ao la c) aj.out 2 rfl;have bK:=af aj.out 2;have c3:=ae (v:=.string ⟨#[]⟩) aj.out 3 rfl;have bJ:=af aj.out 3
 have c4:=ae (v:=.slice ko 0 kc) aj.out 4 rfl;have bI:=af aj.out 4;go_wp2_with fail
 go_end0
 exact⟨⟨_,rfl⟩,by rw[wV.out,xq.out,Gp.out,Nr.out];simpa using fN.out,f_.out,fZ.out⟩
theorem CO (HQ:sA) (d:Nat) (IH:uC d) (w0 w:an) (v:ay) (t:F) (B b:Nat) (l:Bs) (ho:t.op=1\/t.op=8\/t.op=14):FC w0 tS (d+1) v t->CJ w0->rt t=true->Tm (d+1) t->w0.heap.size<=B->aC w0.heap.size w0 w->sO B b l w->B<=w.heap.size->l.length+(nA t).length<=1000000 ->
  bf ax 67 #[.pointer (some ⟨b,0,none⟩),v] w (q_ B b (l++nA t) w):=by
 intro hf ht rS xD hB dK cG hBw hlen;obtain⟨b2,ao,la,c,ko,kl,kc,rfl,⟨-,hz,eR,hkc,hkm⟩,-,hk⟩:=hf.open;obtain⟨o,z,nm,ks⟩:=t;simp only[F.op,F.num,F.name,F.kids] at hz hk eR ho ⊢;rw[show d+1 - 1=d from rfl] at hk;obtain⟨hfit,fy⟩:=iA rS;have xE:=jO hfit;obtain⟨hnm,yQ,hz0,-,uQ⟩:=xD;simp only[F.op,F.num,F.name,F.kids] at hnm yQ hz0 uQ;have vA:kc<=9223372036854775807:=hkm;have Fc:kl<=9223372036854775807:=aq hkc hkm;have n_:l.length+((wd o).length+((qq o z).length+((qL nm).length+(rf ks).length)))<=1000000:=by have h:=hlen;rw[nA,fI,fI,fI] at h;omega
 have HN:=aa eR;have HX:=aa hk;have HZ:=aa hz;have HT:=aa ht;have o5:=aa uQ;have vR:=aa fy;have nS:=aa n_;have Ng:=aa HQ;have Jv:=aa IH;have CK:=aa xE;have jE:=aa hB;have HW:=aa dK;have fN:=aa cG;have eA:Hid (B<=w.heap.size):=aa hBw;have f_:=aa (av B w);have fZ:=aa (zC.refl w);have wV:Hid (nA (.node o z nm ks)=wd o++(qq o z++(qL nm++rf ks))):=aa (by rw[nA]);clear hf ht rS hB dK cG hBw hlen n_ eR hk hz fy uQ HQ IH;have Ia:ks=[]:=by rcases ho with rfl | rfl | rfl<;>exact zR (by simpa [cO,bB] using hfit)
 have Nr:Hid (rf ks=[]):=aa (by rw[Ia];rfl);have tx:kl=0:=by rw[HN.out,Ia];rfl
 subst tx;have jK:z=0:=hz0 (by omega) (by omega) (by omega);subst jK;have yh:nm ∈ oX:=JW ho hnm;have QC:=aa yh;have hne:nm ≠ ⟨#[]⟩:=LL yh;have hnb:=JX yh;have xq:Hid (qq o 0=[]):=aa (if_neg (by omega));have Gp:Hid (qL nm=32::qt nm):=aa (if_neg hne);have OV:(o==0)=false:=beq_eq_false_iff_ne.2 (by omega);have KW:Hid (eK 0=0):=aa rfl;clear hfit hnm yQ hz0 xE hkc hkm;clear ho hne yh Ia;go_enter Tryz.func67,Tryz.ntmps67
 obtain⟨x1,kf,ef,hO,aR,gL,aj⟩:=aL w #[.int .i64 o,.bool b2,.slice ao la c,.string nm,.slice ko 0 kc] 29;replace HW:=aa (HW.out.trans (aR.out.mono HW.out.size));replace fN:=aa (fN.out.below aR.out);replace f_:=aa (ff f_.out eA.out aR.out);replace fZ:=aa (fZ.out.trans (eS aR.out));replace eA:=aa (aq eA.out aR.out.size);have c0:=ae (v:=.int .i64 o) aj.out 0 rfl;have bM:=af aj.out 0;have c1:=ae (v:=.bool b2) aj.out 1 rfl;have bL:=af aj.out 1;have c2:=ae (v:=.slice ao la c) aj.out 2 rfl;have bK:=af aj.out 2;have c3:=ae (v:=.string nm) aj.out 3 rfl;have bJ:=af aj.out 3;have c4:=ae (v:=.slice ko 0 kc) aj.out 4 rfl;have bI:=af aj.out 4;go_wp2_with fail
 refine (vX o CK.out.1 CK.out.2 x1 (HT.out.below HW.out)).mono ?_;rintro e x2 ⟨rfl,hb⟩;clear c0 bM c1 bL c2 bK c3 bJ c4 bI;replace aj:=aG hb aj;replace HW:=aa (HW.out.trans (hb.mono HW.out.size));replace fN:=aa (fN.out.below hb);replace f_:=aa (ff f_.out eA.out hb);replace fZ:=aa (fZ.out.trans (eS hb));replace eA:=aa (aq eA.out hb.size);clear hb;go_wp2_with fail
 refine (oF B b l (wd o) x2 fN.out (by have:=nS.out;omega) eA.out).mono ?_;rintro e x3 ⟨⟨v,rfl⟩,cG,hb,hfr⟩;replace aj:=aa (hfr _ _ _ _ aj.out (by decide) (by decide));replace HW:=aa (HW.out.trans (hb.mono jE.out));replace f_:=aa (f_.out.trans hb);replace fZ:=aa (fZ.out.trans hfr);replace eA:Hid (B<=x3.heap.size):=aa (aq eA.out hb.size);replace fN:=aa cG;clear cG hb hfr;have c0:=ae (v:=.int .i64 o) aj.out 0 rfl;have bM:=af aj.out 0;have c1:=ae (v:=.bool b2) aj.out 1 rfl;have bL:=af aj.out 1;have c2:=ae (v:=.slice ao la c) aj.out 2 rfl;have bK:=af aj.out 2;have c3:=ae (v:=.string nm) aj.out 3 rfl;have bJ:=af aj.out 3;have c4:=ae (v:=.slice ko 0 kc) aj.out 4 rfl;have bI:=af aj.out 4;go_wp2_with fail
 refine (gZ _ 0 600 x3 ((HZ.out.below HW.out).gi) (by decide)).mono ?_;rintro e x4 ⟨rfl,hb⟩;clear c0 bM c1 bL c2 bK c3 bJ c4 bI;replace aj:=aG hb aj;replace HW:=aa (HW.out.trans (hb.mono HW.out.size));replace fN:=aa (fN.out.below hb);replace f_:=aa (ff f_.out eA.out hb);replace fZ:=aa (fZ.out.trans (eS hb));replace eA:=aa (aq eA.out hb.size);clear hb;rw[KW.out];have c0:=ae (v:=.int .i64 o) aj.out 0 rfl;have bM:=af aj.out 0;have c1:=ae (v:=.bool b2) aj.out 1 rfl;have bL:=af aj.out 1;have c2:=ae (v:=.slice ao la c) aj.out 2 rfl;have bK:=af aj.out 2;have c3:=ae (v:=.string nm) aj.out 3 rfl;have bJ:=af aj.out 3;have c4:=ae (v:=.slice ko 0 kc) aj.out 4 rfl;have bI:=af aj.out 4;go_wp2_with fail
 refine (p7 B b (l++wd o) 32 32 rfl x4 fN.out (by have:=nS.out;rw[fI];omega) eA.out).mono ?_;rintro e x5 ⟨⟨v,rfl⟩,cG,hb,hfr⟩;clear c0 bM c1 bL c2 bK c3 bJ c4 bI;replace aj:=aa (hfr _ _ _ _ aj.out (by decide) (by decide));replace HW:=aa (HW.out.trans (hb.mono jE.out));replace f_:=aa (f_.out.trans hb);replace fZ:=aa (fZ.out.trans hfr);replace eA:Hid (B<=x5.heap.size):=aa (aq eA.out hb.size);replace fN:=aa cG;clear cG hb hfr;have c0:=ae (v:=.int .i64 o) aj.out 0 rfl;have bM:=af aj.out 0;have c1:=ae (v:=.bool b2) aj.out 1 rfl;have bL:=af aj.out 1;have c2:=ae (v:=.slice ao la c) aj.out 2 rfl;have bK:=af aj.out 2;have c3:=ae (v:=.string nm) aj.out 3 rfl;have bJ:=af aj.out 3
 have c4:=ae (v:=.slice ko 0 kc) aj.out 4 rfl;have bI:=af aj.out 4;go_wp2_with fail
 refine (Ng.out nm QC.out x5 (HT.out.below HW.out)).mono ?_;rintro e x6 ⟨rfl,hb⟩;clear c0 bM c1 bL c2 bK c3 bJ c4 bI;replace aj:=aG hb aj;replace HW:=aa (HW.out.trans (hb.mono HW.out.size));replace fN:=aa (fN.out.below hb);replace f_:=aa (ff f_.out eA.out hb);replace fZ:=aa (fZ.out.trans (eS hb));replace eA:=aa (aq eA.out hb.size);clear hb;go_wp2_with fail
 refine (oF B b (l++wd o++[32]) (qt nm) x6 fN.out (by have:=nS.out;have h3:=Gp.out;rw[h3] at this;rw[fI,fI];simp only[ru,xC] at this ⊢;omega) eA.out).mono ?_;rintro e x7 ⟨⟨v,rfl⟩,cG,hb,hfr⟩;replace aj:=aa (hfr _ _ _ _ aj.out (by decide) (by decide));replace HW:=aa (HW.out.trans (hb.mono jE.out));replace f_:=aa (f_.out.trans hb);replace fZ:=aa (fZ.out.trans hfr);replace eA:Hid (B<=x7.heap.size):=aa (aq eA.out hb.size);replace fN:=aa cG;clear cG hb hfr;have c0:=ae (v:=.int .i64 o) aj.out 0 rfl;have bM:=af aj.out 0;have c1:=ae (v:=.bool b2) aj.out 1 rfl;have bL:=af aj.out 1;have c2:=ae (v:=.slice ao la c) aj.out 2 rfl;have bK:=af aj.out 2;have c3:=ae (v:=.string nm) aj.out 3 rfl;have bJ:=af aj.out 3
 have c4:=ae (v:=.slice ko 0 kc) aj.out 4 rfl;have bI:=af aj.out 4;go_wp2_with fail
 go_end0
 exact⟨⟨_,rfl⟩,by rw[wV.out,xq.out,Gp.out,Nr.out];simpa using fN.out,f_.out,fZ.out⟩
theorem DS (HQ:sA) (d:Nat) (IH:uC d) (w0 w:an) (v:ay) (t:F) (B b:Nat) (l:Bs) (ho:t.op≠0/\t.op≠1/\t.op≠8/\t.op≠14) (Da:t.num=0) (hks:t.kids.length≠0):FC w0 tS (d+1) v t->CJ w0->rt t=true->Tm (d+1) t->w0.heap.size<=B->aC w0.heap.size w0 w->sO B b l w->B<=w.heap.size->l.length+(nA t).length<=1000000 ->
  bf ax 67 #[.pointer (some ⟨b,0,none⟩),v] w (q_ B b (l++nA t) w):=by
 intro hf ht rS xD hB dK cG hBw hlen;obtain⟨b2,ao,la,c,ko,kl,kc,rfl,⟨-,hz,eR,hkc,hkm⟩,-,hk⟩:=hf.open;obtain⟨o,z,nm,ks⟩:=t;simp only[F.op,F.num,F.name,F.kids] at hz hk eR ho Da hks ⊢;rw[show d+1 - 1=d from rfl] at hk;obtain⟨hfit,fy⟩:=iA rS;have xE:=jO hfit;obtain⟨hnm,yQ,hz0,-,uQ⟩:=xD;simp only[F.op,F.num,F.name,F.kids] at hnm yQ hz0 uQ;have vA:kc<=9223372036854775807:=hkm;have Fc:kl<=9223372036854775807:=aq hkc hkm;have n_:l.length+((wd o).length+((qq o z).length+((qL nm).length+(rf ks).length)))<=1000000:=by have h:=hlen;rw[nA,fI,fI,fI] at h;omega
 have HN:=aa eR;have HX:=aa hk;have HZ:=aa hz;have HT:=aa ht;have o5:=aa uQ;have vR:=aa fy;have nS:=aa n_;have Ng:=aa HQ;have Jv:=aa IH;have CK:=aa xE;have jE:=aa hB;have HW:=aa dK;have fN:=aa cG;have eA:Hid (B<=w.heap.size):=aa hBw;have f_:=aa (av B w);have fZ:=aa (zC.refl w);have wV:Hid (nA (.node o z nm ks)=wd o++(qq o z++(qL nm++rf ks))):=aa (by rw[nA]);clear hf ht rS hB dK cG hBw hlen n_ eR hk hz fy uQ HQ IH;have yh:nm=⟨#[]⟩:=by unfold fY at hnm;rw[if_neg (by omega),if_neg (by omega),if_neg (by omega)] at hnm;exact hnm
 subst yh;have Gp:Hid (qL ⟨#[]⟩=[]):=aa rfl;have OV:(o==0)=false:=beq_eq_false_iff_ne.2 (by omega);subst Da;have xq:Hid (qq o 0=[]):=aa (if_neg (by omega));have KW:Hid (eK 0=0):=aa rfl;have hkp:kl≠0:=by rw[HN.out];exact hks
 have hkb:(((kl:Nat):Int)==0)=false:=beq_eq_false_iff_ne.2 (by omega);clear hks;clear hfit hnm yQ hz0 xE hkc hkm;clear ho;go_enter Tryz.func67,Tryz.ntmps67
 obtain⟨x1,kf,ef,hO,aR,gL,aj⟩:=aL w #[.int .i64 o,.bool b2,.slice ao la c,.string ⟨#[]⟩,.slice ko kl kc] 29;replace HW:=aa (HW.out.trans (aR.out.mono HW.out.size));replace fN:=aa (fN.out.below aR.out);replace f_:=aa (ff f_.out eA.out aR.out);replace fZ:=aa (fZ.out.trans (eS aR.out));replace eA:=aa (aq eA.out aR.out.size);have c0:=ae (v:=.int .i64 o) aj.out 0 rfl;have bM:=af aj.out 0;have c1:=ae (v:=.bool b2) aj.out 1 rfl;have bL:=af aj.out 1;have c2:=ae (v:=.slice ao la c) aj.out 2 rfl;have bK:=af aj.out 2;have c3:=ae (v:=.string ⟨#[]⟩) aj.out 3 rfl;have bJ:=af aj.out 3;have c4:=ae (v:=.slice ko kl kc) aj.out 4 rfl;have bI:=af aj.out 4;go_wp2_with fail
 refine (vX o CK.out.1 CK.out.2 x1 (HT.out.below HW.out)).mono ?_;rintro e x2 ⟨rfl,hb⟩;clear c0 bM c1 bL c2 bK c3 bJ c4 bI;replace aj:=aG hb aj;replace HW:=aa (HW.out.trans (hb.mono HW.out.size));replace fN:=aa (fN.out.below hb);replace f_:=aa (ff f_.out eA.out hb);replace fZ:=aa (fZ.out.trans (eS hb));replace eA:=aa (aq eA.out hb.size);clear hb;go_wp2_with fail
 refine (oF B b l (wd o) x2 fN.out (by have:=nS.out;omega) eA.out).mono ?_;rintro e x3 ⟨⟨v,rfl⟩,cG,hb,hfr⟩;replace aj:=aa (hfr _ _ _ _ aj.out (by decide) (by decide));replace HW:=aa (HW.out.trans (hb.mono jE.out));replace f_:=aa (f_.out.trans hb);replace fZ:=aa (fZ.out.trans hfr);replace eA:Hid (B<=x3.heap.size):=aa (aq eA.out hb.size);replace fN:=aa cG;clear cG hb hfr;have c0:=ae (v:=.int .i64 o) aj.out 0 rfl;have bM:=af aj.out 0;have c1:=ae (v:=.bool b2) aj.out 1 rfl;have bL:=af aj.out 1;have c2:=ae (v:=.slice ao la c) aj.out 2 rfl;have bK:=af aj.out 2;have c3:=ae (v:=.string ⟨#[]⟩) aj.out 3 rfl;have bJ:=af aj.out 3;have c4:=ae (v:=.slice ko kl kc) aj.out 4 rfl;have bI:=af aj.out 4;go_wp2_with fail
 refine (gZ _ 0 600 x3 ((HZ.out.below HW.out).gi) (by decide)).mono ?_;rintro e x4 ⟨rfl,hb⟩;clear c0 bM c1 bL c2 bK c3 bJ c4 bI;replace aj:=aG hb aj;replace HW:=aa (HW.out.trans (hb.mono HW.out.size));replace fN:=aa (fN.out.below hb);replace f_:=aa (ff f_.out eA.out hb);replace fZ:=aa (fZ.out.trans (eS hb));replace eA:=aa (aq eA.out hb.size);clear hb;rw[KW.out];have c0:=ae (v:=.int .i64 o) aj.out 0 rfl;have bM:=af aj.out 0;have c1:=ae (v:=.bool b2) aj.out 1 rfl;have bL:=af aj.out 1;have c2:=ae (v:=.slice ao la c) aj.out 2 rfl;have bK:=af aj.out 2;have c3:=ae (v:=.string ⟨#[]⟩) aj.out 3 rfl;have bJ:=af aj.out 3;have c4:=ae (v:=.slice ko kl kc) aj.out 4 rfl;have bI:=af aj.out 4;go_wp2_with fail
 clear c0 bM c1 bL c2 bK c3 bJ c4 bI;obtain⟨L,hL⟩:∃ L,L=l++wd o:=⟨_,rfl⟩
 rw[<-hL] at fN;have Nn:Hid (l++nA (.node o 0 ⟨#[]⟩ ks)=L++rf ks):=aa (by rw[wV.out,xq.out,Gp.out,hL];simp);have DA:Hid (L.length+(rf ks).length<=1000000):=aa (by have h3:=congrArg dL Nn.out;rw[fI,fI] at h3;have h4:=nS.out;have h5:=congrArg dL wV.out;rw[fI,fI,fI] at h5;omega);clear hL;replace fN:Hid (sO B b (L++sW ks 0) x4):=aa (by rw[sV,List.append_nil];exact fN.out)
 go_loopw [44] (fun i wr=>∃ j:Nat,i=.int .i64 (j:Nat)/\j<=kl/\Hid (sO B b (L++sW ks j) wr)/\Hid (aC B w wr)/\Hid (zC w wr)/\Hid (aC w0.heap.size w0 wr)/\Hid (B<=wr.heap.size)) (fun i _=>kl - (intOf i).toNat)
 case atStart=>exact⟨0,rfl,au _,fN,f_,fZ,HW,eA⟩
 case round =>
  obtain⟨wl,Bv⟩:∃ q,q=wr:=⟨_,rfl⟩
  subst Bv;clear fN f_ fZ HW eA;obtain⟨j,rfl,hj,fN,f_,fZ,HW,eA⟩:=hrel
  by_cases hlt:j<kl
  ·have qu:j<ks.length:=by rw[<-HN.out];exact hlt
   have zA:=aa qu;obtain⟨m,AU,H8⟩:=zL ks j qu;have HM:=aa AU;have E_:=DY ks (j+1) qu (by omega);have B4:=aa E_;have hin:(ks[j]'qu) ∈ ks:=cI qu;have zB:=aa hin;obtain⟨kd,BA⟩:∃ y,y=(ks[j]'qu):=⟨_,rfl⟩
   rw[<-BA] at HM zB;have Vo:Hid (kd=ks[j]'zA.out):=aa BA;obtain⟨a,bb,qo,ql,qc,po,pl,pc,rfl,BC,Dg⟩:=HX.out.cells j qu;rw[<-BA] at BC Dg;obtain⟨x,ry⟩:∃ x,x=kd.op:=⟨_,rfl⟩
   obtain⟨ym,K2⟩:∃ x,x=kd.name:=⟨_,rfl⟩
   rw[<-ry,<-K2] at BC Dg;have FW:=aa Dg;obtain⟨c0,c1,c2,c3,c4⟩:=BC;rw[<-HW.out.cell (bS c0)] at c0;rw[<-HW.out.cell (bS c1)] at c1;rw[<-HW.out.cell (bS c2)] at c2;rw[<-HW.out.cell (bS c3)] at c3;rw[<-HW.out.cell (bS c4)] at c4;clear AU E_ hin BA Dg ry K2 qu;obtain⟨x5,k7,e7,PX,rA,O4,eW⟩:=aL wl #[.int .i64 x,.bool bb,.slice qo ql qc,.string ym,.slice po pl pc] 29;replace HW:=aa (HW.out.trans (rA.out.mono HW.out.size));replace fN:=aa (fN.out.below rA.out);replace f_:=aa (ff f_.out eA.out rA.out);replace fZ:=aa (fZ.out.trans (eS rA.out));replace eA:=aa (aq eA.out rA.out.size);rcases H8 with ⟨rfl,rfl⟩ | ⟨O9,rfl⟩
   ·simp only[Nat.zero_mul,Jp] at c0 c1 c2 c3 c4;have g0:=ae (v:=.int .i64 x) eW.out 0 rfl;have nF:=af eW.out 0;have g1:=ae (v:=.bool bb) eW.out 1 rfl;have nD:=af eW.out 1;have g2:=ae (v:=.slice qo ql qc) eW.out 2 rfl;have oA:=af eW.out 2;have g3:=ae (v:=.string ym) eW.out 3 rfl;have oz:=af eW.out 3;have g4:=ae (v:=.slice po pl pc) eW.out 4 rfl;have oy:=af eW.out 4;go_wp2_with fail
    refine (p7 B b (L++sW ks 0) 40 40 rfl x5 fN.out (by rw[fI];have h3:=B4.out;have h4:=congrArg dL HM.out;rw[fI,fI] at h4;have h5:=DA.out;simp only[fI,ru,xC] at *;omega) eA.out).mono ?_;rintro e x6 ⟨⟨v,rfl⟩,cG,hb,hfr⟩;clear g0 nF g1 nD g2 oA g3 oz g4 oy;replace eW:=aa (hfr _ _ _ _ eW.out (by decide) (by decide));replace HW:=aa (HW.out.trans (hb.mono jE.out));replace f_:=aa (f_.out.trans hb);replace fZ:=aa (fZ.out.trans hfr);replace eA:Hid (B<=x6.heap.size):=aa (aq eA.out hb.size);replace fN:=aa cG;clear cG hb hfr;have g0:=ae (v:=.int .i64 x) eW.out 0 rfl;have nF:=af eW.out 0;have g1:=ae (v:=.bool bb) eW.out 1 rfl;have nD:=af eW.out 1;have g2:=ae (v:=.slice qo ql qc) eW.out 2 rfl;have oA:=af eW.out 2
    have g3:=ae (v:=.string ym) eW.out 3 rfl;have oz:=af eW.out 3;have g4:=ae (v:=.slice po pl pc) eW.out 4 rfl;have oy:=af eW.out 4;clear c0 c1 c2 c3 c4;go_wp2_with fail
    refine (Jv.out w0 x6 _ kd B b (L++sW ks 0++[40]) FW.out HT.out (vR.out kd zB.out) (o5.out kd zB.out) jE.out HW.out fN.out eA.out (by rw[fI,fI];have h3:=B4.out;have h4:=congrArg dL HM.out;rw[fI,fI] at h4;have h5:=DA.out;simp only[fI,ru,xC] at *;omega)).mono ?_;rintro e x7 ⟨⟨v,rfl⟩,cG,hb,hfr⟩;clear g0 nF g1 nD g2 oA g3 oz g4 oy;replace eW:=aa (hfr _ _ _ _ eW.out (by decide) (by decide));replace HW:=aa (HW.out.trans (hb.mono jE.out));replace f_:=aa (f_.out.trans hb);replace fZ:=aa (fZ.out.trans hfr);replace eA:Hid (B<=x7.heap.size):=aa (aq eA.out hb.size);replace fN:=aa cG;clear cG hb hfr;go_wp2_with fail
    go_roundw
    case rel=>exact⟨1,by go_num,hlt,aa (by rw[HM.out];simpa using fN.out),f_,fZ,HW,eA⟩
    case measure=>simp[intOf];omega
   have Mh:(((j:Nat):Int)==0)=false:=beq_eq_false_iff_ne.2 (by omega);clear O9;have g0:=ae (v:=.int .i64 x) eW.out 0 rfl;have nF:=af eW.out 0;have g1:=ae (v:=.bool bb) eW.out 1 rfl;have nD:=af eW.out 1;have g2:=ae (v:=.slice qo ql qc) eW.out 2 rfl;have oA:=af eW.out 2;have g3:=ae (v:=.string ym) eW.out 3 rfl;have oz:=af eW.out 3;have g4:=ae (v:=.slice po pl pc) eW.out 4 rfl;have oy:=af eW.out 4;go_wp2_with fail
   refine (oF B b (L++sW ks j) [44,32] x5 fN.out (by rw[fI];have h3:=B4.out;have h4:=congrArg dL HM.out;rw[fI,fI] at h4;have h5:=DA.out;simp only[fI,ru,xC] at *;omega) eA.out).mono ?_;rintro e x6 ⟨⟨v,rfl⟩,cG,hb,hfr⟩;clear g0 nF g1 nD g2 oA g3 oz g4 oy;replace eW:=aa (hfr _ _ _ _ eW.out (by decide) (by decide));replace HW:=aa (HW.out.trans (hb.mono jE.out));replace f_:=aa (f_.out.trans hb);replace fZ:=aa (fZ.out.trans hfr);replace eA:Hid (B<=x6.heap.size):=aa (aq eA.out hb.size);replace fN:=aa cG;clear cG hb hfr;have g0:=ae (v:=.int .i64 x) eW.out 0 rfl;have nF:=af eW.out 0;have g1:=ae (v:=.bool bb) eW.out 1 rfl;have nD:=af eW.out 1;have g2:=ae (v:=.slice qo ql qc) eW.out 2 rfl;have oA:=af eW.out 2
   have g3:=ae (v:=.string ym) eW.out 3 rfl;have oz:=af eW.out 3;have g4:=ae (v:=.slice po pl pc) eW.out 4 rfl;have oy:=af eW.out 4;clear c0 c1 c2 c3 c4;go_wp2_with fail
   refine (Jv.out w0 x6 _ kd B b (L++sW ks j++[44,32]) FW.out HT.out (vR.out kd zB.out) (o5.out kd zB.out) jE.out HW.out fN.out eA.out (by rw[fI,fI];have h3:=B4.out;have h4:=congrArg dL HM.out;rw[fI,fI] at h4;have h5:=DA.out;simp only[fI,ru,xC] at *;omega)).mono ?_;rintro e x7 ⟨⟨v,rfl⟩,cG,hb,hfr⟩;clear g0 nF g1 nD g2 oA g3 oz g4 oy;replace eW:=aa (hfr _ _ _ _ eW.out (by decide) (by decide));replace HW:=aa (HW.out.trans (hb.mono jE.out));replace f_:=aa (f_.out.trans hb);replace fZ:=aa (fZ.out.trans hfr);replace eA:Hid (B<=x7.heap.size):=aa (aq eA.out hb.size);replace fN:=aa cG;clear cG hb hfr;go_wp2_with fail
   go_roundw
   case rel=>exact⟨j+1,by go_num,hlt,aa (by rw[HM.out];simpa using fN.out),f_,fZ,HW,eA⟩
   case measure=>simp[intOf];omega
  have AV:j=kl:=by omega
  have Ns:Hid (sW ks j++[41]=rf ks):=aa (by have h4:=yB ks (by rw[<-HN.out];omega);rw[<-HN.out,<-AV] at h4;exact h4);clear AV;go_wp2_with fail
  refine (p7 B b (L++sW ks j) 41 41 rfl wl fN.out (by rw[fI];have h3:=congrArg dL Ns.out;rw[fI] at h3;have h5:=DA.out;omega) eA.out).mono ?_;rintro e x5 ⟨⟨v,rfl⟩,cG,hb,hfr⟩;replace HW:=aa (HW.out.trans (hb.mono jE.out));replace f_:=aa (f_.out.trans hb);replace fZ:=aa (fZ.out.trans hfr);replace eA:Hid (B<=x5.heap.size):=aa (aq eA.out hb.size);replace fN:=aa cG;clear cG hb hfr;go_wp2_with fail
  go_end0
  exact⟨⟨_,rfl⟩,by rw[Nn.out,<-Ns.out,<-gl];exact fN.out,f_.out,fZ.out⟩
theorem DU (HQ:sA) (d:Nat) (IH:uC d) (w0 w:an) (v:ay) (t:F) (B b:Nat) (l:Bs) (ho:t.op≠0/\t.op≠1/\t.op≠8/\t.op≠14) (Da:t.num≠0) (hks:t.kids.length≠0):FC w0 tS (d+1) v t->CJ w0->rt t=true->Tm (d+1) t->w0.heap.size<=B->aC w0.heap.size w0 w->sO B b l w->B<=w.heap.size->l.length+(nA t).length<=1000000 ->
  bf ax 67 #[.pointer (some ⟨b,0,none⟩),v] w (q_ B b (l++nA t) w):=by
 intro hf ht rS xD hB dK cG hBw hlen;obtain⟨b2,ao,la,c,ko,kl,kc,rfl,⟨-,hz,eR,hkc,hkm⟩,-,hk⟩:=hf.open;obtain⟨o,z,nm,ks⟩:=t;simp only[F.op,F.num,F.name,F.kids] at hz hk eR ho Da hks ⊢;rw[show d+1 - 1=d from rfl] at hk;obtain⟨hfit,fy⟩:=iA rS;have xE:=jO hfit;obtain⟨hnm,yQ,hz0,-,uQ⟩:=xD;simp only[F.op,F.num,F.name,F.kids] at hnm yQ hz0 uQ;have vA:kc<=9223372036854775807:=hkm;have Fc:kl<=9223372036854775807:=aq hkc hkm;have n_:l.length+((wd o).length+((qq o z).length+((qL nm).length+(rf ks).length)))<=1000000:=by have h:=hlen;rw[nA,fI,fI,fI] at h;omega
 have HN:=aa eR;have HX:=aa hk;have HZ:=aa hz;have HT:=aa ht;have o5:=aa uQ;have vR:=aa fy;have nS:=aa n_;have Ng:=aa HQ;have Jv:=aa IH;have CK:=aa xE;have jE:=aa hB;have HW:=aa dK;have fN:=aa cG;have eA:Hid (B<=w.heap.size):=aa hBw;have f_:=aa (av B w);have fZ:=aa (zC.refl w);have wV:Hid (nA (.node o z nm ks)=wd o++(qq o z++(qL nm++rf ks))):=aa (by rw[nA]);clear hf ht rS hB dK cG hBw hlen n_ eR hk hz fy uQ HQ IH;have yh:nm=⟨#[]⟩:=by unfold fY at hnm;rw[if_neg (by omega),if_neg (by omega),if_neg (by omega)] at hnm;exact hnm
 subst yh;have Gp:Hid (qL ⟨#[]⟩=[]):=aa rfl;have OV:(o==0)=false:=beq_eq_false_iff_ne.2 (by omega);have xq:Hid (qq o z=32::oQ z):=aa (if_pos (.inr Da));obtain⟨QZ,J6⟩:∃ s,s=eK z:=⟨_,rfl⟩
 have Ro:(QZ==0)=false:=beq_eq_false_iff_ne.2 (by rw[J6];unfold eK;(repeat' split)<;>omega);have KW:Hid (eK z=QZ):=aa J6.symm;clear J6;have hkp:kl≠0:=by rw[HN.out];exact hks
 have hkb:(((kl:Nat):Int)==0)=false:=beq_eq_false_iff_ne.2 (by omega);clear hks;clear hfit hnm yQ hz0 xE hkc hkm;clear ho Da;go_enter Tryz.func67,Tryz.ntmps67
 obtain⟨x1,kf,ef,hO,aR,gL,aj⟩:=aL w #[.int .i64 o,.bool b2,.slice ao la c,.string ⟨#[]⟩,.slice ko kl kc] 29;replace HW:=aa (HW.out.trans (aR.out.mono HW.out.size));replace fN:=aa (fN.out.below aR.out);replace f_:=aa (ff f_.out eA.out aR.out);replace fZ:=aa (fZ.out.trans (eS aR.out));replace eA:=aa (aq eA.out aR.out.size);have c0:=ae (v:=.int .i64 o) aj.out 0 rfl;have bM:=af aj.out 0;have c1:=ae (v:=.bool b2) aj.out 1 rfl;have bL:=af aj.out 1;have c2:=ae (v:=.slice ao la c) aj.out 2 rfl;have bK:=af aj.out 2;have c3:=ae (v:=.string ⟨#[]⟩) aj.out 3 rfl;have bJ:=af aj.out 3;have c4:=ae (v:=.slice ko kl kc) aj.out 4 rfl;have bI:=af aj.out 4;go_wp2_with fail
 refine (vX o CK.out.1 CK.out.2 x1 (HT.out.below HW.out)).mono ?_;rintro e x2 ⟨rfl,hb⟩;clear c0 bM c1 bL c2 bK c3 bJ c4 bI;replace aj:=aG hb aj;replace HW:=aa (HW.out.trans (hb.mono HW.out.size));replace fN:=aa (fN.out.below hb);replace f_:=aa (ff f_.out eA.out hb);replace fZ:=aa (fZ.out.trans (eS hb));replace eA:=aa (aq eA.out hb.size);clear hb;go_wp2_with fail
 refine (oF B b l (wd o) x2 fN.out (by have:=nS.out;omega) eA.out).mono ?_;rintro e x3 ⟨⟨v,rfl⟩,cG,hb,hfr⟩;replace aj:=aa (hfr _ _ _ _ aj.out (by decide) (by decide));replace HW:=aa (HW.out.trans (hb.mono jE.out));replace f_:=aa (f_.out.trans hb);replace fZ:=aa (fZ.out.trans hfr);replace eA:Hid (B<=x3.heap.size):=aa (aq eA.out hb.size);replace fN:=aa cG;clear cG hb hfr;have c0:=ae (v:=.int .i64 o) aj.out 0 rfl;have bM:=af aj.out 0;have c1:=ae (v:=.bool b2) aj.out 1 rfl;have bL:=af aj.out 1;have c2:=ae (v:=.slice ao la c) aj.out 2 rfl;have bK:=af aj.out 2;have c3:=ae (v:=.string ⟨#[]⟩) aj.out 3 rfl;have bJ:=af aj.out 3;have c4:=ae (v:=.slice ko kl kc) aj.out 4 rfl;have bI:=af aj.out 4;go_wp2_with fail
 refine (gZ _ z 600 x3 ((HZ.out.below HW.out).gi) (by decide)).mono ?_;rintro e x4 ⟨rfl,hb⟩;clear c0 bM c1 bL c2 bK c3 bJ c4 bI;replace aj:=aG hb aj;replace HW:=aa (HW.out.trans (hb.mono HW.out.size));replace fN:=aa (fN.out.below hb);replace f_:=aa (ff f_.out eA.out hb);replace fZ:=aa (fZ.out.trans (eS hb));replace eA:=aa (aq eA.out hb.size);clear hb;rw[KW.out];have c0:=ae (v:=.int .i64 o) aj.out 0 rfl;have bM:=af aj.out 0;have c1:=ae (v:=.bool b2) aj.out 1 rfl;have bL:=af aj.out 1;have c2:=ae (v:=.slice ao la c) aj.out 2 rfl;have bK:=af aj.out 2;have c3:=ae (v:=.string ⟨#[]⟩) aj.out 3 rfl;have bJ:=af aj.out 3;have c4:=ae (v:=.slice ko kl kc) aj.out 4 rfl;have bI:=af aj.out 4;go_wp2_with fail
 refine (p7 B b (l++wd o) 32 32 rfl x4 fN.out (by have:=nS.out;have h3:=xq.out;rw[h3] at this;rw[fI];simp only[ru] at this;omega) eA.out).mono ?_;rintro e x5 ⟨⟨v,rfl⟩,cG,hb,hfr⟩;clear c0 bM c1 bL c2 bK c3 bJ c4 bI;replace aj:=aa (hfr _ _ _ _ aj.out (by decide) (by decide));replace HW:=aa (HW.out.trans (hb.mono jE.out));replace f_:=aa (f_.out.trans hb);replace fZ:=aa (fZ.out.trans hfr);replace eA:Hid (B<=x5.heap.size):=aa (aq eA.out hb.size);replace fN:=aa cG;clear cG hb hfr;have c0:=ae (v:=.int .i64 o) aj.out 0 rfl;have bM:=af aj.out 0;have c1:=ae (v:=.bool b2) aj.out 1 rfl;have bL:=af aj.out 1;have c2:=ae (v:=.slice ao la c) aj.out 2 rfl;have bK:=af aj.out 2;have c3:=ae (v:=.string ⟨#[]⟩) aj.out 3 rfl
 have bJ:=af aj.out 3;have c4:=ae (v:=.slice ko kl kc) aj.out 4 rfl;have bI:=af aj.out 4;go_wp2_with fail
 refine (xN _ z 600 x5 (HT.out.below HW.out).NB ((HZ.out.below HW.out).gi) (by decide)).mono ?_;rintro e x6 ⟨rfl,hb⟩;clear c0 bM c1 bL c2 bK c3 bJ c4 bI;replace aj:=aG hb aj;replace HW:=aa (HW.out.trans (hb.mono HW.out.size));replace fN:=aa (fN.out.below hb);replace f_:=aa (ff f_.out eA.out hb);replace fZ:=aa (fZ.out.trans (eS hb));replace eA:=aa (aq eA.out hb.size);clear hb;go_wp2_with fail
 refine (oF B b (l++wd o++[32]) (oQ z) x6 fN.out (by have:=nS.out;have h3:=xq.out;rw[h3] at this;rw[fI,fI];simp only[ru,xC] at this ⊢;omega) eA.out).mono ?_;rintro e x7 ⟨⟨v,rfl⟩,cG,hb,hfr⟩;replace aj:=aa (hfr _ _ _ _ aj.out (by decide) (by decide));replace HW:=aa (HW.out.trans (hb.mono jE.out));replace f_:=aa (f_.out.trans hb);replace fZ:=aa (fZ.out.trans hfr);replace eA:Hid (B<=x7.heap.size):=aa (aq eA.out hb.size);replace fN:=aa cG;clear cG hb hfr;have c0:=ae (v:=.int .i64 o) aj.out 0 rfl;have bM:=af aj.out 0;have c1:=ae (v:=.bool b2) aj.out 1 rfl;have bL:=af aj.out 1;have c2:=ae (v:=.slice ao la c) aj.out 2 rfl;have bK:=af aj.out 2;have c3:=ae (v:=.string ⟨#[]⟩) aj.out 3 rfl;have bJ:=af aj.out 3
 have c4:=ae (v:=.slice ko kl kc) aj.out 4 rfl;have bI:=af aj.out 4;go_wp2_with fail
 clear c0 bM c1 bL c2 bK c3 bJ c4 bI;obtain⟨L,hL⟩:∃ L,L=l++wd o++[32]++oQ z:=⟨_,rfl⟩
 rw[<-hL] at fN;have Nn:Hid (l++nA (.node o z ⟨#[]⟩ ks)=L++rf ks):=aa (by rw[wV.out,xq.out,Gp.out,hL];simp);have DA:Hid (L.length+(rf ks).length<=1000000):=aa (by have h3:=congrArg dL Nn.out;rw[fI,fI] at h3;have h4:=nS.out;have h5:=congrArg dL wV.out;rw[fI,fI,fI] at h5;omega);clear hL;replace fN:Hid (sO B b (L++sW ks 0) x7):=aa (by rw[sV,List.append_nil];exact fN.out)
 go_loopw [44] (fun i wr=>∃ j:Nat,i=.int .i64 (j:Nat)/\j<=kl/\Hid (sO B b (L++sW ks j) wr)/\Hid (aC B w wr)/\Hid (zC w wr)/\Hid (aC w0.heap.size w0 wr)/\Hid (B<=wr.heap.size)) (fun i _=>kl - (intOf i).toNat)
 case atStart=>exact⟨0,rfl,au _,fN,f_,fZ,HW,eA⟩
 case round =>
  obtain⟨wl,Bv⟩:∃ q,q=wr:=⟨_,rfl⟩
  subst Bv;clear fN f_ fZ HW eA;obtain⟨j,rfl,hj,fN,f_,fZ,HW,eA⟩:=hrel
  by_cases hlt:j<kl
  ·have qu:j<ks.length:=by rw[<-HN.out];exact hlt
   have zA:=aa qu;obtain⟨m,AU,H8⟩:=zL ks j qu;have HM:=aa AU;have E_:=DY ks (j+1) qu (by omega);have B4:=aa E_;have hin:(ks[j]'qu) ∈ ks:=cI qu;have zB:=aa hin;obtain⟨kd,BA⟩:∃ y,y=(ks[j]'qu):=⟨_,rfl⟩
   rw[<-BA] at HM zB;have Vo:Hid (kd=ks[j]'zA.out):=aa BA;obtain⟨a,bb,qo,ql,qc,po,pl,pc,rfl,BC,Dg⟩:=HX.out.cells j qu;rw[<-BA] at BC Dg;obtain⟨x,ry⟩:∃ x,x=kd.op:=⟨_,rfl⟩
   obtain⟨ym,K2⟩:∃ x,x=kd.name:=⟨_,rfl⟩
   rw[<-ry,<-K2] at BC Dg;have FW:=aa Dg;obtain⟨c0,c1,c2,c3,c4⟩:=BC;rw[<-HW.out.cell (bS c0)] at c0;rw[<-HW.out.cell (bS c1)] at c1;rw[<-HW.out.cell (bS c2)] at c2;rw[<-HW.out.cell (bS c3)] at c3;rw[<-HW.out.cell (bS c4)] at c4;clear AU E_ hin BA Dg ry K2 qu;obtain⟨x8,k7,e7,PX,rA,O4,eW⟩:=aL wl #[.int .i64 x,.bool bb,.slice qo ql qc,.string ym,.slice po pl pc] 29;replace HW:=aa (HW.out.trans (rA.out.mono HW.out.size));replace fN:=aa (fN.out.below rA.out);replace f_:=aa (ff f_.out eA.out rA.out);replace fZ:=aa (fZ.out.trans (eS rA.out));replace eA:=aa (aq eA.out rA.out.size);rcases H8 with ⟨rfl,rfl⟩ | ⟨O9,rfl⟩
   ·simp only[Nat.zero_mul,Jp] at c0 c1 c2 c3 c4;have g0:=ae (v:=.int .i64 x) eW.out 0 rfl;have nF:=af eW.out 0;have g1:=ae (v:=.bool bb) eW.out 1 rfl;have nD:=af eW.out 1;have g2:=ae (v:=.slice qo ql qc) eW.out 2 rfl;have oA:=af eW.out 2;have g3:=ae (v:=.string ym) eW.out 3 rfl;have oz:=af eW.out 3;have g4:=ae (v:=.slice po pl pc) eW.out 4 rfl;have oy:=af eW.out 4;go_wp2_with fail
    refine (p7 B b (L++sW ks 0) 40 40 rfl x8 fN.out (by rw[fI];have h3:=B4.out;have h4:=congrArg dL HM.out;rw[fI,fI] at h4;have h5:=DA.out;simp only[fI,ru,xC] at *;omega) eA.out).mono ?_;rintro e x9 ⟨⟨v,rfl⟩,cG,hb,hfr⟩;clear g0 nF g1 nD g2 oA g3 oz g4 oy;replace eW:=aa (hfr _ _ _ _ eW.out (by decide) (by decide));replace HW:=aa (HW.out.trans (hb.mono jE.out));replace f_:=aa (f_.out.trans hb);replace fZ:=aa (fZ.out.trans hfr);replace eA:Hid (B<=x9.heap.size):=aa (aq eA.out hb.size);replace fN:=aa cG;clear cG hb hfr;have g0:=ae (v:=.int .i64 x) eW.out 0 rfl;have nF:=af eW.out 0;have g1:=ae (v:=.bool bb) eW.out 1 rfl;have nD:=af eW.out 1;have g2:=ae (v:=.slice qo ql qc) eW.out 2 rfl;have oA:=af eW.out 2
    have g3:=ae (v:=.string ym) eW.out 3 rfl;have oz:=af eW.out 3;have g4:=ae (v:=.slice po pl pc) eW.out 4 rfl;have oy:=af eW.out 4;clear c0 c1 c2 c3 c4;go_wp2_with fail
    refine (Jv.out w0 x9 _ kd B b (L++sW ks 0++[40]) FW.out HT.out (vR.out kd zB.out) (o5.out kd zB.out) jE.out HW.out fN.out eA.out (by rw[fI,fI];have h3:=B4.out;have h4:=congrArg dL HM.out;rw[fI,fI] at h4;have h5:=DA.out;simp only[fI,ru,xC] at *;omega)).mono ?_;rintro e Lt ⟨⟨v,rfl⟩,cG,hb,hfr⟩;clear g0 nF g1 nD g2 oA g3 oz g4 oy;replace eW:=aa (hfr _ _ _ _ eW.out (by decide) (by decide));replace HW:=aa (HW.out.trans (hb.mono jE.out));replace f_:=aa (f_.out.trans hb);replace fZ:=aa (fZ.out.trans hfr);replace eA:Hid (B<=Lt.heap.size):=aa (aq eA.out hb.size);replace fN:=aa cG;clear cG hb hfr;go_wp2_with fail
    go_roundw
    case rel=>exact⟨1,by go_num,hlt,aa (by rw[HM.out];simpa using fN.out),f_,fZ,HW,eA⟩
    case measure=>simp[intOf];omega
   have Mh:(((j:Nat):Int)==0)=false:=beq_eq_false_iff_ne.2 (by omega);clear O9;have g0:=ae (v:=.int .i64 x) eW.out 0 rfl;have nF:=af eW.out 0;have g1:=ae (v:=.bool bb) eW.out 1 rfl;have nD:=af eW.out 1;have g2:=ae (v:=.slice qo ql qc) eW.out 2 rfl;have oA:=af eW.out 2;have g3:=ae (v:=.string ym) eW.out 3 rfl;have oz:=af eW.out 3;have g4:=ae (v:=.slice po pl pc) eW.out 4 rfl;have oy:=af eW.out 4;go_wp2_with fail
   refine (oF B b (L++sW ks j) [44,32] x8 fN.out (by rw[fI];have h3:=B4.out;have h4:=congrArg dL HM.out;rw[fI,fI] at h4;have h5:=DA.out;simp only[fI,ru,xC] at *;omega) eA.out).mono ?_;rintro e x9 ⟨⟨v,rfl⟩,cG,hb,hfr⟩;clear g0 nF g1 nD g2 oA g3 oz g4 oy;replace eW:=aa (hfr _ _ _ _ eW.out (by decide) (by decide));replace HW:=aa (HW.out.trans (hb.mono jE.out));replace f_:=aa (f_.out.trans hb);replace fZ:=aa (fZ.out.trans hfr);replace eA:Hid (B<=x9.heap.size):=aa (aq eA.out hb.size);replace fN:=aa cG;clear cG hb hfr;have g0:=ae (v:=.int .i64 x) eW.out 0 rfl;have nF:=af eW.out 0;have g1:=ae (v:=.bool bb) eW.out 1 rfl;have nD:=af eW.out 1;have g2:=ae (v:=.slice qo ql qc) eW.out 2 rfl;have oA:=af eW.out 2
   have g3:=ae (v:=.string ym) eW.out 3 rfl;have oz:=af eW.out 3;have g4:=ae (v:=.slice po pl pc) eW.out 4 rfl;have oy:=af eW.out 4;clear c0 c1 c2 c3 c4;go_wp2_with fail
   refine (Jv.out w0 x9 _ kd B b (L++sW ks j++[44,32]) FW.out HT.out (vR.out kd zB.out) (o5.out kd zB.out) jE.out HW.out fN.out eA.out (by rw[fI,fI];have h3:=B4.out;have h4:=congrArg dL HM.out;rw[fI,fI] at h4;have h5:=DA.out;simp only[fI,ru,xC] at *;omega)).mono ?_;rintro e Lt ⟨⟨v,rfl⟩,cG,hb,hfr⟩;clear g0 nF g1 nD g2 oA g3 oz g4 oy;replace eW:=aa (hfr _ _ _ _ eW.out (by decide) (by decide));replace HW:=aa (HW.out.trans (hb.mono jE.out));replace f_:=aa (f_.out.trans hb);replace fZ:=aa (fZ.out.trans hfr);replace eA:Hid (B<=Lt.heap.size):=aa (aq eA.out hb.size);replace fN:=aa cG;clear cG hb hfr;go_wp2_with fail
   go_roundw
   case rel=>exact⟨j+1,by go_num,hlt,aa (by rw[HM.out];simpa using fN.out),f_,fZ,HW,eA⟩
   case measure=>simp[intOf];omega
  have AV:j=kl:=by omega
  have Ns:Hid (sW ks j++[41]=rf ks):=aa (by have h4:=yB ks (by rw[<-HN.out];omega);rw[<-HN.out,<-AV] at h4;exact h4);clear AV;go_wp2_with fail
  refine (p7 B b (L++sW ks j) 41 41 rfl wl fN.out (by rw[fI];have h3:=congrArg dL Ns.out;rw[fI] at h3;have h5:=DA.out;omega) eA.out).mono ?_;rintro e x8 ⟨⟨v,rfl⟩,cG,hb,hfr⟩;replace HW:=aa (HW.out.trans (hb.mono jE.out));replace f_:=aa (f_.out.trans hb);replace fZ:=aa (fZ.out.trans hfr);replace eA:Hid (B<=x8.heap.size):=aa (aq eA.out hb.size);replace fN:=aa cG;clear cG hb hfr;go_wp2_with fail
  go_end0
  exact⟨⟨_,rfl⟩,by rw[Nn.out,<-Ns.out,<-gl];exact fN.out,f_.out,fZ.out⟩
theorem DT (HQ:sA) (d:Nat) (IH:uC d) (w0 w:an) (v:ay) (t:F) (B b:Nat) (l:Bs) (ho:t.op≠0/\t.op≠1/\t.op≠8/\t.op≠14) (Da:t.num=0) (hks:t.kids.length=0):FC w0 tS (d+1) v t->CJ w0->rt t=true->Tm (d+1) t->w0.heap.size<=B->aC w0.heap.size w0 w->sO B b l w->B<=w.heap.size->l.length+(nA t).length<=1000000 ->
  bf ax 67 #[.pointer (some ⟨b,0,none⟩),v] w (q_ B b (l++nA t) w):=by
 intro hf ht rS xD hB dK cG hBw hlen;obtain⟨b2,ao,la,c,ko,kl,kc,rfl,⟨-,hz,eR,hkc,hkm⟩,-,hk⟩:=hf.open;obtain⟨o,z,nm,ks⟩:=t;simp only[F.op,F.num,F.name,F.kids] at hz hk eR ho Da hks ⊢;rw[show d+1 - 1=d from rfl] at hk;obtain⟨hfit,fy⟩:=iA rS;have xE:=jO hfit;obtain⟨hnm,yQ,hz0,-,uQ⟩:=xD;simp only[F.op,F.num,F.name,F.kids] at hnm yQ hz0 uQ;have vA:kc<=9223372036854775807:=hkm;have Fc:kl<=9223372036854775807:=aq hkc hkm;have n_:l.length+((wd o).length+((qq o z).length+((qL nm).length+(rf ks).length)))<=1000000:=by have h:=hlen;rw[nA,fI,fI,fI] at h;omega
 have HN:=aa eR;have HX:=aa hk;have HZ:=aa hz;have HT:=aa ht;have o5:=aa uQ;have vR:=aa fy;have nS:=aa n_;have Ng:=aa HQ;have Jv:=aa IH;have CK:=aa xE;have jE:=aa hB;have HW:=aa dK;have fN:=aa cG;have eA:Hid (B<=w.heap.size):=aa hBw;have f_:=aa (av B w);have fZ:=aa (zC.refl w);have wV:Hid (nA (.node o z nm ks)=wd o++(qq o z++(qL nm++rf ks))):=aa (by rw[nA]);clear hf ht rS hB dK cG hBw hlen n_ eR hk hz fy uQ HQ IH;have yh:nm=⟨#[]⟩:=by unfold fY at hnm;rw[if_neg (by omega),if_neg (by omega),if_neg (by omega)] at hnm;exact hnm
 subst yh;have Gp:Hid (qL ⟨#[]⟩=[]):=aa rfl;have OV:(o==0)=false:=beq_eq_false_iff_ne.2 (by omega);subst Da;have xq:Hid (qq o 0=[]):=aa (if_neg (by omega));have KW:Hid (eK 0=0):=aa rfl;have Ia:ks=[]:=fh hks;have Nr:Hid (rf ks=[]):=aa (by rw[Ia];rfl);have tx:kl=0:=by rw[HN.out,hks]
 subst tx;clear Ia hks;clear hfit hnm yQ hz0 xE hkc hkm;clear ho;go_enter Tryz.func67,Tryz.ntmps67
 obtain⟨x1,kf,ef,hO,aR,gL,aj⟩:=aL w #[.int .i64 o,.bool b2,.slice ao la c,.string ⟨#[]⟩,.slice ko 0 kc] 29;replace HW:=aa (HW.out.trans (aR.out.mono HW.out.size));replace fN:=aa (fN.out.below aR.out);replace f_:=aa (ff f_.out eA.out aR.out);replace fZ:=aa (fZ.out.trans (eS aR.out));replace eA:=aa (aq eA.out aR.out.size);have c0:=ae (v:=.int .i64 o) aj.out 0 rfl;have bM:=af aj.out 0;have c1:=ae (v:=.bool b2) aj.out 1 rfl;have bL:=af aj.out 1;have c2:=ae (v:=.slice ao la c) aj.out 2 rfl;have bK:=af aj.out 2;have c3:=ae (v:=.string ⟨#[]⟩) aj.out 3 rfl;have bJ:=af aj.out 3;have c4:=ae (v:=.slice ko 0 kc) aj.out 4 rfl;have bI:=af aj.out 4;go_wp2_with fail
 refine (vX o CK.out.1 CK.out.2 x1 (HT.out.below HW.out)).mono ?_;rintro e x2 ⟨rfl,hb⟩;clear c0 bM c1 bL c2 bK c3 bJ c4 bI;replace aj:=aG hb aj;replace HW:=aa (HW.out.trans (hb.mono HW.out.size));replace fN:=aa (fN.out.below hb);replace f_:=aa (ff f_.out eA.out hb);replace fZ:=aa (fZ.out.trans (eS hb));replace eA:=aa (aq eA.out hb.size);clear hb;go_wp2_with fail
 refine (oF B b l (wd o) x2 fN.out (by have:=nS.out;omega) eA.out).mono ?_;rintro e x3 ⟨⟨v,rfl⟩,cG,hb,hfr⟩;replace aj:=aa (hfr _ _ _ _ aj.out (by decide) (by decide));replace HW:=aa (HW.out.trans (hb.mono jE.out));replace f_:=aa (f_.out.trans hb);replace fZ:=aa (fZ.out.trans hfr);replace eA:Hid (B<=x3.heap.size):=aa (aq eA.out hb.size);replace fN:=aa cG;clear cG hb hfr;have c0:=ae (v:=.int .i64 o) aj.out 0 rfl;have bM:=af aj.out 0;have c1:=ae (v:=.bool b2) aj.out 1 rfl;have bL:=af aj.out 1;have c2:=ae (v:=.slice ao la c) aj.out 2 rfl;have bK:=af aj.out 2;have c3:=ae (v:=.string ⟨#[]⟩) aj.out 3 rfl;have bJ:=af aj.out 3;have c4:=ae (v:=.slice ko 0 kc) aj.out 4 rfl;have bI:=af aj.out 4;go_wp2_with fail
 refine (gZ _ 0 600 x3 ((HZ.out.below HW.out).gi) (by decide)).mono ?_;rintro e x4 ⟨rfl,hb⟩;clear c0 bM c1 bL c2 bK c3 bJ c4 bI;replace aj:=aG hb aj;replace HW:=aa (HW.out.trans (hb.mono HW.out.size));replace fN:=aa (fN.out.below hb);replace f_:=aa (ff f_.out eA.out hb);replace fZ:=aa (fZ.out.trans (eS hb));replace eA:=aa (aq eA.out hb.size);clear hb;rw[KW.out];have c0:=ae (v:=.int .i64 o) aj.out 0 rfl;have bM:=af aj.out 0;have c1:=ae (v:=.bool b2) aj.out 1 rfl;have bL:=af aj.out 1;have c2:=ae (v:=.slice ao la c) aj.out 2 rfl;have bK:=af aj.out 2;have c3:=ae (v:=.string ⟨#[]⟩) aj.out 3 rfl;have bJ:=af aj.out 3;have c4:=ae (v:=.slice ko 0 kc) aj.out 4 rfl;have bI:=af aj.out 4;go_wp2_with fail
 go_end0
 exact⟨⟨_,rfl⟩,by rw[wV.out,xq.out,Gp.out,Nr.out];simpa using fN.out,f_.out,fZ.out⟩
theorem xO (HQ:sA):∀ d:Nat,uC d
 | 0=>by
  intro w0 w v t B b l h;obtain⟨_,_,_,_,_,_,_,_,_,h0,_⟩:=h.open
  omega
 | d+1=>by
  intro w0 w v t B b l h1 h2 h3 h4 h5 h6 h7 h8 h9;have IH:=xO HQ d
  by_cases e0:t.op=0
  ·exact CN HQ d IH w0 w v t B b l e0 h1 h2 h3 h4 h5 h6 h7 h8 h9
  by_cases e1:t.op=1\/t.op=8\/t.op=14
  ·exact CO HQ d IH w0 w v t B b l e1 h1 h2 h3 h4 h5 h6 h7 h8 h9
  have e2:t.op≠0/\t.op≠1/\t.op≠8/\t.op≠14:=by omega
  by_cases e3:t.num=0
  ·by_cases e4:t.kids.length=0
   ·exact DT HQ d IH w0 w v t B b l e2 e3 e4 h1 h2 h3 h4 h5 h6 h7 h8 h9
   exact DS HQ d IH w0 w v t B b l e2 e3 e4 h1 h2 h3 h4 h5 h6 h7 h8 h9
  by_cases e4:t.kids.length=0
  ·exfalso
   obtain⟨o,z,nm,ks⟩:=t;have hn:=h4.2.2.1;have hf:=(iA h3).1;simp only[F.op,F.num,F.kids] at hn e2 e3 e4;have hks:ks=[]:=fh e4;subst hks
   have Ui:o=3\/o=5:=by
    by_cases a3:o=3
    ·exact .inl a3
    by_cases a5:o=5
    ·exact .inr a5
    exact absurd (hn e2.1 a3 a5) e3
   rcases Ui with rfl | rfl<;>simp[cO,bB,fP] at hf
  exact DU HQ d IH w0 w v t B b l e2 e3 e4 h1 h2 h3 h4 h5 h6 h7 h8 h9
end Go.Proofs.YtoncclhbdkjhmaaGreatDoor
namespace Go.Proofs
open Go.Shelf
def Tryz.pO:Go.Shelf.Ren:=⟨fun | 177=>117 | 250=>165 | 289=>193 | 197=>206 | 323=>207 | 260=>223 | 339=>224 | 340=>225 | 242=>226 | 119=>227 | 345=>235 | 346=>236 | 278=>237 | n=>n,fun | 9=>9 | 5=>5 | 4=>4 | 3=>3 | 37=>99 | 21=>21 | 105=>244 | 46=>183 | 119=>267 | 0=>0 | 139=>270 | 138=>269 | 49=>271 | 234=>272 | 131=>179 | 51=>153 | 236=>23 | n=>n,fun | 3=>4 | 4=>5 | 20=>6 | 21=>7 | 22=>8 | 23=>9 | 24=>10 | n=>n⟩
theorem Tryz.wB:Go.Proofs.Lays.n177 ax Tryz.pO:={
 mixed:=by kernel_rfl
 f119:=Tryz.func227.trans (congrArg some (by kernel_rfl))
 f177:=Tryz.func117.trans (congrArg some (by kernel_rfl))
 f197:=Tryz.func206.trans (congrArg some (by kernel_rfl))
 f242:=Tryz.func226.trans (congrArg some (by kernel_rfl))
 f250:=Tryz.func165.trans (congrArg some (by kernel_rfl))
 f260:=Tryz.func223.trans (congrArg some (by kernel_rfl))
 f278:=Tryz.func237.trans (congrArg some (by kernel_rfl))
 f289:=Tryz.func193.trans (congrArg some (by kernel_rfl))
 f323:=Tryz.func207.trans (congrArg some (by kernel_rfl))
 f339:=Tryz.func224.trans (congrArg some (by kernel_rfl))
 f340:=Tryz.func225.trans (congrArg some (by kernel_rfl))
 f345:=Tryz.func235.trans (congrArg some (by kernel_rfl))
 f346:=Tryz.func236.trans (congrArg some (by kernel_rfl))
 t0:=Tryz.underlying0
 a0:=Tryz.isAgg0
 z0:=Tryz.sizeOf0
 v0:=Tryz.zeroValue0
 t3:=Tryz.underlying3
 a3:=Tryz.isAgg3
 z3:=Tryz.sizeOf3
 v3:=Tryz.zeroValue3
 t4:=Tryz.underlying4
 a4:=Tryz.isAgg4
 z4:=Tryz.sizeOf4
 v4:=Tryz.zeroValue4
 t5:=lf
 a5:=Tryz.isAgg5
 z5:=Tryz.sizeOf5
 v5:=Tryz.zeroValue5
 t9:=gH
 a9:=Tryz.isAgg9
 z9:=Tryz.sizeOf9
 v9:=Tryz.zeroValue9
 t21:=Tryz.underlying21
 a21:=Tryz.isAgg21
 z21:=Tryz.sizeOf21
 v21:=Tryz.zeroValue21
 t37:=oh
 a37:=Tryz.isAgg99
 z37:=Tryz.sizeOf99
 v37:=Tryz.zeroValue99
 t46:=Tryz.underlying183
 a46:=Tryz.isAgg183
 z46:=Tryz.sizeOf183
 v46:=Tryz.zeroValue183
 t49:=Tryz.underlying271
 a49:=Tryz.isAgg271
 z49:=Tryz.sizeOf271
 v49:=Tryz.zeroValue271
 t51:=Tryz.underlying153
 a51:=Tryz.isAgg153
 z51:=Tryz.sizeOf153
 v51:=Tryz.zeroValue153
 t105:=Tryz.underlying244
 a105:=Tryz.isAgg244
 z105:=Tryz.sizeOf244
 v105:=Tryz.zeroValue244
 t119:=Tryz.underlying267
 a119:=Tryz.isAgg267
 z119:=Tryz.sizeOf267
 t131:=Tryz.underlying179
 a131:=Tryz.isAgg179
 z131:=Tryz.sizeOf179
 v131:=Tryz.zeroValue179
 t138:=Tryz.underlying269
 a138:=Tryz.isAgg269
 z138:=Tryz.sizeOf269
 v138:=Tryz.zeroValue269
 t139:=Tryz.underlying270
 a139:=Tryz.isAgg270
 z139:=Tryz.sizeOf270
 v139:=Tryz.zeroValue270
 t234:=Tryz.underlying272
 a234:=Tryz.isAgg272
 z234:=Tryz.sizeOf272
 v234:=Tryz.zeroValue272
 t236:=Tryz.underlying23
 a236:=Tryz.isAgg23
 z236:=Tryz.sizeOf23
 v236:=Tryz.zeroValue23
 g3:=by kernel_rfl
 g4:=by kernel_rfl
 g20:=by kernel_rfl
 g21:=by kernel_rfl
 g22:=by kernel_rfl
 g23:=by kernel_rfl
 g24:=by kernel_rfl }
open Go.RowKit in
theorem Tryz.wj (T:Lib.PrintTabs) (s:ByteArray) (w:an) (hlen:10*s.size+12<=140737488355328) (hT:Lib.PrintTabsAt 6 7 8 9 T w) (hU:Lib.Utf8Tabs 4 5 w) :
  bf ax 117 #[.string s] w fun e w'=>e=.returned (.string (strOfNums (Lib.quoteZ T s)))/\aC w.heap.size w w':=Any.strconv_Quote Tryz.wB (by kernel_rfl) T s w hlen hT hU
end Go.Proofs
namespace Go.Proofs.YtoncclhbdkjhmaaGreatDoor
open Go.RowKit
set_option maxRecDepth 100000
set_option linter.unusedVariables false
set_option linter.unusedSimpArgs false
theorem GZ:sA:=by
 intro nm h w ht;refine (Tryz.wj Lib.goPrintTabs nm w ?_ ht.Ot ht.Ok).mono ?_
 ·simp only[oX,List.mem_cons,cl,or_false] at h;rcases h with rfl | rfl | rfl | rfl | rfl | rfl | rfl<;>decide
 rintro e w' ⟨rfl,hb⟩;exact⟨by rw[quoted nm h],hb⟩
theorem Lw (o:Int) (h0:0<=o) (h1:o<=20):wd o ≠ []:=by
 have:o=0\/o=1\/o=2\/o=3\/o=4\/o=5\/o=6\/o=7\/o=8\/o=9\/o=10\/o=11\/o=12\/o=13\/o=14\/o=15\/o=16\/o=17\/o=18\/o=19\/o=20:=by omega
 rcases this with rfl | rfl | rfl | rfl | rfl | rfl | rfl | rfl | rfl | rfl | rfl | rfl | rfl | rfl | rfl | rfl | rfl | rfl | rfl | rfl | rfl<;>decide
theorem Lz {t:F} (h:rt t=true):nA t ≠ []:=by
 obtain⟨o,z,nm,ks⟩:=t;have hr:=jO (iA h).1;rw[nA];intro e;exact Lw o hr.1 hr.2 (List.append_eq_nil_iff.1 e).1
theorem Hf:∀ d,d<=6->zZ d<=100000:=by
 intro d h;have:d=0\/d=1\/d=2\/d=3\/d=4\/d=5\/d=6:=by omega
 rcases this with rfl | rfl | rfl | rfl | rfl | rfl | rfl<;>decide
theorem D5 (d:Nat) (hd:d<=6) (v:ay) (t:F) (S:Nat->Prop) (w:an) (h:FC w S d v t) (rS:rt t=true) (xD:Tm d t) (ht:CJ w) :
  bf ax 19 #[v] w fun e w'=>e=.returned (.string ⟨(nA t).toArray⟩)/\aC w.heap.size w w':=by
 have HF:=aa (h.mono (S':=tS) (fun _ _=>trivial));obtain⟨b,ao,l,c,ko,kl,kc,rfl,-,-,-⟩:=h.open;obtain⟨o,tu⟩:∃ o,o=t.op:=⟨_,rfl⟩
 obtain⟨nm,hnm⟩:∃ o,o=t.name:=⟨_,rfl⟩
 rw[<-tu,<-hnm] at HF ⊢;have Gn:=aa rS;have U3:=aa xD;have HT:=aa ht;have DA:Hid (([]:Bs).length+(nA t).length<=1000000):=aa (by have h1:=A9 d t xD;have h2:=Hf d hd;simp only[xC];omega);clear h rS xD ht tu hnm;have HW:=aa (av w.heap.size w);go_enter Tryz.func19,Tryz.ntmps19
 obtain⟨x1,kf,ef,hO,aR,gL,aj⟩:=aL w #[.int .i64 o,.bool b,.slice ao l c,.string nm,.slice ko kl kc] 29;replace HW:=aa (HW.out.trans (aR.out.mono HW.out.size));obtain⟨x2,ku,eu,MT,uR,O2,xL⟩:=aL x1 #[.pointer none,.slice none 0 0] 109;replace aj:=aG uR.out aj;replace HW:=aa (HW.out.trans (uR.out.mono HW.out.size));have QF:Hid (w.heap.size<=ku):=aa (aq aR.out.size O2.out);have fN:Hid (sO ku ku [] x2):=aa (by rw[<-eu,<-MT];exact sO.fresh x1);have eA:Hid (ku<=x2.heap.size):=aa (Nat.le_of_lt (ag xL.out));have c0:=ae (v:=.int .i64 o) aj.out 0 rfl;have bM:=af aj.out 0;have c1:=ae (v:=.bool b) aj.out 1 rfl;have bL:=af aj.out 1;have c2:=ae (v:=.slice ao l c) aj.out 2 rfl;have bK:=af aj.out 2
 have c3:=ae (v:=.string nm) aj.out 3 rfl;have bJ:=af aj.out 3;have c4:=ae (v:=.slice ko kl kc) aj.out 4 rfl;have bI:=af aj.out 4;go_wp2_with fail
 refine (xO GZ d w x2 _ t ku ku [] HF.out HT.out Gn.out U3.out QF.out HW.out fN.out eA.out DA.out).mono ?_;rintro e x3 ⟨⟨v,rfl⟩,cG,hb,-⟩;clear c0 bM c1 bL c2 bK c3 bJ c4 bI;rw[List.nil_append] at cG;have QO:=aa cG;have UZ:=aa (HW.out.trans (hb.mono QF.out));clear cG hb;go_wp2_with fail
 refine (Dw ku ku (nA t) x3 QO.out (Lz Gn.out)).mono ?_;rintro e x4 ⟨rfl,hb⟩;have UY:=aa (UZ.out.trans (hb.mono QF.out));clear hb;go_wp2_with fail
 go_ret
 exact⟨rfl,UY.out⟩
theorem nj.kG {w:an} {d:Nat} {x:RU} (h:nj w (d+1) x) (i:Nat) (hi:i<x.kl):∃ (a:cH) (y:RU),x.ko=some a/\(w.cell? (a.add (i*5))=some (.int .i64 y.o)/\w.cell? ⟨(a.add (i*5)).block,(a.add (i*5)).off+1,none⟩=some (.bool y.b)/\w.cell? ⟨(a.add (i*5)).block,(a.add (i*5)).off+2,none⟩=some (.slice y.ao y.l y.c) /\
  w.cell? ⟨(a.add (i*5)).block,(a.add (i*5)).off+3,none⟩=some (.string y.nm)/\w.cell? ⟨(a.add (i*5)).block,(a.add (i*5)).off+4,none⟩=some (.slice y.ko y.kl y.kc))/\nj w d y:=by
 obtain⟨-,-,-,-,h5⟩:=h;obtain⟨y,⟨a,ha,hc⟩,hy⟩:=h5 i hi;exact⟨a,y,ha,⟨hc 0 _ rfl,hc 1 _ rfl,hc 2 _ rfl,hc 3 _ rfl,hc 4 _ rfl⟩,hy⟩
theorem ja (us:List FU) (y:FU) {n:Nat} (hn:n=us.length):(us++[Gu]).set n y=us++[y]:=by
 subst hn;rw[List.set_append_right _ _ (ak _)];simp
theorem zV {w W:an} {B g n cap ko:Nat} {us:List FU} (h:fR.Row w B (.slice (some ⟨g,0,none⟩) (n+1) cap) (us++[Gu])) (hn:n=us.length) (fK:ko≠g) (hW:∀ k,k<w.heap.size->k≠ko->W.heap[k]?=w.heap[k]?) :
  (W.cell? ⟨g,n*5,none⟩=some (.int .i64 0)/\W.cell? ⟨g,n*5+1,none⟩=some (.bool false)/\W.cell? ⟨g,n*5+2,none⟩=some (.slice none 0 0)/\W.cell? ⟨g,n*5+3,none⟩=some (.string ⟨#[]⟩)/\W.cell? ⟨g,n*5+4,none⟩=some (.slice none 0 0)) /\
  W.frozen? ⟨g,n*5,none⟩=false/\W.frozen? ⟨g,n*5+1,none⟩=false/\W.frozen? ⟨g,n*5+2,none⟩=false/\W.frozen? ⟨g,n*5+3,none⟩=false/\W.frozen? ⟨g,n*5+4,none⟩=false:=by
 have hi:n<(us++[Gu]).length:=by rw[hn];simp
 have e:(us++[Gu])[n]=Gu:=by subst hn;rw[List.getElem_append_right (ak _)];simp
 obtain⟨⟨c0,c1,c2,c3,c4⟩,-⟩:=Row.R9 h (by simp[hn]) hi;rw[e] at c0 c1 c2 c3 c4;obtain⟨cc,hc,-⟩:=h.n32 g rfl;have hg:=(hW g (ag hc) (fun e=>fK e.symm)).trans hc;have key:∀ j v,w.cell? ⟨g,j,none⟩=some v->W.cell? ⟨g,j,none⟩=some v:=fun j v h=>by rw[World.cell?_of_block (w:=w) (hW g (ag hc) (fun e=>fK e.symm))];exact h
 exact⟨⟨key _ _ c0,key _ _ c1,key _ _ c2,key _ _ c3,key _ _ c4⟩,af hg _,af hg _,af hg _,af hg _,af hg _⟩
def vi (d:Nat):Prop:=∀ (s o:Int) (b:Bool) (ao:Option cH) (l c:Nat) (nm:ByteArray) (ko:Option cH) (kl kc:Nat) (w:an),s=0\/s=1\/s=2->nj w d ⟨o,b,ao,l,c,nm,ko,kl,kc⟩ ->
 bf ax 13 #[.agg #[.int .i64 o,.bool b,.slice ao l c,.string nm,.slice ko kl kc],.int .i64 s,.int .i64 (d:Nat)] w (kZ d s w)
theorem jQ (d:Nat) (hd:d<=100) (IT:vi d) (w wr:an) (B kf kd kr ko:Nat) (x:RU) (hx:nj w (d+1) x) (op:Int) (sg:Bool) (ao:Option cH) (l c:Nat) (nm:ByteArray) (z:Int) (ts:List F) (v:ay) (us:List FU) (i:Nat) (s:Int) (hs:s=0\/s=1\/s=2) (hi:i<=100)
  (h:ir w B kf kd kr ko x ((d:Nat)+1:Int) op sg ao l c nm z d ts v us wr) (hl:us.length<=100) :
  bf ax 57 #[.int .i64 (i:Nat),.int .i64 s,.pointer (some ⟨kf,0,none⟩),.pointer (some ⟨ko,0,none⟩),.pointer (some ⟨kd,0,none⟩)] wr fun e w'=>(∃ q,e=.returned q)/\∃ t v' us',jh t.op=s/\ir w B kf kd kr ko x ((d:Nat)+1:Int) op sg ao l c nm z d (ts++[t]) v' us' w':=by
 obtain⟨xo,xb,ew,xl,xc,ek,eH,dV,dW⟩:=x;obtain⟨vo,vc,rfl,OJ,LW,-⟩:=h.row.form;have nL:=aa h;have aj:=aa h.hf;have aA:=aa h.ho;have bX:=aa h.hd;simp only at aj;have UT:=aa hx;have uF:=aa IT;have Se:=aa hs;obtain⟨R1,RZ⟩:=hx.2.2.2.1;have Hs:dW<=9223372036854775807:=RZ;have J4:dV<=dW:=R1;have Wc:vc<=9223372036854775807:=LW;obtain⟨n,hn⟩:∃ n,n=us.length:=⟨_,rfl⟩
 rw[<-hn] at aA hl OJ;have HN:=aa hn;have hsub:((d:Nat)+1:Int) - 1=((d:Nat):Int):=by omega
 have Wb:IntKind.i64.wrap ((d:Nat):Int)=((d:Nat):Int):=IntWalk.i64_in _ (by omega);clear h hx hs IT R1 RZ LW hn;have nt:=aj;have kN:=aA;have o6:=bX;have HW:=aa (av wr.heap.size wr);go_enter Tryz.func57,Tryz.ntmps57
 go_upto_region 1 with fail
 obtain⟨x1,kx,ex,Up,de,TK,A1⟩:=aL wr #[.int .i64 0,.bool false,.slice none 0 0,.string ⟨#[]⟩,.slice none 0 0] 29;replace aj:=aG de.out aj;replace aA:=aG de.out aA;replace bX:=aG de.out bX;replace HW:=aa (HW.out.trans (de.out.mono HW.out.size));rw[ex,Up];have Nq:Hid (wr.heap.size<=kx):=TK;have f0:=ae (v:=.int .i64 xo) aj.out 0 rfl;have nK:=af aj.out 0;have f1:=ae (v:=.bool xb) aj.out 1 rfl;have nJ:=af aj.out 1;have f2:=ae (v:=.slice ew xl xc) aj.out 2 rfl;have nI:=af aj.out 2;have f3:=ae (v:=.string ek) aj.out 3 rfl;have nH:=af aj.out 3;have f4:=ae (v:=.slice eH dV dW) aj.out 4 rfl;have nG:=af aj.out 4
 by_cases hlt:i<dV
 ·obtain⟨a,y,Rb,⟨g0,g1,g2,g3,g4⟩,NF⟩:=UT.out.kG i hlt;obtain⟨yo,yb,zD,yl,yc,Gv,Gw,Gx,Gy⟩:=y;simp only at Rb g0 g1 g2 g3 g4;subst Rb;have AO:=aa nL.out.be;have Ql:=aa NF;clear NF;rw[<-((AO.out.trans (HW.out.mono AO.out.size)).cell (bW w _ g0))] at g0;rw[<-((AO.out.trans (HW.out.mono AO.out.size)).cell (bW w _ g1))] at g1;rw[<-((AO.out.trans (HW.out.mono AO.out.size)).cell (bW w _ g2))] at g2;rw[<-((AO.out.trans (HW.out.mono AO.out.size)).cell (bW w _ g3))] at g3;rw[<-((AO.out.trans (HW.out.mono AO.out.size)).cell (bW w _ g4))] at g4;have Fh:((i:Nat):Int)<((dV:Nat):Int):=by omega
  have e0:=ae (v:=.int .i64 0) A1.out 0 rfl;have y9:=af A1.out 0;have e1:=ae (v:=.bool false) A1.out 1 rfl;have Uo:=af A1.out 1;have e2:=ae (v:=.slice none 0 0) A1.out 2 rfl;have Un:=af A1.out 2;have e3:=ae (v:=.string ⟨#[]⟩) A1.out 3 rfl;have Um:=af A1.out 3;have e4:=ae (v:=.slice none 0 0) A1.out 4 rfl;have Ul:=af A1.out 4;go_upto_region 3 with fail
  clear f0 nK f1 nJ f2 nI f3 nH f4 nG e0 y9 e1 Uo e2 Un e3 Um e4 Ul g0 g1 g2 g3 g4;have eB:=aY (w:=x1) (k:=kx) (.int .i64 yo) (.bool yb) (.slice zD yl yc) (.string Gv) (.slice Gw Gx Gy);have dm:=fj A1.out (.int .i64 yo) (.bool yb) (.slice zD yl yc) (.string Gv) (.slice Gw Gx Gy);obtain⟨W1,lN⟩:∃ q,q=((((x1.setCell ⟨kx,0,none⟩ (.int .i64 yo)).setCell ⟨kx,1,none⟩ (.bool yb)).setCell ⟨kx,2,none⟩ (.slice zD yl yc)).setCell ⟨kx,3,none⟩ (.string Gv)).setCell ⟨kx,4,none⟩ (.slice Gw Gx Gy):=⟨_,rfl⟩
  rw[<-lN] at eB dm ⊢;replace HW:=aa (aS HW.out eB Nq.out);replace A1:=aa dm;replace aj:=aa ((HW.out.block _ (ag nt.out)).trans nt.out);replace aA:=aa ((HW.out.block _ (ag kN.out)).trans kN.out);replace bX:=aa ((HW.out.block _ (ag o6.out)).trans o6.out);clear eB dm lN;have Al:=ag aA.out;have Ak:=ag A1.out;have Am:=ag bX.out;have fK:Hid (∀ q,q<0->(fun q=>0) q<W1.heap.size):=aa (fun q h=>absurd h (ah _))
  refine R7.region (by kernel_rfl) [[],[0],[],[],[],[4],[2,3,4,5],[0,1],[],[0,1,2,3,4,5,6,7,8],[0,1,2,3,4,5,6,7,8,9],[0,1,2,3,4,5,6,7,8,9,10],[0,1,2,3,4,5,6,7,8,9],[0,1,2,3,4,5,6,7,8,9,12]] [] [] (fun q=>0) 0 9 (by kernel_rfl) (by kernel_rfl) (by rfl) fK.out (fun q q' h h' hn=>absurd hn (by omega)) ?_;refine R7.az.bT ?_ (by rfl) (fun T xs wr hA=>?_) ?_
  rotate_left 1
  ·have e3:=hA.pre 3 (by kernel_rfl);simp only[eY,fD,fm] at e3;clear hA;refine⟨(by rfl),?_⟩;go_simp<;>(try with_reducible rfl)
  refine R7.az.bT ?_ (by rfl) (fun T xs wr hA=>?_) ?_
  rotate_left 1
  ·have Jm:=hA.tm 0 19 (by rfl) (by rfl);have f19:xs 0=_:=hA.fa 0 (by rfl)
   (try simp (disch:=first | rfl | decide) only [R7.ai] at f19)
   rw[f19] at Jm;clear f19;have aP:wr.heap[ko]?=_:=(hA.bl _ Al (fun q h=>absurd h (ah _))).trans aA.out;have q0:=ae (v:=.int .i64 op) aP 0 rfl;have q1:=ae (v:=.bool sg) aP 1 rfl;have q2:=ae (v:=.slice ao l c) aP 2 rfl;have q3:=ae (v:=.string nm) aP 3 rfl;have q4:=ae (v:=.slice vo n vc) aP 4 rfl;clear aP;clear hA;refine⟨(by rfl),?_⟩;go_simp<;>(try with_reducible rfl)
  refine R7.az.bT ?_ (by rfl) (fun T xs wr hA=>?_) ?_
  rotate_left 1
  ·have e7:=hA.pre 7 (by kernel_rfl);simp only[eY,fD,fm] at e7;have aP:wr.heap[kx]?=_:=(hA.bl _ Ak (fun q h=>absurd h (ah _))).trans A1.out;have q0:=ae (v:=.int .i64 yo) aP 0 rfl;have q1:=ae (v:=.bool yb) aP 1 rfl;have q2:=ae (v:=.slice zD yl yc) aP 2 rfl;have q3:=ae (v:=.string Gv) aP 3 rfl;have q4:=ae (v:=.slice Gw Gx Gy) aP 4 rfl;clear aP;clear hA;refine⟨(by rfl),?_⟩;go_simp<;>(try with_reducible rfl)
  refine R7.az.bT ?_ (by rfl) (fun T xs wr hA=>?_) ?_
  rotate_left 1
  ·have e1:=hA.pre 1 (by kernel_rfl);simp only[eY,fD,fm] at e1;clear hA;refine⟨(by rfl),?_⟩;go_simp<;>(try with_reducible rfl)
  refine R7.az.bT ?_ (by rfl) (fun T xs wr hA=>?_) ?_
  rotate_left 1
  ·have e4:=hA.pre 4 (by kernel_rfl);simp only[eY,fD,fm] at e4;have aP:wr.heap[kd]?=_:=(hA.bl _ Am (fun q h=>absurd h (ah _))).trans bX.out;have q0:=ae (v:=.int .i64 ((d:Nat)+1:Int)) aP 0 rfl;clear aP;clear hA;refine⟨(by rfl),?_⟩;go_simp<;>(try with_reducible rfl)
  refine R7.az.bT ?_ (by rfl) (fun T xs wr hA=>?_) ?_
  rotate_left 1
  ·have Lg:=hA.tm 4 23 (by rfl) (by rfl);have f23:xs 4=_:=hA.fa 4 (by rfl)
   (try simp (disch:=first | rfl | decide) only [R7.ai] at f23)
   rw[f23] at Lg;clear f23;clear hA;refine⟨(by rfl),?_⟩;go_simp<;>(try with_reducible rfl)
  refine R7.az.call (fun xs v w=>∃ y t,v=fV y/\FT w (fun b=>W1.heap.size<=b) d y t/\rt t=true/\jh t.op=s/\Tm d t) (fun _ _ _ _ h hb=>by obtain⟨y,t,h1,h2,h3⟩:=h;exact⟨y,t,h1,h2.below hb,h3⟩) (fun _ _ _ _ _ _ h _=>by obtain⟨q,hq,_⟩:=h;exact absurd hq (ah _)) (by rfl) (fun T xs wr hA=>?_) ?_
  ·have ki:=(hA.be 0 (au _) (fun _ _=>au _)).size;have Li:=hA.tm 2 21 (by rfl) (by rfl);have f21:xs 2=_:=hA.fa 2 (by rfl)
   (try simp (disch:=first | rfl | decide) only [R7.ai] at f21)
   rw[f21] at Li;clear f21;have Lh:=hA.tm 3 22 (by rfl) (by rfl);have f22:xs 3=_:=hA.fa 3 (by rfl)
   (try simp (disch:=first | rfl | decide) only [R7.ai] at f22)
   rw[f22] at Lh;clear f22;have KD:=hA.tm 5 24 (by rfl) (by rfl);have f24:xs 5=_:=hA.fa 5 (by rfl)
   (try simp (disch:=first | rfl | decide) only [R7.ai] at f24)
   rw[f24] at KD;clear f24;have dK:=aT (hA.be W1.heap.size (ak _) (fun q h=>absurd h (ah q)));have J8:=Ql.out.below ((AO.out.trans (HW.out.mono AO.out.size)).trans (dK.mono (aq AO.out.size HW.out.size)));clear hA;refine⟨(by rfl),fun K hK=>?_⟩;go_simp
   refine (uF.out s _ _ _ _ _ _ _ _ _ _ Se.out J8).mono ?_;rintro e w' ⟨q,t,rfl,⟨y,rfl,hy⟩,h2,h3,h4,hb'⟩;exact hK.out _ _ ⟨y,t,rfl,hy.mono (fun b hb=>aq dK.size hb),h2,h3,h4⟩ hb'
  refine R7.az.bT ?_ (by rfl) (fun T xs wr hA=>?_) ?_
  rotate_left 1
  ·have Jl:=hA.tm 1 20 (by rfl) (by rfl);have f20:xs 1=_:=hA.fa 1 (by rfl)
   (try simp (disch:=first | rfl | decide) only [R7.ai] at f20)
   rw[f20] at Jl;clear f20;clear hA;refine⟨(by rfl),?_⟩;go_simp<;>(try with_reducible rfl)
  refine R7.az.call (fun xs v w=>∃ g,v=.slice (some ⟨g,0,none⟩) 1 1/\W1.heap.size<=g/\w.heap[g]?=some (.cells #[.int .i64 0,.bool false,.slice none 0 0,.string ⟨#[]⟩,.slice none 0 0] 29 (0,0))) (fun _ _ _ _ ⟨g,hv,hl,hg⟩ hb=>⟨g,hv,hl,by rw[hb.block g (Array.getElem?_eq_some_iff.1 hg).1];exact hg⟩) (fun _ _ _ _ _ ⟨g,hv,hl,hg⟩ ⟨q,hq,e⟩ hp=>⟨g,hv,hl,by rw[hp.block g (Array.getElem?_eq_some_iff.1 hg).1 (fun h=>by have:=fK.out q hq;omega)];exact hg⟩) (by rfl) (fun T xs wr hA=>?_) ?_
  ·have ki:=(hA.be 0 (au _) (fun _ _=>au _)).size;clear hA;refine⟨(by rfl),fun K hK=>?_⟩;go_simp
   exact hK.out _ _ ⟨_,rfl,ki,by simpa using cy wr _ _ rfl⟩ ((av _ _).alloc (ak _) _)
  refine R7.az.done (fun xs x2 hL=>?_);obtain⟨⟨ei,cG⟩,hf,-,-⟩:=hL;have f0:xs 0=_:=hf 0 (by decide)
  (try simp (disch:=first | rfl | decide) only [R7.ai] at f0)
  have f1:xs 1=_:=hf 1 (by decide)
  (try simp (disch:=first | rfl | decide) only [R7.ai] at f1)
  have f2:xs 2=_:=hf 2 (by decide)
  (try simp (disch:=first | rfl | decide) only [R7.ai] at f2)
  have f3:xs 3=_:=hf 3 (by decide)
  (try simp (disch:=first | rfl | decide) only [R7.ai] at f3)
  have f4:xs 4=_:=hf 4 (by decide)
  (try simp (disch:=first | rfl | decide) only [R7.ai] at f4)
  have f5:xs 5=_:=hf 5 (by decide)
  (try simp (disch:=first | rfl | decide) only [R7.ai] at f5)
  have F6:∃ y t,(xs 6)=fV y/\FT x2 (fun b=>W1.heap.size<=b) d y t/\rt t=true/\jh t.op=s/\Tm d t:=hf 6 (by decide);have f7:xs 7=_:=hf 7 (by decide)
  (try simp (disch:=first | rfl | decide) only [R7.ai] at f7)
  have F8:∃ g,(xs 8)=.slice (some ⟨g,0,none⟩) 1 1/\W1.heap.size<=g/\x2.heap[g]?=some (.cells #[.int .i64 0,.bool false,.slice none 0 0,.string ⟨#[]⟩,.slice none 0 0] 29 (0,0)):=hf 8 (by decide);have hb0:aC 0 W1 x2:=aT (ei 0 (au _) (fun _ _=>au _));have jR:∀ j,j<W1.heap.size->(∀ q,q<0->(fun q=>0) q≠j)->x2.heap[j]?=W1.heap[j]?:=cG;clear ei cG hf;have hb:aC W1.heap.size W1 x2:=⟨hb0.os,hb0.tape,hb0.output,hb0.size,fun q hq=>jR q hq (fun q h=>absurd h (ah _))⟩
  obtain⟨y,t,LZ,Db,LO,FN,LP⟩:=F6;have mj:=aa FN;have Dc:=And.intro LO LP;obtain⟨gz,Hw,Jc,O_⟩:=F8;unfold R7.Rest;simp only[R7.fill,Cb,Ca,B_,B9,xz,xy,xx,LZ,Hw,fV,f0,f1,f2,f3,f4,f5,f7];clear hb0 jR fK LZ Hw LO LP FN Al Ak Am f0 f1 f2 f3 f4 f5 f7;have nU:=aa (HW.out.trans (hb.mono HW.out.size));have ug:=HW.out.size;have wD:=nL.out.row.below nU.out;have Ks:B<=x2.heap.size:=aq nL.out.sz nU.out.size;rw[<-HN.out] at wD;refine cw [9] (by kernel_rfl) (by simp) (fun i hi=>?_);obtain rfl:i=9:=by simpa using hi
  refine⟨_,rfl,rfl,fun K hK=>?_⟩;refine yq wD (.tmp 20) (.tmp 27) rfl rfl gz Gu rfl O_ (by rw[<-HN.out];omega) Ks (fun g4 cap w6 kV uf Fl Df jL yh I6=>?_);rw[<-HN.out] at kV yh ⊢;refine hK.out _ _ ?_;clear hK K;have yU:=nL.out.low;have pU:=(Fl.block ko yU.2.2.2).trans ((nU.out.block ko (ag kN.out)).trans kN.out);have Ic:B<=g4:=(kV.ge rfl).1;have fK:ko≠g4:=by omega
  have hcells:=fun (W:an) (hW:∀ k,k<w6.heap.size->k≠ko->W.heap[k]?=w6.heap[k]?)=>zV kV HN.out fK hW
  have Ms:cap<=9223372036854775807:=I6;have hI:(n:Int)<(n:Int)+1:=by omega
  refine cw [10,12] (by kernel_rfl) (by simp) (fun i hi=>?_);rcases (by simpa using hi:i=10\/i=12) with rfl | rfl
  ·refine⟨_,rfl,rfl,fun K hK=>?_⟩;go_simp
   refine hK.out _ _ ?_;clear hK K;refine cw [11,12] (by kernel_rfl) (by simp) (fun i hi=>?_);rcases (by simpa using hi:i=11\/i=12) with rfl | rfl
   ·refine⟨_,rfl,rfl,fun K hK=>?_⟩;obtain⟨⟨z0,z1,z2,z3,z4⟩,qY,qX,wL,wK,wJ⟩:=hcells w6 (fun k h1 h2=>rfl);go_simp
    obtain⟨pC,yS⟩:∃ q,q=lB w6 g4 n y:=⟨_,rfl⟩
    change K _ (lB w6 g4 n y);rw[<-yS];refine hK.out _ _ ?_;clear hK K z0 z1 z2 z3 z4 qY qX wL wK wJ;have fS:∀ k,k<w6.heap.size->k≠g4->pC.heap[k]?=w6.heap[k]?:=fun k h1 h2=>by rw[yS];exact (bt w6 g4 n y).block k h1 (fun e=>by injection e with e;exact h2 e)
    have zw:=aa yS;clear yS;refine cw [12] (by kernel_rfl) (by simp) (fun i hi=>?_);obtain rfl:i=12:=by simpa using hi
    refine⟨_,rfl,rfl,fun K hK=>?_⟩;go_simp
    refine hK.out _ _ ?_;clear hK K;refine cw [13] (by kernel_rfl) (by simp) (fun i hi=>?_);obtain rfl:i=13:=by simpa using hi
    refine⟨_,rfl,rfl,fun K hK=>?_⟩;have fb:=((fS ko (ag pU) fK).trans pU)
    have wu:=ae (v:=.slice vo n vc) fb 4 rfl;have cZ:=af fb 4;go_simp
    obtain⟨eZ,kS⟩:∃ q,q=pC.setCell ⟨ko,4,none⟩ (.slice (some ⟨g4,0,none⟩) (n+1) cap):=⟨_,rfl⟩
    rw[<-kS];refine hK.out _ _ ?_;clear hK K wu cZ;have kW:eZ.heap[ko]?=some (.cells #[.int .i64 op,.bool sg,.slice ao l c,.string nm,.slice (some ⟨g4,0,none⟩) (n+1) cap] 29 (0,0)):=by rw[kS];exact aF _ ko 4 _ _ _ fb
    have hgB:pC.grownBy eZ (some ko):=by rw[kS];exact aI (aJ _ _) _
    have ig:∀ k,k<pC.heap.size->k≠ko->eZ.heap[k]?=pC.heap[k]?:=fun k h1 h2=>hgB.block k h1 (fun e=>by injection e with e;exact h2 e)
    clear kS;refine⟨by kernel_rfl,?_⟩;obtain⟨E7,wF⟩:=Row.tW kV n (by simp[<-HN.out]) (by simp[<-HN.out]) y zw.out;have pV:Fr 29 pC eZ:=.aN hgB (fun j hj=>by injection hj with hj;subst hj;exact⟨_,fb,b_⟩);have qQ:=E7.jC hgB (fun j hj e=>fK (by have vN:g4=j:=(by simpa [eN] using hj);omega)) pV trivial;have vz:=kW;have mV:w6.heap.size<=eZ.heap.size:=aq (by rw[zw.out];exact (bt w6 g4 n y).size) hgB.size;have jD:∀ k,k<w6.heap.size->k≠g4->k≠ko->eZ.heap[k]?=w6.heap[k]?:=fun k h1 h2 h3=>(ig k (aK h1 (by rw[zw.out];exact (bt w6 g4 n y).size)) h3).trans (fS k h1 h2)
    have mY:KN w6 eZ:=(KN.fG wF).trans (KN.fG pV);have lT:w6.grownBy pC (some g4):=by rw[zw.out];exact bt _ _ _ _
    have mX:eZ.os=w6.os/\eZ.tape=w6.tape/\eZ.output=w6.output:=⟨hgB.os.trans lT.os,hgB.tape.trans lT.tape,hgB.output.trans lT.output⟩
    rw[ja us y HN.out] at qQ
    go_end0
    have hN:=HN.out;subst hN;exact⟨⟨_,rfl⟩,t,_,_,mj.out,nL.out.next nU.out ug Db Dc uf Df jL qQ vz jD mY mX.1 mX.2.1 mX.2.2 mV⟩
   refine⟨_,rfl,rfl,fun K hK=>?_⟩;go_simp
   refine hK.out _ _ ?_;clear hK K;refine cw [11,13] (by kernel_rfl) (by simp) (fun i hi=>?_);rcases (by simpa using hi:i=11\/i=13) with rfl | rfl
   ·refine⟨_,rfl,rfl,fun K hK=>?_⟩;obtain⟨⟨z0,z1,z2,z3,z4⟩,qY,qX,wL,wK,wJ⟩:=hcells w6 (fun k h1 h2=>rfl);go_simp
    obtain⟨iO,pT⟩:∃ q,q=lB w6 g4 n y:=⟨_,rfl⟩
    change K _ (lB w6 g4 n y);rw[<-pT];refine hK.out _ _ ?_;clear hK K z0 z1 z2 z3 z4 qY qX wL wK wJ;have fS:∀ k,k<w6.heap.size->k≠g4->iO.heap[k]?=w6.heap[k]?:=fun k h1 h2=>by rw[pT];exact (bt w6 g4 n y).block k h1 (fun e=>by injection e with e;exact h2 e)
    have qa:=aa pT;clear pT;refine cw [13] (by kernel_rfl) (by simp) (fun i hi=>?_);obtain rfl:i=13:=by simpa using hi
    refine⟨_,rfl,rfl,fun K hK=>?_⟩;have fb:=((fS ko (ag pU) fK).trans pU)
    have wu:=ae (v:=.slice vo n vc) fb 4 rfl;have cZ:=af fb 4;go_simp
    obtain⟨eZ,kS⟩:∃ q,q=iO.setCell ⟨ko,4,none⟩ (.slice (some ⟨g4,0,none⟩) (n+1) cap):=⟨_,rfl⟩
    rw[<-kS];refine hK.out _ _ ?_;clear hK K wu cZ;have kW:eZ.heap[ko]?=some (.cells #[.int .i64 op,.bool sg,.slice ao l c,.string nm,.slice (some ⟨g4,0,none⟩) (n+1) cap] 29 (0,0)):=by rw[kS];exact aF _ ko 4 _ _ _ fb
    have hgB:iO.grownBy eZ (some ko):=by rw[kS];exact aI (aJ _ _) _
    have ig:∀ k,k<iO.heap.size->k≠ko->eZ.heap[k]?=iO.heap[k]?:=fun k h1 h2=>hgB.block k h1 (fun e=>by injection e with e;exact h2 e)
    clear kS;refine⟨by kernel_rfl,?_⟩;obtain⟨E7,wF⟩:=Row.tW kV n (by simp[<-HN.out]) (by simp[<-HN.out]) y qa.out;have pV:Fr 29 iO eZ:=.aN hgB (fun j hj=>by injection hj with hj;subst hj;exact⟨_,fb,b_⟩);have qQ:=E7.jC hgB (fun j hj e=>fK (by have vN:g4=j:=(by simpa [eN] using hj);omega)) pV trivial;have vz:=kW;have mV:w6.heap.size<=eZ.heap.size:=aq (by rw[qa.out];exact (bt w6 g4 n y).size) hgB.size;have jD:∀ k,k<w6.heap.size->k≠g4->k≠ko->eZ.heap[k]?=w6.heap[k]?:=fun k h1 h2 h3=>(ig k (aK h1 (by rw[qa.out];exact (bt w6 g4 n y).size)) h3).trans (fS k h1 h2)
    have mY:KN w6 eZ:=(KN.fG wF).trans (KN.fG pV);have lT:w6.grownBy iO (some g4):=by rw[qa.out];exact bt _ _ _ _
    have mX:eZ.os=w6.os/\eZ.tape=w6.tape/\eZ.output=w6.output:=⟨hgB.os.trans lT.os,hgB.tape.trans lT.tape,hgB.output.trans lT.output⟩
    rw[ja us y HN.out] at qQ
    go_end0
    have hN:=HN.out;subst hN;exact⟨⟨_,rfl⟩,t,_,_,mj.out,nL.out.next nU.out ug Db Dc uf Df jL qQ vz jD mY mX.1 mX.2.1 mX.2.2 mV⟩
   refine⟨_,rfl,rfl,fun K hK=>?_⟩;have fb:=pU;have wu:=ae (v:=.slice vo n vc) fb 4 rfl;have cZ:=af fb 4;go_simp
   obtain⟨iO,pS⟩:∃ q,q=w6.setCell ⟨ko,4,none⟩ (.slice (some ⟨g4,0,none⟩) (n+1) cap):=⟨_,rfl⟩
   rw[<-pS];refine hK.out _ _ ?_;clear hK K wu cZ;have kW:iO.heap[ko]?=some (.cells #[.int .i64 op,.bool sg,.slice ao l c,.string nm,.slice (some ⟨g4,0,none⟩) (n+1) cap] 29 (0,0)):=by rw[pS];exact aF _ ko 4 _ _ _ fb
   have hgB:w6.grownBy iO (some ko):=by rw[pS];exact aI (aJ _ _) _
   have ig:∀ k,k<w6.heap.size->k≠ko->iO.heap[k]?=w6.heap[k]?:=fun k h1 h2=>hgB.block k h1 (fun e=>by injection e with e;exact h2 e)
   clear pS;refine cw [11] (by kernel_rfl) (by simp) (fun i hi=>?_);obtain rfl:i=11:=by simpa using hi
   refine⟨_,rfl,rfl,fun K hK=>?_⟩;obtain⟨⟨z0,z1,z2,z3,z4⟩,qY,qX,wL,wK,wJ⟩:=hcells iO ig;go_simp
   obtain⟨eZ,kT⟩:∃ q,q=lB iO g4 n y:=⟨_,rfl⟩
   change K _ (lB iO g4 n y);rw[<-kT];refine hK.out _ _ ?_;clear hK K z0 z1 z2 z3 z4 qY qX wL wK wJ;have fS:∀ k,k<iO.heap.size->k≠g4->eZ.heap[k]?=iO.heap[k]?:=fun k h1 h2=>by rw[kT];exact (bt iO g4 n y).block k h1 (fun e=>by injection e with e;exact h2 e)
   have q9:=aa kT;clear kT;refine⟨by kernel_rfl,?_⟩;have pV:Fr 29 w6 iO:=.aN hgB (fun j hj=>by injection hj with hj;subst hj;exact⟨_,fb,b_⟩);have E6:=kV.jC hgB (fun j hj e=>fK (by have vN:g4=j:=(by simpa [eN] using hj);omega)) pV trivial;obtain⟨qQ,wF⟩:=Row.tW E6 n (by simp[<-HN.out]) (by simp[<-HN.out]) y q9.out;have lT:iO.grownBy eZ (some g4):=by rw[q9.out];exact bt _ _ _ _
   have vz:=(fS ko (ag kW) fK).trans kW;have mV:w6.heap.size<=eZ.heap.size:=aq hgB.size lT.size;have jD:∀ k,k<w6.heap.size->k≠g4->k≠ko->eZ.heap[k]?=w6.heap[k]?:=fun k h1 h2 h3=>(fS k (aK h1 hgB.size) h2).trans (ig k h1 h3)
   have mY:KN w6 eZ:=(KN.fG pV).trans (KN.fG wF);have mX:eZ.os=w6.os/\eZ.tape=w6.tape/\eZ.output=w6.output:=⟨lT.os.trans hgB.os,lT.tape.trans hgB.tape,lT.output.trans hgB.output⟩
   rw[ja us y HN.out] at qQ
   go_end0
   have hN:=HN.out;subst hN;exact⟨⟨_,rfl⟩,t,_,_,mj.out,nL.out.next nU.out ug Db Dc uf Df jL qQ vz jD mY mX.1 mX.2.1 mX.2.2 mV⟩
  refine⟨_,rfl,rfl,fun K hK=>?_⟩;go_simp
  refine hK.out _ _ ?_;clear hK K;refine cw [10,13] (by kernel_rfl) (by simp) (fun i hi=>?_);rcases (by simpa using hi:i=10\/i=13) with rfl | rfl
  ·refine⟨_,rfl,rfl,fun K hK=>?_⟩;go_simp
   refine hK.out _ _ ?_;clear hK K;refine cw [11,13] (by kernel_rfl) (by simp) (fun i hi=>?_);rcases (by simpa using hi:i=11\/i=13) with rfl | rfl
   ·refine⟨_,rfl,rfl,fun K hK=>?_⟩;obtain⟨⟨z0,z1,z2,z3,z4⟩,qY,qX,wL,wK,wJ⟩:=hcells w6 (fun k h1 h2=>rfl);go_simp
    obtain⟨iO,pT⟩:∃ q,q=lB w6 g4 n y:=⟨_,rfl⟩
    change K _ (lB w6 g4 n y);rw[<-pT];refine hK.out _ _ ?_;clear hK K z0 z1 z2 z3 z4 qY qX wL wK wJ;have fS:∀ k,k<w6.heap.size->k≠g4->iO.heap[k]?=w6.heap[k]?:=fun k h1 h2=>by rw[pT];exact (bt w6 g4 n y).block k h1 (fun e=>by injection e with e;exact h2 e)
    have qa:=aa pT;clear pT;refine cw [13] (by kernel_rfl) (by simp) (fun i hi=>?_);obtain rfl:i=13:=by simpa using hi
    refine⟨_,rfl,rfl,fun K hK=>?_⟩;have fb:=((fS ko (ag pU) fK).trans pU)
    have wu:=ae (v:=.slice vo n vc) fb 4 rfl;have cZ:=af fb 4;go_simp
    obtain⟨eZ,kS⟩:∃ q,q=iO.setCell ⟨ko,4,none⟩ (.slice (some ⟨g4,0,none⟩) (n+1) cap):=⟨_,rfl⟩
    rw[<-kS];refine hK.out _ _ ?_;clear hK K wu cZ;have kW:eZ.heap[ko]?=some (.cells #[.int .i64 op,.bool sg,.slice ao l c,.string nm,.slice (some ⟨g4,0,none⟩) (n+1) cap] 29 (0,0)):=by rw[kS];exact aF _ ko 4 _ _ _ fb
    have hgB:iO.grownBy eZ (some ko):=by rw[kS];exact aI (aJ _ _) _
    have ig:∀ k,k<iO.heap.size->k≠ko->eZ.heap[k]?=iO.heap[k]?:=fun k h1 h2=>hgB.block k h1 (fun e=>by injection e with e;exact h2 e)
    clear kS;refine⟨by kernel_rfl,?_⟩;obtain⟨E7,wF⟩:=Row.tW kV n (by simp[<-HN.out]) (by simp[<-HN.out]) y qa.out;have pV:Fr 29 iO eZ:=.aN hgB (fun j hj=>by injection hj with hj;subst hj;exact⟨_,fb,b_⟩);have qQ:=E7.jC hgB (fun j hj e=>fK (by have vN:g4=j:=(by simpa [eN] using hj);omega)) pV trivial;have vz:=kW;have mV:w6.heap.size<=eZ.heap.size:=aq (by rw[qa.out];exact (bt w6 g4 n y).size) hgB.size;have jD:∀ k,k<w6.heap.size->k≠g4->k≠ko->eZ.heap[k]?=w6.heap[k]?:=fun k h1 h2 h3=>(ig k (aK h1 (by rw[qa.out];exact (bt w6 g4 n y).size)) h3).trans (fS k h1 h2)
    have mY:KN w6 eZ:=(KN.fG wF).trans (KN.fG pV);have lT:w6.grownBy iO (some g4):=by rw[qa.out];exact bt _ _ _ _
    have mX:eZ.os=w6.os/\eZ.tape=w6.tape/\eZ.output=w6.output:=⟨hgB.os.trans lT.os,hgB.tape.trans lT.tape,hgB.output.trans lT.output⟩
    rw[ja us y HN.out] at qQ
    go_end0
    have hN:=HN.out;subst hN;exact⟨⟨_,rfl⟩,t,_,_,mj.out,nL.out.next nU.out ug Db Dc uf Df jL qQ vz jD mY mX.1 mX.2.1 mX.2.2 mV⟩
   refine⟨_,rfl,rfl,fun K hK=>?_⟩;have fb:=pU;have wu:=ae (v:=.slice vo n vc) fb 4 rfl;have cZ:=af fb 4;go_simp
   obtain⟨iO,pS⟩:∃ q,q=w6.setCell ⟨ko,4,none⟩ (.slice (some ⟨g4,0,none⟩) (n+1) cap):=⟨_,rfl⟩
   rw[<-pS];refine hK.out _ _ ?_;clear hK K wu cZ;have kW:iO.heap[ko]?=some (.cells #[.int .i64 op,.bool sg,.slice ao l c,.string nm,.slice (some ⟨g4,0,none⟩) (n+1) cap] 29 (0,0)):=by rw[pS];exact aF _ ko 4 _ _ _ fb
   have hgB:w6.grownBy iO (some ko):=by rw[pS];exact aI (aJ _ _) _
   have ig:∀ k,k<w6.heap.size->k≠ko->iO.heap[k]?=w6.heap[k]?:=fun k h1 h2=>hgB.block k h1 (fun e=>by injection e with e;exact h2 e)
   clear pS;refine cw [11] (by kernel_rfl) (by simp) (fun i hi=>?_);obtain rfl:i=11:=by simpa using hi
   refine⟨_,rfl,rfl,fun K hK=>?_⟩;obtain⟨⟨z0,z1,z2,z3,z4⟩,qY,qX,wL,wK,wJ⟩:=hcells iO ig;go_simp
   obtain⟨eZ,kT⟩:∃ q,q=lB iO g4 n y:=⟨_,rfl⟩
   change K _ (lB iO g4 n y);rw[<-kT];refine hK.out _ _ ?_;clear hK K z0 z1 z2 z3 z4 qY qX wL wK wJ;have fS:∀ k,k<iO.heap.size->k≠g4->eZ.heap[k]?=iO.heap[k]?:=fun k h1 h2=>by rw[kT];exact (bt iO g4 n y).block k h1 (fun e=>by injection e with e;exact h2 e)
   have q9:=aa kT;clear kT;refine⟨by kernel_rfl,?_⟩;have pV:Fr 29 w6 iO:=.aN hgB (fun j hj=>by injection hj with hj;subst hj;exact⟨_,fb,b_⟩);have E6:=kV.jC hgB (fun j hj e=>fK (by have vN:g4=j:=(by simpa [eN] using hj);omega)) pV trivial;obtain⟨qQ,wF⟩:=Row.tW E6 n (by simp[<-HN.out]) (by simp[<-HN.out]) y q9.out;have lT:iO.grownBy eZ (some g4):=by rw[q9.out];exact bt _ _ _ _
   have vz:=(fS ko (ag kW) fK).trans kW;have mV:w6.heap.size<=eZ.heap.size:=aq hgB.size lT.size;have jD:∀ k,k<w6.heap.size->k≠g4->k≠ko->eZ.heap[k]?=w6.heap[k]?:=fun k h1 h2 h3=>(fS k (aK h1 hgB.size) h2).trans (ig k h1 h3)
   have mY:KN w6 eZ:=(KN.fG pV).trans (KN.fG wF);have mX:eZ.os=w6.os/\eZ.tape=w6.tape/\eZ.output=w6.output:=⟨lT.os.trans hgB.os,lT.tape.trans hgB.tape,lT.output.trans hgB.output⟩
   rw[ja us y HN.out] at qQ
   go_end0
   have hN:=HN.out;subst hN;exact⟨⟨_,rfl⟩,t,_,_,mj.out,nL.out.next nU.out ug Db Dc uf Df jL qQ vz jD mY mX.1 mX.2.1 mX.2.2 mV⟩
  refine⟨_,rfl,rfl,fun K hK=>?_⟩;have fb:=pU;have wu:=ae (v:=.slice vo n vc) fb 4 rfl;have cZ:=af fb 4;go_simp
  obtain⟨pC,yR⟩:∃ q,q=w6.setCell ⟨ko,4,none⟩ (.slice (some ⟨g4,0,none⟩) (n+1) cap):=⟨_,rfl⟩
  rw[<-yR];refine hK.out _ _ ?_;clear hK K wu cZ;have kW:pC.heap[ko]?=some (.cells #[.int .i64 op,.bool sg,.slice ao l c,.string nm,.slice (some ⟨g4,0,none⟩) (n+1) cap] 29 (0,0)):=by rw[yR];exact aF _ ko 4 _ _ _ fb
  have hgB:w6.grownBy pC (some ko):=by rw[yR];exact aI (aJ _ _) _
  have ig:∀ k,k<w6.heap.size->k≠ko->pC.heap[k]?=w6.heap[k]?:=fun k h1 h2=>hgB.block k h1 (fun e=>by injection e with e;exact h2 e)
  clear yR;refine cw [10] (by kernel_rfl) (by simp) (fun i hi=>?_);obtain rfl:i=10:=by simpa using hi
  refine⟨_,rfl,rfl,fun K hK=>?_⟩;go_simp
  refine hK.out _ _ ?_;clear hK K;refine cw [11] (by kernel_rfl) (by simp) (fun i hi=>?_);obtain rfl:i=11:=by simpa using hi
  refine⟨_,rfl,rfl,fun K hK=>?_⟩;obtain⟨⟨z0,z1,z2,z3,z4⟩,qY,qX,wL,wK,wJ⟩:=hcells pC ig;go_simp
  obtain⟨eZ,kT⟩:∃ q,q=lB pC g4 n y:=⟨_,rfl⟩
  change K _ (lB pC g4 n y);rw[<-kT];refine hK.out _ _ ?_;clear hK K z0 z1 z2 z3 z4 qY qX wL wK wJ;have fS:∀ k,k<pC.heap.size->k≠g4->eZ.heap[k]?=pC.heap[k]?:=fun k h1 h2=>by rw[kT];exact (bt pC g4 n y).block k h1 (fun e=>by injection e with e;exact h2 e)
  have q9:=aa kT;clear kT;refine⟨by kernel_rfl,?_⟩;have pV:Fr 29 w6 pC:=.aN hgB (fun j hj=>by injection hj with hj;subst hj;exact⟨_,fb,b_⟩);have E6:=kV.jC hgB (fun j hj e=>fK (by have vN:g4=j:=(by simpa [eN] using hj);omega)) pV trivial;obtain⟨qQ,wF⟩:=Row.tW E6 n (by simp[<-HN.out]) (by simp[<-HN.out]) y q9.out;have lT:pC.grownBy eZ (some g4):=by rw[q9.out];exact bt _ _ _ _
  have vz:=(fS ko (ag kW) fK).trans kW;have mV:w6.heap.size<=eZ.heap.size:=aq hgB.size lT.size;have jD:∀ k,k<w6.heap.size->k≠g4->k≠ko->eZ.heap[k]?=w6.heap[k]?:=fun k h1 h2 h3=>(fS k (aK h1 hgB.size) h2).trans (ig k h1 h3)
  have mY:KN w6 eZ:=(KN.fG pV).trans (KN.fG wF);have mX:eZ.os=w6.os/\eZ.tape=w6.tape/\eZ.output=w6.output:=⟨lT.os.trans hgB.os,lT.tape.trans hgB.tape,lT.output.trans hgB.output⟩
  rw[ja us y HN.out] at qQ
  go_end0
  have hN:=HN.out;subst hN;exact⟨⟨_,rfl⟩,t,_,_,mj.out,nL.out.next nU.out ug Db Dc uf Df jL qQ vz jD mY mX.1 mX.2.1 mX.2.2 mV⟩
 have Fh:¬ ((i:Nat):Int)<((dV:Nat):Int):=by omega
 have AO:=aa nL.out.be;have Ql:Hid (nj w d Oi):=aa (Ei w d);go_upto_region 3 with fail
 clear f0 nK f1 nJ f2 nI f3 nH f4 nG;have Al:=ag aA.out;have Ak:=ag A1.out;have Am:=ag bX.out;have fK:Hid (∀ q,q<0->(fun q=>0) q<x1.heap.size):=aa (fun q h=>absurd h (ah _));refine R7.region (by kernel_rfl) [[],[0],[],[],[],[4],[2,3,4,5],[0,1],[],[0,1,2,3,4,5,6,7,8],[0,1,2,3,4,5,6,7,8,9],[0,1,2,3,4,5,6,7,8,9,10],[0,1,2,3,4,5,6,7,8,9],[0,1,2,3,4,5,6,7,8,9,12]] [] [] (fun q=>0) 0 9 (by kernel_rfl) (by kernel_rfl) (by rfl) fK.out (fun q q' h h' hn=>absurd hn (by omega)) ?_;refine R7.az.bT ?_ (by rfl) (fun T xs wr hA=>?_) ?_
 rotate_left 1
 ·have e3:=hA.pre 3 (by kernel_rfl);simp only[eY,fD,fm] at e3;clear hA;refine⟨(by rfl),?_⟩;go_simp<;>(try with_reducible rfl)
 refine R7.az.bT ?_ (by rfl) (fun T xs wr hA=>?_) ?_
 rotate_left 1
 ·have Jm:=hA.tm 0 19 (by rfl) (by rfl);have f19:xs 0=_:=hA.fa 0 (by rfl)
  (try simp (disch:=first | rfl | decide) only [R7.ai] at f19)
  rw[f19] at Jm;clear f19;have aP:wr.heap[ko]?=_:=(hA.bl _ Al (fun q h=>absurd h (ah _))).trans aA.out;have q0:=ae (v:=.int .i64 op) aP 0 rfl;have q1:=ae (v:=.bool sg) aP 1 rfl;have q2:=ae (v:=.slice ao l c) aP 2 rfl;have q3:=ae (v:=.string nm) aP 3 rfl;have q4:=ae (v:=.slice vo n vc) aP 4 rfl;clear aP;clear hA;refine⟨(by rfl),?_⟩;go_simp<;>(try with_reducible rfl)
 refine R7.az.bT ?_ (by rfl) (fun T xs wr hA=>?_) ?_
 rotate_left 1
 ·have e7:=hA.pre 7 (by kernel_rfl);simp only[eY,fD,fm] at e7;have aP:wr.heap[kx]?=_:=(hA.bl _ Ak (fun q h=>absurd h (ah _))).trans A1.out;have q0:=ae (v:=.int .i64 0) aP 0 rfl;have q1:=ae (v:=.bool false) aP 1 rfl;have q2:=ae (v:=.slice none 0 0) aP 2 rfl;have q3:=ae (v:=.string ⟨#[]⟩) aP 3 rfl;have q4:=ae (v:=.slice none 0 0) aP 4 rfl;clear aP;clear hA;refine⟨(by rfl),?_⟩;go_simp<;>(try with_reducible rfl)
 refine R7.az.bT ?_ (by rfl) (fun T xs wr hA=>?_) ?_
 rotate_left 1
 ·have e1:=hA.pre 1 (by kernel_rfl);simp only[eY,fD,fm] at e1;clear hA;refine⟨(by rfl),?_⟩;go_simp<;>(try with_reducible rfl)
 refine R7.az.bT ?_ (by rfl) (fun T xs wr hA=>?_) ?_
 rotate_left 1
 ·have e4:=hA.pre 4 (by kernel_rfl);simp only[eY,fD,fm] at e4;have aP:wr.heap[kd]?=_:=(hA.bl _ Am (fun q h=>absurd h (ah _))).trans bX.out;have q0:=ae (v:=.int .i64 ((d:Nat)+1:Int)) aP 0 rfl;clear aP;clear hA;refine⟨(by rfl),?_⟩;go_simp<;>(try with_reducible rfl)
 refine R7.az.bT ?_ (by rfl) (fun T xs wr hA=>?_) ?_
 rotate_left 1
 ·have Lg:=hA.tm 4 23 (by rfl) (by rfl);have f23:xs 4=_:=hA.fa 4 (by rfl)
  (try simp (disch:=first | rfl | decide) only [R7.ai] at f23)
  rw[f23] at Lg;clear f23;clear hA;refine⟨(by rfl),?_⟩;go_simp<;>(try with_reducible rfl)
 refine R7.az.call (fun xs v w=>∃ y t,v=fV y/\FT w (fun b=>x1.heap.size<=b) d y t/\rt t=true/\jh t.op=s/\Tm d t) (fun _ _ _ _ h hb=>by obtain⟨y,t,h1,h2,h3⟩:=h;exact⟨y,t,h1,h2.below hb,h3⟩) (fun _ _ _ _ _ _ h _=>by obtain⟨q,hq,_⟩:=h;exact absurd hq (ah _)) (by rfl) (fun T xs wr hA=>?_) ?_
 ·have ki:=(hA.be 0 (au _) (fun _ _=>au _)).size;have Li:=hA.tm 2 21 (by rfl) (by rfl);have f21:xs 2=_:=hA.fa 2 (by rfl)
  (try simp (disch:=first | rfl | decide) only [R7.ai] at f21)
  rw[f21] at Li;clear f21;have Lh:=hA.tm 3 22 (by rfl) (by rfl);have f22:xs 3=_:=hA.fa 3 (by rfl)
  (try simp (disch:=first | rfl | decide) only [R7.ai] at f22)
  rw[f22] at Lh;clear f22;have KD:=hA.tm 5 24 (by rfl) (by rfl);have f24:xs 5=_:=hA.fa 5 (by rfl)
  (try simp (disch:=first | rfl | decide) only [R7.ai] at f24)
  rw[f24] at KD;clear f24;have dK:=aT (hA.be x1.heap.size (ak _) (fun q h=>absurd h (ah q)));have J8:=Ql.out.below ((AO.out.trans (HW.out.mono AO.out.size)).trans (dK.mono (aq AO.out.size HW.out.size)));clear hA;refine⟨(by rfl),fun K hK=>?_⟩;go_simp
  refine (uF.out s _ _ _ _ _ _ _ _ _ _ Se.out J8).mono ?_;rintro e w' ⟨q,t,rfl,⟨y,rfl,hy⟩,h2,h3,h4,hb'⟩;exact hK.out _ _ ⟨y,t,rfl,hy.mono (fun b hb=>aq dK.size hb),h2,h3,h4⟩ hb'
 refine R7.az.bT ?_ (by rfl) (fun T xs wr hA=>?_) ?_
 rotate_left 1
 ·have Jl:=hA.tm 1 20 (by rfl) (by rfl);have f20:xs 1=_:=hA.fa 1 (by rfl)
  (try simp (disch:=first | rfl | decide) only [R7.ai] at f20)
  rw[f20] at Jl;clear f20;clear hA;refine⟨(by rfl),?_⟩;go_simp<;>(try with_reducible rfl)
 refine R7.az.call (fun xs v w=>∃ g,v=.slice (some ⟨g,0,none⟩) 1 1/\x1.heap.size<=g/\w.heap[g]?=some (.cells #[.int .i64 0,.bool false,.slice none 0 0,.string ⟨#[]⟩,.slice none 0 0] 29 (0,0))) (fun _ _ _ _ ⟨g,hv,hl,hg⟩ hb=>⟨g,hv,hl,by rw[hb.block g (Array.getElem?_eq_some_iff.1 hg).1];exact hg⟩) (fun _ _ _ _ _ ⟨g,hv,hl,hg⟩ ⟨q,hq,e⟩ hp=>⟨g,hv,hl,by rw[hp.block g (Array.getElem?_eq_some_iff.1 hg).1 (fun h=>by have:=fK.out q hq;omega)];exact hg⟩) (by rfl) (fun T xs wr hA=>?_) ?_
 ·have ki:=(hA.be 0 (au _) (fun _ _=>au _)).size;clear hA;refine⟨(by rfl),fun K hK=>?_⟩;go_simp
  exact hK.out _ _ ⟨_,rfl,ki,by simpa using cy wr _ _ rfl⟩ ((av _ _).alloc (ak _) _)
 refine R7.az.done (fun xs x2 hL=>?_);obtain⟨⟨ei,cG⟩,hf,-,-⟩:=hL;have f0:xs 0=_:=hf 0 (by decide)
 (try simp (disch:=first | rfl | decide) only [R7.ai] at f0)
 have f1:xs 1=_:=hf 1 (by decide)
 (try simp (disch:=first | rfl | decide) only [R7.ai] at f1)
 have f2:xs 2=_:=hf 2 (by decide)
 (try simp (disch:=first | rfl | decide) only [R7.ai] at f2)
 have f3:xs 3=_:=hf 3 (by decide)
 (try simp (disch:=first | rfl | decide) only [R7.ai] at f3)
 have f4:xs 4=_:=hf 4 (by decide)
 (try simp (disch:=first | rfl | decide) only [R7.ai] at f4)
 have f5:xs 5=_:=hf 5 (by decide)
 (try simp (disch:=first | rfl | decide) only [R7.ai] at f5)
 have F6:∃ y t,(xs 6)=fV y/\FT x2 (fun b=>x1.heap.size<=b) d y t/\rt t=true/\jh t.op=s/\Tm d t:=hf 6 (by decide);have f7:xs 7=_:=hf 7 (by decide)
 (try simp (disch:=first | rfl | decide) only [R7.ai] at f7)
 have F8:∃ g,(xs 8)=.slice (some ⟨g,0,none⟩) 1 1/\x1.heap.size<=g/\x2.heap[g]?=some (.cells #[.int .i64 0,.bool false,.slice none 0 0,.string ⟨#[]⟩,.slice none 0 0] 29 (0,0)):=hf 8 (by decide);have hb0:aC 0 x1 x2:=aT (ei 0 (au _) (fun _ _=>au _));have jR:∀ j,j<x1.heap.size->(∀ q,q<0->(fun q=>0) q≠j)->x2.heap[j]?=x1.heap[j]?:=cG;clear ei cG hf;have hb:aC x1.heap.size x1 x2:=⟨hb0.os,hb0.tape,hb0.output,hb0.size,fun q hq=>jR q hq (fun q h=>absurd h (ah _))⟩
 obtain⟨y,t,LZ,Db,LO,FN,LP⟩:=F6;have mj:=aa FN;have Dc:=And.intro LO LP;obtain⟨gz,Hw,Jc,O_⟩:=F8;unfold R7.Rest;simp only[R7.fill,Cb,Ca,B_,B9,xz,xy,xx,LZ,Hw,fV,f0,f1,f2,f3,f4,f5,f7];clear hb0 jR fK LZ Hw LO LP FN Al Ak Am f0 f1 f2 f3 f4 f5 f7;have nU:=aa (HW.out.trans (hb.mono HW.out.size));have ug:=HW.out.size;have wD:=nL.out.row.below nU.out;have Ks:B<=x2.heap.size:=aq nL.out.sz nU.out.size;rw[<-HN.out] at wD;refine cw [9] (by kernel_rfl) (by simp) (fun i hi=>?_);obtain rfl:i=9:=by simpa using hi
 refine⟨_,rfl,rfl,fun K hK=>?_⟩;refine yq wD (.tmp 20) (.tmp 27) rfl rfl gz Gu rfl O_ (by rw[<-HN.out];omega) Ks (fun g4 cap w6 kV uf Fl Df jL yh I6=>?_);rw[<-HN.out] at kV yh ⊢;refine hK.out _ _ ?_;clear hK K;have yU:=nL.out.low;have pU:=(Fl.block ko yU.2.2.2).trans ((nU.out.block ko (ag kN.out)).trans kN.out);have Ic:B<=g4:=(kV.ge rfl).1;have fK:ko≠g4:=by omega
 have hcells:=fun (W:an) (hW:∀ k,k<w6.heap.size->k≠ko->W.heap[k]?=w6.heap[k]?)=>zV kV HN.out fK hW
 have Ms:cap<=9223372036854775807:=I6;have hI:(n:Int)<(n:Int)+1:=by omega
 refine cw [10,12] (by kernel_rfl) (by simp) (fun i hi=>?_);rcases (by simpa using hi:i=10\/i=12) with rfl | rfl
 ·refine⟨_,rfl,rfl,fun K hK=>?_⟩;go_simp
  refine hK.out _ _ ?_;clear hK K;refine cw [11,12] (by kernel_rfl) (by simp) (fun i hi=>?_);rcases (by simpa using hi:i=11\/i=12) with rfl | rfl
  ·refine⟨_,rfl,rfl,fun K hK=>?_⟩;obtain⟨⟨z0,z1,z2,z3,z4⟩,qY,qX,wL,wK,wJ⟩:=hcells w6 (fun k h1 h2=>rfl);go_simp
   obtain⟨pC,yS⟩:∃ q,q=lB w6 g4 n y:=⟨_,rfl⟩
   change K _ (lB w6 g4 n y);rw[<-yS];refine hK.out _ _ ?_;clear hK K z0 z1 z2 z3 z4 qY qX wL wK wJ;have fS:∀ k,k<w6.heap.size->k≠g4->pC.heap[k]?=w6.heap[k]?:=fun k h1 h2=>by rw[yS];exact (bt w6 g4 n y).block k h1 (fun e=>by injection e with e;exact h2 e)
   have zw:=aa yS;clear yS;refine cw [12] (by kernel_rfl) (by simp) (fun i hi=>?_);obtain rfl:i=12:=by simpa using hi
   refine⟨_,rfl,rfl,fun K hK=>?_⟩;go_simp
   refine hK.out _ _ ?_;clear hK K;refine cw [13] (by kernel_rfl) (by simp) (fun i hi=>?_);obtain rfl:i=13:=by simpa using hi
   refine⟨_,rfl,rfl,fun K hK=>?_⟩;have fb:=((fS ko (ag pU) fK).trans pU)
   have wu:=ae (v:=.slice vo n vc) fb 4 rfl;have cZ:=af fb 4;go_simp
   obtain⟨eZ,kS⟩:∃ q,q=pC.setCell ⟨ko,4,none⟩ (.slice (some ⟨g4,0,none⟩) (n+1) cap):=⟨_,rfl⟩
   rw[<-kS];refine hK.out _ _ ?_;clear hK K wu cZ;have kW:eZ.heap[ko]?=some (.cells #[.int .i64 op,.bool sg,.slice ao l c,.string nm,.slice (some ⟨g4,0,none⟩) (n+1) cap] 29 (0,0)):=by rw[kS];exact aF _ ko 4 _ _ _ fb
   have hgB:pC.grownBy eZ (some ko):=by rw[kS];exact aI (aJ _ _) _
   have ig:∀ k,k<pC.heap.size->k≠ko->eZ.heap[k]?=pC.heap[k]?:=fun k h1 h2=>hgB.block k h1 (fun e=>by injection e with e;exact h2 e)
   clear kS;refine⟨by kernel_rfl,?_⟩;obtain⟨E7,wF⟩:=Row.tW kV n (by simp[<-HN.out]) (by simp[<-HN.out]) y zw.out;have pV:Fr 29 pC eZ:=.aN hgB (fun j hj=>by injection hj with hj;subst hj;exact⟨_,fb,b_⟩);have qQ:=E7.jC hgB (fun j hj e=>fK (by have vN:g4=j:=(by simpa [eN] using hj);omega)) pV trivial;have vz:=kW;have mV:w6.heap.size<=eZ.heap.size:=aq (by rw[zw.out];exact (bt w6 g4 n y).size) hgB.size;have jD:∀ k,k<w6.heap.size->k≠g4->k≠ko->eZ.heap[k]?=w6.heap[k]?:=fun k h1 h2 h3=>(ig k (aK h1 (by rw[zw.out];exact (bt w6 g4 n y).size)) h3).trans (fS k h1 h2)
   have mY:KN w6 eZ:=(KN.fG wF).trans (KN.fG pV);have lT:w6.grownBy pC (some g4):=by rw[zw.out];exact bt _ _ _ _
   have mX:eZ.os=w6.os/\eZ.tape=w6.tape/\eZ.output=w6.output:=⟨hgB.os.trans lT.os,hgB.tape.trans lT.tape,hgB.output.trans lT.output⟩
   rw[ja us y HN.out] at qQ
   go_end0
   have hN:=HN.out;subst hN;exact⟨⟨_,rfl⟩,t,_,_,mj.out,nL.out.next nU.out ug Db Dc uf Df jL qQ vz jD mY mX.1 mX.2.1 mX.2.2 mV⟩
  refine⟨_,rfl,rfl,fun K hK=>?_⟩;go_simp
  refine hK.out _ _ ?_;clear hK K;refine cw [11,13] (by kernel_rfl) (by simp) (fun i hi=>?_);rcases (by simpa using hi:i=11\/i=13) with rfl | rfl
  ·refine⟨_,rfl,rfl,fun K hK=>?_⟩;obtain⟨⟨z0,z1,z2,z3,z4⟩,qY,qX,wL,wK,wJ⟩:=hcells w6 (fun k h1 h2=>rfl);go_simp
   obtain⟨iO,pT⟩:∃ q,q=lB w6 g4 n y:=⟨_,rfl⟩
   change K _ (lB w6 g4 n y);rw[<-pT];refine hK.out _ _ ?_;clear hK K z0 z1 z2 z3 z4 qY qX wL wK wJ;have fS:∀ k,k<w6.heap.size->k≠g4->iO.heap[k]?=w6.heap[k]?:=fun k h1 h2=>by rw[pT];exact (bt w6 g4 n y).block k h1 (fun e=>by injection e with e;exact h2 e)
   have qa:=aa pT;clear pT;refine cw [13] (by kernel_rfl) (by simp) (fun i hi=>?_);obtain rfl:i=13:=by simpa using hi
   refine⟨_,rfl,rfl,fun K hK=>?_⟩;have fb:=((fS ko (ag pU) fK).trans pU)
   have wu:=ae (v:=.slice vo n vc) fb 4 rfl;have cZ:=af fb 4;go_simp
   obtain⟨eZ,kS⟩:∃ q,q=iO.setCell ⟨ko,4,none⟩ (.slice (some ⟨g4,0,none⟩) (n+1) cap):=⟨_,rfl⟩
   rw[<-kS];refine hK.out _ _ ?_;clear hK K wu cZ;have kW:eZ.heap[ko]?=some (.cells #[.int .i64 op,.bool sg,.slice ao l c,.string nm,.slice (some ⟨g4,0,none⟩) (n+1) cap] 29 (0,0)):=by rw[kS];exact aF _ ko 4 _ _ _ fb
   have hgB:iO.grownBy eZ (some ko):=by rw[kS];exact aI (aJ _ _) _
   have ig:∀ k,k<iO.heap.size->k≠ko->eZ.heap[k]?=iO.heap[k]?:=fun k h1 h2=>hgB.block k h1 (fun e=>by injection e with e;exact h2 e)
   clear kS;refine⟨by kernel_rfl,?_⟩;obtain⟨E7,wF⟩:=Row.tW kV n (by simp[<-HN.out]) (by simp[<-HN.out]) y qa.out;have pV:Fr 29 iO eZ:=.aN hgB (fun j hj=>by injection hj with hj;subst hj;exact⟨_,fb,b_⟩);have qQ:=E7.jC hgB (fun j hj e=>fK (by have vN:g4=j:=(by simpa [eN] using hj);omega)) pV trivial;have vz:=kW;have mV:w6.heap.size<=eZ.heap.size:=aq (by rw[qa.out];exact (bt w6 g4 n y).size) hgB.size;have jD:∀ k,k<w6.heap.size->k≠g4->k≠ko->eZ.heap[k]?=w6.heap[k]?:=fun k h1 h2 h3=>(ig k (aK h1 (by rw[qa.out];exact (bt w6 g4 n y).size)) h3).trans (fS k h1 h2)
   have mY:KN w6 eZ:=(KN.fG wF).trans (KN.fG pV);have lT:w6.grownBy iO (some g4):=by rw[qa.out];exact bt _ _ _ _
   have mX:eZ.os=w6.os/\eZ.tape=w6.tape/\eZ.output=w6.output:=⟨hgB.os.trans lT.os,hgB.tape.trans lT.tape,hgB.output.trans lT.output⟩
   rw[ja us y HN.out] at qQ
   go_end0
   have hN:=HN.out;subst hN;exact⟨⟨_,rfl⟩,t,_,_,mj.out,nL.out.next nU.out ug Db Dc uf Df jL qQ vz jD mY mX.1 mX.2.1 mX.2.2 mV⟩
  refine⟨_,rfl,rfl,fun K hK=>?_⟩;have fb:=pU;have wu:=ae (v:=.slice vo n vc) fb 4 rfl;have cZ:=af fb 4;go_simp
  obtain⟨iO,pS⟩:∃ q,q=w6.setCell ⟨ko,4,none⟩ (.slice (some ⟨g4,0,none⟩) (n+1) cap):=⟨_,rfl⟩
  rw[<-pS];refine hK.out _ _ ?_;clear hK K wu cZ;have kW:iO.heap[ko]?=some (.cells #[.int .i64 op,.bool sg,.slice ao l c,.string nm,.slice (some ⟨g4,0,none⟩) (n+1) cap] 29 (0,0)):=by rw[pS];exact aF _ ko 4 _ _ _ fb
  have hgB:w6.grownBy iO (some ko):=by rw[pS];exact aI (aJ _ _) _
  have ig:∀ k,k<w6.heap.size->k≠ko->iO.heap[k]?=w6.heap[k]?:=fun k h1 h2=>hgB.block k h1 (fun e=>by injection e with e;exact h2 e)
  clear pS;refine cw [11] (by kernel_rfl) (by simp) (fun i hi=>?_);obtain rfl:i=11:=by simpa using hi
  refine⟨_,rfl,rfl,fun K hK=>?_⟩;obtain⟨⟨z0,z1,z2,z3,z4⟩,qY,qX,wL,wK,wJ⟩:=hcells iO ig;go_simp
  obtain⟨eZ,kT⟩:∃ q,q=lB iO g4 n y:=⟨_,rfl⟩
  change K _ (lB iO g4 n y);rw[<-kT];refine hK.out _ _ ?_;clear hK K z0 z1 z2 z3 z4 qY qX wL wK wJ;have fS:∀ k,k<iO.heap.size->k≠g4->eZ.heap[k]?=iO.heap[k]?:=fun k h1 h2=>by rw[kT];exact (bt iO g4 n y).block k h1 (fun e=>by injection e with e;exact h2 e)
  have q9:=aa kT;clear kT;refine⟨by kernel_rfl,?_⟩;have pV:Fr 29 w6 iO:=.aN hgB (fun j hj=>by injection hj with hj;subst hj;exact⟨_,fb,b_⟩);have E6:=kV.jC hgB (fun j hj e=>fK (by have vN:g4=j:=(by simpa [eN] using hj);omega)) pV trivial;obtain⟨qQ,wF⟩:=Row.tW E6 n (by simp[<-HN.out]) (by simp[<-HN.out]) y q9.out;have lT:iO.grownBy eZ (some g4):=by rw[q9.out];exact bt _ _ _ _
  have vz:=(fS ko (ag kW) fK).trans kW;have mV:w6.heap.size<=eZ.heap.size:=aq hgB.size lT.size;have jD:∀ k,k<w6.heap.size->k≠g4->k≠ko->eZ.heap[k]?=w6.heap[k]?:=fun k h1 h2 h3=>(fS k (aK h1 hgB.size) h2).trans (ig k h1 h3)
  have mY:KN w6 eZ:=(KN.fG pV).trans (KN.fG wF);have mX:eZ.os=w6.os/\eZ.tape=w6.tape/\eZ.output=w6.output:=⟨lT.os.trans hgB.os,lT.tape.trans hgB.tape,lT.output.trans hgB.output⟩
  rw[ja us y HN.out] at qQ
  go_end0
  have hN:=HN.out;subst hN;exact⟨⟨_,rfl⟩,t,_,_,mj.out,nL.out.next nU.out ug Db Dc uf Df jL qQ vz jD mY mX.1 mX.2.1 mX.2.2 mV⟩
 refine⟨_,rfl,rfl,fun K hK=>?_⟩;go_simp
 refine hK.out _ _ ?_;clear hK K;refine cw [10,13] (by kernel_rfl) (by simp) (fun i hi=>?_);rcases (by simpa using hi:i=10\/i=13) with rfl | rfl
 ·refine⟨_,rfl,rfl,fun K hK=>?_⟩;go_simp
  refine hK.out _ _ ?_;clear hK K;refine cw [11,13] (by kernel_rfl) (by simp) (fun i hi=>?_);rcases (by simpa using hi:i=11\/i=13) with rfl | rfl
  ·refine⟨_,rfl,rfl,fun K hK=>?_⟩;obtain⟨⟨z0,z1,z2,z3,z4⟩,qY,qX,wL,wK,wJ⟩:=hcells w6 (fun k h1 h2=>rfl);go_simp
   obtain⟨iO,pT⟩:∃ q,q=lB w6 g4 n y:=⟨_,rfl⟩
   change K _ (lB w6 g4 n y);rw[<-pT];refine hK.out _ _ ?_;clear hK K z0 z1 z2 z3 z4 qY qX wL wK wJ;have fS:∀ k,k<w6.heap.size->k≠g4->iO.heap[k]?=w6.heap[k]?:=fun k h1 h2=>by rw[pT];exact (bt w6 g4 n y).block k h1 (fun e=>by injection e with e;exact h2 e)
   have qa:=aa pT;clear pT;refine cw [13] (by kernel_rfl) (by simp) (fun i hi=>?_);obtain rfl:i=13:=by simpa using hi
   refine⟨_,rfl,rfl,fun K hK=>?_⟩;have fb:=((fS ko (ag pU) fK).trans pU)
   have wu:=ae (v:=.slice vo n vc) fb 4 rfl;have cZ:=af fb 4;go_simp
   obtain⟨eZ,kS⟩:∃ q,q=iO.setCell ⟨ko,4,none⟩ (.slice (some ⟨g4,0,none⟩) (n+1) cap):=⟨_,rfl⟩
   rw[<-kS];refine hK.out _ _ ?_;clear hK K wu cZ;have kW:eZ.heap[ko]?=some (.cells #[.int .i64 op,.bool sg,.slice ao l c,.string nm,.slice (some ⟨g4,0,none⟩) (n+1) cap] 29 (0,0)):=by rw[kS];exact aF _ ko 4 _ _ _ fb
   have hgB:iO.grownBy eZ (some ko):=by rw[kS];exact aI (aJ _ _) _
   have ig:∀ k,k<iO.heap.size->k≠ko->eZ.heap[k]?=iO.heap[k]?:=fun k h1 h2=>hgB.block k h1 (fun e=>by injection e with e;exact h2 e)
   clear kS;refine⟨by kernel_rfl,?_⟩;obtain⟨E7,wF⟩:=Row.tW kV n (by simp[<-HN.out]) (by simp[<-HN.out]) y qa.out;have pV:Fr 29 iO eZ:=.aN hgB (fun j hj=>by injection hj with hj;subst hj;exact⟨_,fb,b_⟩);have qQ:=E7.jC hgB (fun j hj e=>fK (by have vN:g4=j:=(by simpa [eN] using hj);omega)) pV trivial;have vz:=kW;have mV:w6.heap.size<=eZ.heap.size:=aq (by rw[qa.out];exact (bt w6 g4 n y).size) hgB.size;have jD:∀ k,k<w6.heap.size->k≠g4->k≠ko->eZ.heap[k]?=w6.heap[k]?:=fun k h1 h2 h3=>(ig k (aK h1 (by rw[qa.out];exact (bt w6 g4 n y).size)) h3).trans (fS k h1 h2)
   have mY:KN w6 eZ:=(KN.fG wF).trans (KN.fG pV);have lT:w6.grownBy iO (some g4):=by rw[qa.out];exact bt _ _ _ _
   have mX:eZ.os=w6.os/\eZ.tape=w6.tape/\eZ.output=w6.output:=⟨hgB.os.trans lT.os,hgB.tape.trans lT.tape,hgB.output.trans lT.output⟩
   rw[ja us y HN.out] at qQ
   go_end0
   have hN:=HN.out;subst hN;exact⟨⟨_,rfl⟩,t,_,_,mj.out,nL.out.next nU.out ug Db Dc uf Df jL qQ vz jD mY mX.1 mX.2.1 mX.2.2 mV⟩
  refine⟨_,rfl,rfl,fun K hK=>?_⟩;have fb:=pU;have wu:=ae (v:=.slice vo n vc) fb 4 rfl;have cZ:=af fb 4;go_simp
  obtain⟨iO,pS⟩:∃ q,q=w6.setCell ⟨ko,4,none⟩ (.slice (some ⟨g4,0,none⟩) (n+1) cap):=⟨_,rfl⟩
  rw[<-pS];refine hK.out _ _ ?_;clear hK K wu cZ;have kW:iO.heap[ko]?=some (.cells #[.int .i64 op,.bool sg,.slice ao l c,.string nm,.slice (some ⟨g4,0,none⟩) (n+1) cap] 29 (0,0)):=by rw[pS];exact aF _ ko 4 _ _ _ fb
  have hgB:w6.grownBy iO (some ko):=by rw[pS];exact aI (aJ _ _) _
  have ig:∀ k,k<w6.heap.size->k≠ko->iO.heap[k]?=w6.heap[k]?:=fun k h1 h2=>hgB.block k h1 (fun e=>by injection e with e;exact h2 e)
  clear pS;refine cw [11] (by kernel_rfl) (by simp) (fun i hi=>?_);obtain rfl:i=11:=by simpa using hi
  refine⟨_,rfl,rfl,fun K hK=>?_⟩;obtain⟨⟨z0,z1,z2,z3,z4⟩,qY,qX,wL,wK,wJ⟩:=hcells iO ig;go_simp
  obtain⟨eZ,kT⟩:∃ q,q=lB iO g4 n y:=⟨_,rfl⟩
  change K _ (lB iO g4 n y);rw[<-kT];refine hK.out _ _ ?_;clear hK K z0 z1 z2 z3 z4 qY qX wL wK wJ;have fS:∀ k,k<iO.heap.size->k≠g4->eZ.heap[k]?=iO.heap[k]?:=fun k h1 h2=>by rw[kT];exact (bt iO g4 n y).block k h1 (fun e=>by injection e with e;exact h2 e)
  have q9:=aa kT;clear kT;refine⟨by kernel_rfl,?_⟩;have pV:Fr 29 w6 iO:=.aN hgB (fun j hj=>by injection hj with hj;subst hj;exact⟨_,fb,b_⟩);have E6:=kV.jC hgB (fun j hj e=>fK (by have vN:g4=j:=(by simpa [eN] using hj);omega)) pV trivial;obtain⟨qQ,wF⟩:=Row.tW E6 n (by simp[<-HN.out]) (by simp[<-HN.out]) y q9.out;have lT:iO.grownBy eZ (some g4):=by rw[q9.out];exact bt _ _ _ _
  have vz:=(fS ko (ag kW) fK).trans kW;have mV:w6.heap.size<=eZ.heap.size:=aq hgB.size lT.size;have jD:∀ k,k<w6.heap.size->k≠g4->k≠ko->eZ.heap[k]?=w6.heap[k]?:=fun k h1 h2 h3=>(fS k (aK h1 hgB.size) h2).trans (ig k h1 h3)
  have mY:KN w6 eZ:=(KN.fG pV).trans (KN.fG wF);have mX:eZ.os=w6.os/\eZ.tape=w6.tape/\eZ.output=w6.output:=⟨lT.os.trans hgB.os,lT.tape.trans hgB.tape,lT.output.trans hgB.output⟩
  rw[ja us y HN.out] at qQ
  go_end0
  have hN:=HN.out;subst hN;exact⟨⟨_,rfl⟩,t,_,_,mj.out,nL.out.next nU.out ug Db Dc uf Df jL qQ vz jD mY mX.1 mX.2.1 mX.2.2 mV⟩
 refine⟨_,rfl,rfl,fun K hK=>?_⟩;have fb:=pU;have wu:=ae (v:=.slice vo n vc) fb 4 rfl;have cZ:=af fb 4;go_simp
 obtain⟨pC,yR⟩:∃ q,q=w6.setCell ⟨ko,4,none⟩ (.slice (some ⟨g4,0,none⟩) (n+1) cap):=⟨_,rfl⟩
 rw[<-yR];refine hK.out _ _ ?_;clear hK K wu cZ;have kW:pC.heap[ko]?=some (.cells #[.int .i64 op,.bool sg,.slice ao l c,.string nm,.slice (some ⟨g4,0,none⟩) (n+1) cap] 29 (0,0)):=by rw[yR];exact aF _ ko 4 _ _ _ fb
 have hgB:w6.grownBy pC (some ko):=by rw[yR];exact aI (aJ _ _) _
 have ig:∀ k,k<w6.heap.size->k≠ko->pC.heap[k]?=w6.heap[k]?:=fun k h1 h2=>hgB.block k h1 (fun e=>by injection e with e;exact h2 e)
 clear yR;refine cw [10] (by kernel_rfl) (by simp) (fun i hi=>?_);obtain rfl:i=10:=by simpa using hi
 refine⟨_,rfl,rfl,fun K hK=>?_⟩;go_simp
 refine hK.out _ _ ?_;clear hK K;refine cw [11] (by kernel_rfl) (by simp) (fun i hi=>?_);obtain rfl:i=11:=by simpa using hi
 refine⟨_,rfl,rfl,fun K hK=>?_⟩;obtain⟨⟨z0,z1,z2,z3,z4⟩,qY,qX,wL,wK,wJ⟩:=hcells pC ig;go_simp
 obtain⟨eZ,kT⟩:∃ q,q=lB pC g4 n y:=⟨_,rfl⟩
 change K _ (lB pC g4 n y);rw[<-kT];refine hK.out _ _ ?_;clear hK K z0 z1 z2 z3 z4 qY qX wL wK wJ;have fS:∀ k,k<pC.heap.size->k≠g4->eZ.heap[k]?=pC.heap[k]?:=fun k h1 h2=>by rw[kT];exact (bt pC g4 n y).block k h1 (fun e=>by injection e with e;exact h2 e)
 have q9:=aa kT;clear kT;refine⟨by kernel_rfl,?_⟩;have pV:Fr 29 w6 pC:=.aN hgB (fun j hj=>by injection hj with hj;subst hj;exact⟨_,fb,b_⟩);have E6:=kV.jC hgB (fun j hj e=>fK (by have vN:g4=j:=(by simpa [eN] using hj);omega)) pV trivial;obtain⟨qQ,wF⟩:=Row.tW E6 n (by simp[<-HN.out]) (by simp[<-HN.out]) y q9.out;have lT:pC.grownBy eZ (some g4):=by rw[q9.out];exact bt _ _ _ _
 have vz:=(fS ko (ag kW) fK).trans kW;have mV:w6.heap.size<=eZ.heap.size:=aq hgB.size lT.size;have jD:∀ k,k<w6.heap.size->k≠g4->k≠ko->eZ.heap[k]?=w6.heap[k]?:=fun k h1 h2 h3=>(fS k (aK h1 hgB.size) h2).trans (ig k h1 h3)
 have mY:KN w6 eZ:=(KN.fG pV).trans (KN.fG wF);have mX:eZ.os=w6.os/\eZ.tape=w6.tape/\eZ.output=w6.output:=⟨lT.os.trans hgB.os,lT.tape.trans hgB.tape,lT.output.trans hgB.output⟩
 rw[ja us y HN.out] at qQ
 go_end0
 have hN:=HN.out;subst hN;exact⟨⟨_,rfl⟩,t,_,_,mj.out,nL.out.next nU.out ug Db Dc uf Df jL qQ vz jD mY mX.1 mX.2.1 mX.2.2 mV⟩
theorem FG (x:Int) (m:Nat) (hm:m<9223372036854775808):∃ K:Nat,bits BinOp.and IntKind.i64 x (m:Nat)=(K:Int)/\K<=m:=by
 refine⟨(BitVec.ofInt 64 x).toNat &&& m,?_,Nat.and_le_right⟩;have h1:(BitVec.ofInt 64 x).toNat &&& m<=m:=Nat.and_le_right;have h2:m % 2 ^ 64=m:=Nat.mod_eq_of_lt (Nat.lt_trans hm (by decide))
 have h3:bits BinOp.and IntKind.i64 x (m:Nat)=IntKind.i64.wrap (((BitVec.ofInt 64 x).toNat &&& m:Nat):Int):=by
  show IntKind.i64.wrap (((BitVec.ofInt 64 x) &&& (BitVec.ofInt 64 (m:Int))).toNat:Int)=_
  rw[BitVec.ofInt_natCast,BitVec.toNat_and,BitVec.toNat_ofNat,h2]
 rw[h3,IntKind.wrap_i64];generalize (BitVec.ofInt 64 x).toNat &&& m=q at h1 ⊢
 omega
theorem rG (x:Int):∃ K:Nat,bits BinOp.and IntKind.i64 x 255=(K:Int)/\K<=255:=FG x 255 (by decide)
theorem ir.fl {w:an} {B kf kd kr ko:Nat} {x:RU} {dd op:Int} {sg:Bool} {ao:Option cH} {l c:Nat} {nm:ByteArray} {z:Int} {d:Nat} {ts:List F} {v:ay} {us:List FU} {wr:an} (h:ir w B kf kd kr ko x dd op sg ao l c nm z d ts v us wr):FL wr (fun b=>B<=b) d v ts:=by
 obtain⟨vo,vc,hv,h1,h2,h3⟩:=h.row.form;have hz:(us.zip ts).length=us.length:=by rw[List.length_zip,h.len,Nat.min_self]
 refine⟨us.zip ts,⟨vo,vc,by rw[hz];exact hv,⟨by rw[hz];exact h1,h2,h3⟩,fun _ a ha=>?_,fun i hi=>?_⟩,List.map_snd_zip (by rw[h.len];exact ak _)⟩
 ·have:=(h.row.ge (j:=a.block) (by rw[hv,ha];rfl)).1;exact this
 have rM:i<us.length:=by rw[hz] at hi;exact hi
 have vB:i<ts.length:=by rw[<-h.len];exact rM
 have ho:=h.row.own;rw[hv] at ho;rw[List.getElem_zip];exact⟨Cj fC (fun _=>rfl) rfl ho i rM,(h.tr i rM vB).mono fun b hb=>hb.1⟩
theorem ir.zero {w:an} {B kf kd kr ko:Nat} {x:RU} {dd op:Int} {sg:Bool} {ao:Option cH} {l c:Nat} {nm:ByteArray} {z:Int} {d:Nat} {wr:an} (ho:wr.heap[ko]?=some (.cells #[.int .i64 op,.bool sg,.slice ao l c,.string nm,.slice none 0 0] 29 (0,0)))
  (hf:wr.heap[kf]?=some (.cells #[.int .i64 x.o,.bool x.b,.slice x.ao x.l x.c,.string x.nm,.slice x.ko x.kl x.kc] 29 (0,0))) (hd:wr.heap[kd]?=some (.cells #[.int .i64 dd] 3 (0,0))) (hr:wr.heap[kr]?=some (.cells #[.int .i64 0,.bool false,.slice none 0 0,.string ⟨#[]⟩,.slice none 0 0] 29 (0,0)))
  (hz:CI wr (.agg #[.bool sg,.slice ao l c]) z 600) (low:kf<B/\kd<B/\kr<B/\ko<B) (N1:kf≠ko/\kd≠ko/\kr≠ko) (hi:w.heap.size<=ko) (be:aC w.heap.size w wr) (sz:B<=wr.heap.size):ir w B kf kd kr ko x dd op sg ao l c nm z d [] (.slice none 0 0) [] wr:=
 ⟨ho,hf,hd,hr,hz,El.Row.nil _ _,rfl,fun q h=>absurd h (ah q),fun t ht=>(by cases ht),low,N1,hi,be,sz⟩
theorem ir.fin {w:an} {B kf kd kr ko:Nat} {x:RU} {dd op:Int} {sg:Bool} {ao:Option cH} {l c:Nat} {nm:ByteArray} {z:Int} {d:Nat} {ts:List F} {v:ay} {us:List FU} {wr w':an} (h:ir w B kf kd kr ko x dd op sg ao l c nm z d ts v us wr) (hg:wr.grownBy w' (some kr)) (hf:Fr 29 wr w') (hop:IR op) (hB:w.heap.size<=B) (gD:w.heap.size<=kr)
  (hnm:fY op nm) (yQ:z.natAbs<aH ^ 4) (hz0:op≠0->op≠3->op≠5->z=0) (hl:ts.length<=3) (hfit:cO op z (fP ts)=true) :
  FC w' (fun b=>w.heap.size<=b) (d+1) (.agg #[.int .i64 op,.bool sg,.slice ao l c,.string nm,v]) (.node op z nm ts)/\rt (.node op z nm ts)=true/\Tm (d+1) (.node op z nm ts)/\aC w.heap.size w w':=by
 have hfl:=h.fl;obtain⟨vo,vc,hv,-⟩:=h.row.form;subst hv;have hk:=h.low.2.2.1;refine⟨FC.mk hop (h.hz.fr hf) ((hfl.grown hg (KN.fG hf) (fun b hb e=>by injection e with e;have cV:B<=b:=hb;omega)).mono fun b hb=>aq hB hb),?_,?_,aS h.be hg gD⟩
 ·rw[rt,hfit,pF,Bool.true_and,List.all_eq_true];exact fun t ht=>(h.good t ht).1
 exact⟨hnm,yQ,hz0,hl,fun t ht=>(h.good t ht).2⟩
theorem gj (v:Int) (b:UInt8) (hb:v=(b.toNat:Int)) (w:an) :
  (convert 99 9 (.slice (some ⟨w.heap.size,0,none⟩) 1 1)).run ax (w.alloc (.cells #[.int .u8 v] 5))=.ok (.string ⟨#[b]⟩) (w.alloc (.cells #[.int .u8 v] 5)):=by
 subst hb;refine run_convert_bytes_back (P:=ax) _ 99 9 5 ⟨w.heap.size,0,none⟩ 1 [b] oh lf gH ?_;intro j hj;have:j=0:=by simpa using hj
 subst this;exact cell_of_row _ _ 0 _ _ (0,0) (cy w _ _ rfl)
theorem eE {n:Nat} (h:n<1000):n<aH ^ 4:=aK h (by decide)
theorem lG (n:Nat):(((n:Nat):Int).tmod 3=0\/((n:Nat):Int).tmod 3=1\/((n:Nat):Int).tmod 3=2)/\(((n:Nat):Int).tmod 2=0\/((n:Nat):Int).tmod 2=1):=by
 rw[AS (by omega),AS (by omega)];omega
theorem CI.nat {w:an} {b:Bool} {o:Option cH} {l c:Nat} {z:Int} {k:Nat} (h:CI w (.agg #[.bool b,.slice o l c]) z k):GN w (.slice o l c) z.natAbs k:=by
 obtain⟨b',ao,l',c',n,e,hg,rfl⟩:=h.gi.shape
 simp at e
 obtain⟨rfl,rfl,rfl,rfl⟩:=e;have:(sg b n).natAbs=n:=by cases b<;>simp[sg]
 rw[this];exact hg
theorem LF {z:Int} (h:z.natAbs<aH ^ 2):((sg false z.natAbs)+1).natAbs<aH ^ 4/\1<=sg false z.natAbs+1:=by
 have e:sg false z.natAbs=(z.natAbs:Int):=rfl;rw[e];have h4:aH ^ 2+1<=aH ^ 4:=by decide
 omega
theorem Cx {o:Int} (ho:o=18\/o=19) {ts:List F} (h:∀ t ∈ ts,jh t.op=1):cO o 0 (fP ts)=true:=by
 rcases ho with rfl | rfl<;>simp[cO,bB,fP]<;>exact h
theorem ET (o0 o1 o2:Option cH) (l0 l1 l2 c0 c1 c2:Nat) (w:an):(pz 96 (.agg #[.slice o0 l0 c0,.slice o1 l1 c1,.slice o2 l2 c2]) (.int .i64 0)).run ax w=.ok (.slice o0 l0 c0) w:=by
 unfold pz;simp[go_sem,asIntOf]
theorem ES (o0 o1 o2:Option cH) (l0 l1 l2 c0 c1 c2:Nat) (w:an):(pz 96 (.agg #[.slice o0 l0 c0,.slice o1 l1 c1,.slice o2 l2 c2]) (.int .i64 1)).run ax w=.ok (.slice o1 l1 c1) w:=by
 unfold pz;simp[go_sem,asIntOf]
theorem ER (o0 o1 o2:Option cH) (l0 l1 l2 c0 c1 c2:Nat) (w:an):(pz 96 (.agg #[.slice o0 l0 c0,.slice o1 l1 c1,.slice o2 l2 c2]) (.int .i64 2)).run ax w=.ok (.slice o2 l2 c2) w:=by
 unfold pz;simp[go_sem,asIntOf]
end Go.Proofs.YtoncclhbdkjhmaaGreatDoor
