/-
 Joined texts: ScFt,ScFit,ScLg,ScMdA,ScMdB,ScMdC.
-/
import Derived.Test.YtpclhpfcbjgokaaGreatDoorJScopeChecks8
set_option maxHeartbeats 32000000
namespace Go.Proofs.YtpclhpfcbjgokaaGreatDoor
open Go.RowKit Go.Extern.Stop Go.Stop Go.Extern
set_option maxRecDepth 100000
set_option linter.unusedVariables false
theorem fault_n3 (q:Nat) (p:Nat × Nat) (w:World) (hg:ErrType w) (hA:AtB w q p (.iface 34 (.int .i64 3))) :
  Calls Tryz.prog 9 #[.iface 81 (.pointer (some ⟨q,0,none⟩))] w fun e w'=>e=.returned (.tuple #[.int .i64 3,.int .i64 (p.1:Nat),.int .i64 (p.2:Nat)])/\Below w.heap.size w w':=by
 have HG:=h_ hg;have HA:=h_ hA;clear hg hA;go_enter Tryz.func9,Tryz.ntmps9
 go_wp2_with fail
 refine (as_at q w.heap.size _ (HG.out.below ((Below.refl _ _).alloc (Nat.le_refl _) _)) (made_at w _ _ rfl)).mono ?_;rintro e w2 ⟨rfl,ht,hgr⟩
 have hA2:AtB w2 q p (.iface 34 (.int .i64 3)):=by
  have h:=HA.out;have hq:=lt_of_block h;unfold AtB at h ⊢;rw[hgr.block _ (by simp;omega) (fun e=>by injection e with e;omega),Below.heap_alloc _ _ _ hq];exact h
 have HB:Hid (Below w.heap.size w w2):=h_ (((Below.refl _ _).alloc (Nat.le_refl _) _).trans (grown_below hgr (by simp) (Nat.le_refl _)));have t0:=cell_at ht 0 rfl;have a0:=cell_at hA2 0 rfl;have a1:=cell_at hA2 1 rfl;have HA2:=h_ hA2;clear ht hgr hA2;go_wp2_with fail
 refine wp_loop_rounds 3 ?_;rw[rounds_succ];go_wp2_with fail
 refine (is_no q p 3 1 w2 HA2.out rfl).mono ?_;rintro e wx ⟨rfl,hx⟩;obtain rfl:=hx.symm;clear hx;go_wp2_with fail
 rw[rounds_succ];go_wp2_with fail
 refine (is_no q p 3 2 w2 HA2.out rfl).mono ?_;rintro e wx ⟨rfl,hx⟩;obtain rfl:=hx.symm;clear hx;go_wp2_with fail
 rw[rounds_succ];go_wp2_with fail
 refine (is_yes q p 3 3 w2 HA2.out rfl).mono ?_;rintro e wx ⟨rfl,hx⟩;obtain rfl:=hx.symm;clear hx;go_wp2_with fail
 go_quiet (fail)
 go_wp2
 go_ret3
 exact⟨rfl,HB.out.os,HB.out.tape,HB.out.output,HB.out.size,HB.out.block⟩
theorem fault_n4 (q:Nat) (p:Nat × Nat) (w:World) (hg:ErrType w) (hA:AtB w q p (.iface 34 (.int .i64 4))) :
  Calls Tryz.prog 9 #[.iface 81 (.pointer (some ⟨q,0,none⟩))] w fun e w'=>e=.returned (.tuple #[.int .i64 4,.int .i64 (p.1:Nat),.int .i64 (p.2:Nat)])/\Below w.heap.size w w':=by
 have HG:=h_ hg;have HA:=h_ hA;clear hg hA;go_enter Tryz.func9,Tryz.ntmps9
 go_wp2_with fail
 refine (as_at q w.heap.size _ (HG.out.below ((Below.refl _ _).alloc (Nat.le_refl _) _)) (made_at w _ _ rfl)).mono ?_;rintro e w2 ⟨rfl,ht,hgr⟩
 have hA2:AtB w2 q p (.iface 34 (.int .i64 4)):=by
  have h:=HA.out;have hq:=lt_of_block h;unfold AtB at h ⊢;rw[hgr.block _ (by simp;omega) (fun e=>by injection e with e;omega),Below.heap_alloc _ _ _ hq];exact h
 have HB:Hid (Below w.heap.size w w2):=h_ (((Below.refl _ _).alloc (Nat.le_refl _) _).trans (grown_below hgr (by simp) (Nat.le_refl _)));have t0:=cell_at ht 0 rfl;have a0:=cell_at hA2 0 rfl;have a1:=cell_at hA2 1 rfl;have HA2:=h_ hA2;clear ht hgr hA2;go_wp2_with fail
 refine wp_loop_rounds 4 ?_;rw[rounds_succ];go_wp2_with fail
 refine (is_no q p 4 1 w2 HA2.out rfl).mono ?_;rintro e wx ⟨rfl,hx⟩;obtain rfl:=hx.symm;clear hx;go_wp2_with fail
 rw[rounds_succ];go_wp2_with fail
 refine (is_no q p 4 2 w2 HA2.out rfl).mono ?_;rintro e wx ⟨rfl,hx⟩;obtain rfl:=hx.symm;clear hx;go_wp2_with fail
 rw[rounds_succ];go_wp2_with fail
 refine (is_no q p 4 3 w2 HA2.out rfl).mono ?_;rintro e wx ⟨rfl,hx⟩;obtain rfl:=hx.symm;clear hx;go_wp2_with fail
 rw[rounds_succ];go_wp2_with fail
 refine (is_yes q p 4 4 w2 HA2.out rfl).mono ?_;rintro e wx ⟨rfl,hx⟩;obtain rfl:=hx.symm;clear hx;go_wp2_with fail
 go_quiet (fail)
 go_wp2
 go_ret3
 exact⟨rfl,HB.out.os,HB.out.tape,HB.out.output,HB.out.size,HB.out.block⟩
theorem fault_n5 (q:Nat) (p:Nat × Nat) (w:World) (hg:ErrType w) (hA:AtB w q p (.iface 34 (.int .i64 5))) :
  Calls Tryz.prog 9 #[.iface 81 (.pointer (some ⟨q,0,none⟩))] w fun e w'=>e=.returned (.tuple #[.int .i64 5,.int .i64 (p.1:Nat),.int .i64 (p.2:Nat)])/\Below w.heap.size w w':=by
 have HG:=h_ hg;have HA:=h_ hA;clear hg hA;go_enter Tryz.func9,Tryz.ntmps9
 go_wp2_with fail
 refine (as_at q w.heap.size _ (HG.out.below ((Below.refl _ _).alloc (Nat.le_refl _) _)) (made_at w _ _ rfl)).mono ?_;rintro e w2 ⟨rfl,ht,hgr⟩
 have hA2:AtB w2 q p (.iface 34 (.int .i64 5)):=by
  have h:=HA.out;have hq:=lt_of_block h;unfold AtB at h ⊢;rw[hgr.block _ (by simp;omega) (fun e=>by injection e with e;omega),Below.heap_alloc _ _ _ hq];exact h
 have HB:Hid (Below w.heap.size w w2):=h_ (((Below.refl _ _).alloc (Nat.le_refl _) _).trans (grown_below hgr (by simp) (Nat.le_refl _)));have t0:=cell_at ht 0 rfl;have a0:=cell_at hA2 0 rfl;have a1:=cell_at hA2 1 rfl;have HA2:=h_ hA2;clear ht hgr hA2;go_wp2_with fail
 refine wp_loop_rounds 5 ?_;rw[rounds_succ];go_wp2_with fail
 refine (is_no q p 5 1 w2 HA2.out rfl).mono ?_;rintro e wx ⟨rfl,hx⟩;obtain rfl:=hx.symm;clear hx;go_wp2_with fail
 rw[rounds_succ];go_wp2_with fail
 refine (is_no q p 5 2 w2 HA2.out rfl).mono ?_;rintro e wx ⟨rfl,hx⟩;obtain rfl:=hx.symm;clear hx;go_wp2_with fail
 rw[rounds_succ];go_wp2_with fail
 refine (is_no q p 5 3 w2 HA2.out rfl).mono ?_;rintro e wx ⟨rfl,hx⟩;obtain rfl:=hx.symm;clear hx;go_wp2_with fail
 rw[rounds_succ];go_wp2_with fail
 refine (is_no q p 5 4 w2 HA2.out rfl).mono ?_;rintro e wx ⟨rfl,hx⟩;obtain rfl:=hx.symm;clear hx;go_wp2_with fail
 rw[rounds_succ];go_wp2_with fail
 refine (is_yes q p 5 5 w2 HA2.out rfl).mono ?_;rintro e wx ⟨rfl,hx⟩;obtain rfl:=hx.symm;clear hx;go_wp2_with fail
 go_quiet (fail)
 go_wp2
 go_ret3
 exact⟨rfl,HB.out.os,HB.out.tape,HB.out.output,HB.out.size,HB.out.block⟩
theorem fault_up (q:Nat) (p:Nat × Nat) (c:Nat) (h0:c≠0) (h5:c<=5) (w:World) (hg:ErrType w) (hA:AtB w q p (.iface 34 (.int .i64 (c:Nat)))) :
  Calls Tryz.prog 9 #[.iface 81 (.pointer (some ⟨q,0,none⟩))] w fun e w'=>e=.returned (.tuple #[.int .i64 (c:Nat),.int .i64 (p.1:Nat),.int .i64 (p.2:Nat)])/\Below w.heap.size w w':=by
 match c,h0,h5 with
 | 0,h0,_=>exact absurd rfl h0
 | 1,_,_=>exact fault_one q p w hg hA
 | 2,_,_=>exact fault_two q p w hg hA
 | 3,_,_=>exact fault_n3 q p w hg hA
 | 4,_,_=>exact fault_n4 q p w hg hA
 | 5,_,_=>exact fault_n5 q p w hg hA
 | c+6,_,h5=>exact absurd h5 (by omega)
end Go.Proofs.YtpclhpfcbjgokaaGreatDoor
namespace Go.Proofs.YtpclhpfcbjgokaaGreatDoor
open Go.RowKit
set_option maxRecDepth 1000000
set_option linter.unusedVariables false
def lexN:Nat->Bs->Nat × Nat->List Tok × Nat
 | 0,_,_=>([],9)
 | f+1,s,p =>
  match s.drop (gapL false s) with
  | []=>([⟨4,[],(adv p (s.take (gapL false s))).1,(adv p (s.take (gapL false s))).2⟩],0)
  | c::t =>
   match meas (c::t) with
   | .bad e=>([⟨4,[],(adv p (s.take (gapL false s))).1,(adv p (s.take (gapL false s))).2⟩],e)
   | .ok k n =>
    let q:=adv p (s.take (gapL false s))
    let r:=lexN f ((c::t).drop (n - 1+1)) (adv q ((c::t).take (n - 1+1)))
    (⟨k,(c::t).take n,q.1,q.2⟩::r.1,r.2)
theorem lexN_eq (f:Nat) (s:Bs) (p:Nat × Nat) (h:s.length<f):lexN f s p=lexS s p:=by
 induction f generalizing s p with
 | zero=>omega
 | succ f ih =>
  rw[lexS,lexN]
  cases hd:s.drop (gapL false s) with
  | nil=>simp
  | cons c t =>
   simp only[dif_neg (List.cons_ne_nil c t)]
   cases meas (c::t) with
   | bad e=>rfl
   | ok k n =>
    have hl:(c::t).length<=s.length:=by rw[<-hd,List.length_drop];omega
    simp only;rw[ih _ _ (by rw[List.length_drop];simp only[lsc] at hl ⊢;omega)]
def fitT:Bs:=[102,117,110,32,109,97,105,110,40,120,58,32,105,110,116,41,58,32,105,110,116,32,61,32,121]
def fitF:FnU:=⟨[109,97,105,110],[⟨[120],0,false,u0,1,10⟩],⟨[118],0,false,u0,1,19⟩,.node 3 [121] [] 0 1 25 [],1,5⟩
def fitR:PgU × St:=(⟨[],[fitF]⟩,⟨[⟨4,[],1,26⟩],none⟩)
theorem fit_lx:lexN 40 fitT (1,1)=([⟨3,[102,117,110],1,1⟩,⟨0,[109,97,105,110],1,5⟩,⟨2,[40],1,9⟩,⟨0,[120],1,10⟩,⟨2,[58],1,11⟩,⟨3,[105,110,116],1,13⟩,⟨2,[41],1,16⟩,⟨2,[58],1,17⟩,⟨3,[105,110,116],1,19⟩,⟨2,[61],1,23⟩,⟨0,[121],1,25⟩,⟨4,[],1,26⟩],0):=by kernel_rfl
theorem fit_c:cProg 3001 24015 ⟨[],[]⟩ ⟨[⟨3,[102,117,110],1,1⟩,⟨0,[109,97,105,110],1,5⟩,⟨2,[40],1,9⟩,⟨0,[120],1,10⟩,⟨2,[58],1,11⟩,⟨3,[105,110,116],1,13⟩,⟨2,[41],1,16⟩,⟨2,[58],1,17⟩,⟨3,[105,110,116],1,19⟩,⟨2,[61],1,23⟩,⟨0,[121],1,25⟩,⟨4,[],1,26⟩],none⟩=some fitR:=by kernel_rfl
theorem fit_st:st0 fitT=⟨[⟨3,[102,117,110],1,1⟩,⟨0,[109,97,105,110],1,5⟩,⟨2,[40],1,9⟩,⟨0,[120],1,10⟩,⟨2,[58],1,11⟩,⟨3,[105,110,116],1,13⟩,⟨2,[41],1,16⟩,⟨2,[58],1,17⟩,⟨3,[105,110,116],1,19⟩,⟨2,[61],1,23⟩,⟨0,[121],1,25⟩,⟨4,[],1,26⟩],none⟩:=by
 unfold st0;rw[<-lexN_eq 40 _ _ (by decide),fit_lx]
theorem fit_no:lexF fitT=none:=by
 unfold lexF;rw[<-lexN_eq 40 _ _ (by decide),fit_lx];rfl
theorem fit_pg:pgF fitT fitR=none:=by unfold pgF;rw[fit_no];decide
theorem fit_k:kProg fitR.1=some (3,1,25):=by kernel_rfl
theorem fit_b:PgB fitR.1/\PgDp fitR.1/\PgSz fitR.1:=by
 obtain⟨r,h1,h2⟩:=prog_told fitT (by decide);have h:=h1 fit_no;rw[fit_st,fit_c] at h;injection h with h;subst h;exact h2 fit_pg
theorem fault_er {w:World} {ev:Value} {f:Flt} (h:ErAt w ev (some f)) (h0:f.1≠0) (h5:f.1<=5) (hg:ErrType w):Calls Tryz.prog 9 #[ev] w fun e w'=>e=.returned (.tuple #[.int .i64 (f.1:Nat),.int .i64 (f.2.1:Nat),.int .i64 (f.2.2:Nat)])/\Below w.heap.size w w':=by
 obtain⟨q,rfl,hA⟩:=h;exact fault_up q (f.2.1,f.2.2) f.1 h0 h5 w hg hA
theorem fit_p (w:World) (hop:OpsAt w) (hg:ErrType w) (hA:ArT w):Calls Tryz.prog 5 #[] w fun e w'=>e=.returned (.bool true)/\Below w.heap.size w w':=by
 have HX:=h_ (parse_p 3001 24015 (by decide) fitT fitR w (by decide) hop (fun _=>by rw[fit_st];exact fit_c));have HG:=h_ hg;have HA:=h_ hA;clear hop hg hA;go_enter Tryz.func5,Tryz.ntmps5
 go_wp2_with fail
 refine HX.out.mono ?_;rintro e w1 ⟨hb,hcase⟩;rcases hcase with ⟨f,ev,hf,-,-⟩ | ⟨-,vq,vf,rfl,hp⟩
 ·rw[fit_pg] at hf;cases hf
 have HB:=h_ hb;have HP:=h_ hp;obtain⟨qs,fs,hqs,hfs,⟨qo,qc,rfl,-⟩,⟨fo,fc,rfl,-⟩⟩:=hp;have hq0:qs.length=0:=by have:=congrArg List.length hqs;simpa [fitR] using this
 have hf1:fs.length=1:=by have:=congrArg List.length hfs;simpa [fitR] using this
 rw[hq0,hf1] at HP;rw[hq0,hf1];clear hb hqs hfs hq0 hf1 HX;go_upto_region 2 with fail
 obtain⟨w2,kp,hw,hkk,hb,hs1,HBp⟩:=newb w1 #[.slice qo 0 qc,.slice fo 1 fc] 26;rw[hw,<-hkk];have HB1:=h_ hb;clear hw hkk hb hs1;obtain⟨c0,c1⟩:=cl2 HBp.out;go_wp2_with fail
 clear c0 c1;obtain⟨hb1,hb2,hb3⟩:=fit_b;refine (check_s w2 _ _ _ fitR.1 (HP.out.belowW HB1.out) hb1 hb2 hb3 (HA.out.below (HB.out.trans (HB1.out.mono HB.out.size)))).mono ?_;rintro e w3 ⟨ev,rfl,hev,hb⟩;have HB2:=h_ (HB.out.trans (HB1.out.mono HB.out.size));have HB3:=bw_ HB2 hb;rw[fit_k] at hev;have HEV:=h_ hev;clear hb hev hb1 hb2 hb3;go_wp2_with fail
 refine (fault_er HEV.out (by decide) (by decide) (HG.out.below HB3.out)).mono ?_;rintro e w4 ⟨rfl,hb⟩;have HB4:=bw_ HB3 hb;clear hb;go_wp2_with fail
 go_ret
 exact⟨rfl,HB4.out⟩
end Go.Proofs.YtpclhpfcbjgokaaGreatDoor
namespace Go.Proofs.YtpclhpfcbjgokaaGreatDoor
open Go.RowKit Go.Maps
set_option maxRecDepth 100000
set_option linter.unusedVariables false
set_option linter.unusedSimpArgs false
theorem res_cell1 {P:Program} {fn:Func} {T:Array Value} {w:World} {t:Tmp} {ty:TypeId} (hr:fn.results=#[.cell t ty]) {p:Addr} (hT:T[t]?=some (.pointer (some p))) (cs:List Value) {d:TypeDesc} (hc:∀ j v,cs[j]?=some v->w.cell? (p.add j)=some v)
  (hu:P.underlying ty=some d) (hd:d.isRow=true) (hi:(P.info? ty).map (·.size)=some cs.length):(results fn T).run P w=.ok (.agg cs.toArray) w:=by
 have hl:=run_loadCells_list (P:=P) w p cs hc
 cases hq:P.info? ty with
 | none=>simp[hq] at hi
 | some i =>
  have hs:i.size=cs.length:=by simpa [hq] using hi
  have hagg:(isAgg ty).run P w=.ok true w:=by
   unfold isAgg;rw[Sem.run_bind,run_underlying hu w]
   cases d<;>simp_all
  simp only[results,hr]
  simp[go_sem,asAddr,hT,loadVar,Sem.run_bind,hagg,sizeOf,typeInfo,hq,hs,Result.andThen]
  simp[loadCells] at hl
  rw[hl]
theorem end1 {fn:Func} {w cur:World} {kz:Nat} {a:Act} {z0 z1 z2 c0 c1 c2 Rt:Value} (hres:fn.results=#[.cell 4 36]) (HBz:Hid (cur.heap[kz]?=some (.cells #[z0,z1,z2] 36 (0,0)))) (HBW:Hid (Below w.heap.size w cur)) (hk:w.heap.size<=kz) (h:Rt=.agg #[c0,c1,c2]) (hT:a.tmps[4]?=some (.pointer (some ⟨kz,0,none⟩)):=by rfl) (hd:a.defers=[]:=by rfl) :
  bodyPost Tryz.prog fn (fun e w'=>e=.returned Rt/\Below w.heap.size w w') .ret a (((cur.setCell ⟨kz,0,none⟩ c0).setCell ⟨kz,1,none⟩ c1).setCell ⟨kz,2,none⟩ c2):=by
 obtain⟨wz,hw⟩:∃ x,x=cur.setCells kz 0 [c0,c1,c2]:=⟨_,rfl⟩
 have hg:cur.grownBy wz (some kz):=by rw[hw];exact setCells_grown _ _ _ _
 have hv:=put_same [c0,c1,c2] cur kz 0 _ _ HBz.out (Nat.le_of_ble_eq_true rfl);rw[<-hw] at hv;rw[show ((cur.setCell ⟨kz,0,none⟩ c0).setCell ⟨kz,1,none⟩ c1).setCell ⟨kz,2,none⟩ c2=wz from hw.symm];refine bodyPost_ret (v:=.agg #[c0,c1,c2]) (res_cell1 hres hT [c0,c1,c2] (fun j v hv2=>by rw[add_lit,Nat.zero_add];exact cell_at hv j (by rw[gsa];exact hv2)) Tryz.underlying36 rfl (by kernel_rfl)) hd ⟨by rw[h],?_⟩;exact⟨hg.os.trans HBW.out.os,hg.tape.trans HBW.out.tape,hg.output.trans HBW.out.output,Nat.le_trans HBW.out.size hg.size,fun i hi=>(hg.block i (by have:=HBW.out.size;omega) (fun e=>by injection e with e;omega)).trans (HBW.out.block i hi)⟩
theorem twice_l (w:World) (S:Nat->Prop) (v:Value) (ps:List PmU) (i:Nat) (hp:PmsAt w S v ps) (hi:i<ps.length) :
  Calls Tryz.prog 19 #[v,.int .i64 (i:Nat)] w fun e w'=>e=.returned (fltV (twc ps i))/\Below w.heap.size w w':=by
 obtain⟨qs,hqs,hat⟩:=hp;obtain⟨ko,kc,hv,⟨hk1,hk2⟩,-,hel⟩:=hat;subst hqs;rw[List.length_map] at hi;have HEL:=h_ hel;subst hv;have hkl:qs.length<=9223372036854775807:=Nat.le_trans hk1 hk2;clear hel hk1 hk2;have HBW:=h_ (Below.refl w.heap.size w);obtain⟨⟨a,rfl,hci⟩,-⟩:=HEL.out i hi;have HCI:=h_ hci;clear hci;obtain⟨R,hR⟩:∃ q,q=fltV (twc (qs.map Prod.fst) i):=⟨_,rfl⟩
 rw[<-hR];have HR:=h_ hR;clear hR;go_enter Tryz.func19,Tryz.ntmps19
 go_upto_region 1 with fail
 obtain⟨w1,kr,hw,hkk,hb,hs1,HBr⟩:=newb w #[.int .i64 0,.int .i64 0,.int .i64 0] 36;rw[hw,<-hkk];have hkr:w.heap.size<=kr:=by rw[hkk];exact Nat.le_refl _
 replace HBW:=bw_ HBW hb;clear hw hb hkk hs1;go_wp2_with fail
 have HNO:Hid (∀ k (hk:k<qs.length),k<0->qs[k].1.nm≠qs[i].1.nm):=h_ (fun _ _ h=>absurd h (Nat.not_lt_zero _))
 go_loopw [7] (fun kk wr=>∃ (j:Nat),kk=.int .i64 (j:Nat)/\j<=i/\Hid (∀ k (hk:k<qs.length),k<j->qs[k].1.nm≠qs[i].1.nm)/\Hid (wr.heap[kr]?=some (.cells #[.int .i64 0,.int .i64 0,.int .i64 0] 36 (0,0)))/\Hid (Below w.heap.size w wr)) (fun kk _=>i - (intOf kk).toNat)
 case atStart=>exact⟨0,rfl,Nat.zero_le _,HNO,HBr,HBW⟩
 case round =>
  obtain⟨wl,hwl⟩:∃ q,q=wr:=⟨_,rfl⟩
  subst hwl;clear HNO HBr HBW;obtain⟨j,rfl,hj,HNO,HBr,HBW⟩:=hrel
  by_cases hji:j<i
  ·have hjq:j<qs.length:=by omega
   obtain⟨⟨a2,ha2,hcj⟩,-⟩:=HEL.out j hjq;injection ha2 with ha2;subst ha2;obtain⟨y0,y1,y2,y3,y4,y5,y6,y7,y8,y9,y10,y11,y12⟩:=cells13 (w:=wl) (p:=a.add (i*13)) (q:=qs[i].1) (x:=qs[i].2) (fun q v hv=>by have:=HCI.out q v hv;rw[show (a.add (i*13)).add q=(a.add (i*pmE.n)).add q from rfl,HBW.out.cell (cell_lt this)];exact this);obtain⟨z0,z1,z2,z3,z4,z5,z6,z7,z8,z9,z10,z11,z12⟩:=cells13 (w:=wl) (p:=a.add (j*13)) (q:=qs[j].1) (x:=qs[j].2) (fun q v hv=>by have:=hcj q v hv;rw[show (a.add (j*13)).add q=(a.add (j*pmE.n)).add q from rfl,HBW.out.cell (cell_lt this)];exact this);obtain⟨pi,hpi⟩:∃ q,q=qs[i].1:=⟨_,rfl⟩
   obtain⟨pj,hpj⟩:∃ q,q=qs[j].1:=⟨_,rfl⟩
   rw[<-hpi] at y0 y11 y12;rw[<-hpj] at z0;have HPI:=h_ hpi;have HPJ:=h_ hpj;clear hcj hpi hpj y1 y2 y3 y4 y5 y6 y7 y8 y9 y10 z1 z2 z3 z4 z5 z6 z7 z8 z9 z10 z11 z12;have hij:j<i:=hji;go_upto_region 4 with fail
   by_cases hm:pj.nm=pi.nm
   ·have hmb:(pj.nm==pi.nm)=true:=by rw[hm];exact beq_self_eq_true _
    have HM:=h_ hm;clear hm;have HY11:=h_ y11;have HY12:=h_ y12
    go_quiet (fail)
    obtain⟨w2,hwq⟩:∃ q,q=wl.drewN nq:=⟨_,rfl⟩
    have hb:Below wl.heap.size wl w2:=by rw[hwq];exact below_drewN' _ _ _
    rw[<-hwq];clear hwq;replace HBr:=kB hb HBr;replace HBW:=bw_ HBW hb;replace HY11:=h_ ((hb.cell (cell_lt HY11.out)).trans HY11.out);replace HY12:=h_ ((hb.cell (cell_lt HY12.out)).trans HY12.out);clear hb;clear hmb;clear y0 y11 y12 z0;go_upto_region 5 with fail
    refine R7.r0 [[],[],[0,1],[0,1,2],[0,1,2,3],[],[],[5,6],[5,6,7],[5,6,7,8],[0,1,2,3,4,5,6,7,8,9],[0,1,2,3,4,5,6,7,8,9,10]] 11 ?_;refine R7.cd ?_ (fun T xs wr hA=>?_) ?_
    rotate_left
    ·have e0:=hA.pq 0;simp only[gsa,gsz] at e0;clear hA;go_simp<;>(try with_reducible rfl)
    refine R7.cd ?_ (fun T xs wr hA=>?_) ?_
    rotate_left
    ·have e1:=hA.pq 1;simp only[gsa,gsc,gsz] at e1;clear hA;go_simp<;>(try with_reducible rfl)
    refine R7.cd ?_ (fun T xs wr hA=>?_) ?_
    rotate_left
    ·have e21:=tr_ (hA.tq 0 21) (hA.fq 0);have e22:=tr_ (hA.tq 1 22) (hA.fq 1)
     (try simp (disch:=decide) only [R7.mi] at e21 e22)
     clear hA;go_simp<;>(try with_reducible rfl)
    refine R7.cd ?_ (fun T xs wr hA=>?_) ?_
    rotate_left
    ·have e23:=tr_ (hA.tq 2 23) (hA.fq 2)
     (try simp (disch:=decide) only [R7.mi] at e23)
     clear hA;go_simp<;>(try with_reducible rfl)
    refine R7.cd ?_ (fun T xs wr hA=>?_) ?_
    rotate_left
    ·have e24:=tr_ (hA.tq 3 24) (hA.fq 3)
     (try simp (disch:=decide) only [R7.mi] at e24)
     have hbz:=undrew (hA.be w2.heap.size (Nat.le_refl _) (fun q h=>absurd h (Nat.not_lt_zero _)));have hcz:=(hbz.cell (cell_lt HY11.out)).trans HY11.out;clear hbz;clear hA;go_simp<;>(try with_reducible rfl)
    refine R7.cd ?_ (fun T xs wr hA=>?_) ?_
    rotate_left
    ·have e0:=hA.pq 0;simp only[gsa,gsz] at e0;clear hA;go_simp<;>(try with_reducible rfl)
    refine R7.cd ?_ (fun T xs wr hA=>?_) ?_
    rotate_left
    ·have e1:=hA.pq 1;simp only[gsa,gsc,gsz] at e1;clear hA;go_simp<;>(try with_reducible rfl)
    refine R7.cd ?_ (fun T xs wr hA=>?_) ?_
    rotate_left
    ·have e26:=tr_ (hA.tq 5 26) (hA.fq 5);have e27:=tr_ (hA.tq 6 27) (hA.fq 6)
     (try simp (disch:=decide) only [R7.mi] at e26 e27)
     clear hA;go_simp<;>(try with_reducible rfl)
    refine R7.cd ?_ (fun T xs wr hA=>?_) ?_
    rotate_left
    ·have e28:=tr_ (hA.tq 7 28) (hA.fq 7)
     (try simp (disch:=decide) only [R7.mi] at e28)
     clear hA;go_simp<;>(try with_reducible rfl)
    refine R7.cd ?_ (fun T xs wr hA=>?_) ?_
    rotate_left
    ·have e29:=tr_ (hA.tq 8 29) (hA.fq 8)
     (try simp (disch:=decide) only [R7.mi] at e29)
     have hbz:=undrew (hA.be w2.heap.size (Nat.le_refl _) (fun q h=>absurd h (Nat.not_lt_zero _)));have hcz:=(hbz.cell (cell_lt HY12.out)).trans HY12.out;clear hbz;clear hA;go_simp<;>(try with_reducible rfl)
    refine R7.cd ?_ (fun T xs wr hA=>?_) ?_
    rotate_left
    ·have e25:=tr_ (hA.tq 4 25) (hA.fq 4);have e30:=tr_ (hA.tq 9 30) (hA.fq 9)
     (try simp (disch:=decide) only [R7.mi] at e25 e30)
     clear hA;go_simp<;>(try with_reducible rfl)
    refine R7.Chain.done (fun xs w3 hL=>?_);obtain⟨⟨hbe,hbl⟩,hf,-,-⟩:=hL;have f0:xs 0=_:=hf 0 (by decide);have f1:xs 1=_:=hf 1 (by decide);have f2:xs 2=_:=hf 2 (by decide);have f3:xs 3=_:=hf 3 (by decide);have f4:xs 4=_:=hf 4 (by decide);have f5:xs 5=_:=hf 5 (by decide);have f6:xs 6=_:=hf 6 (by decide);have f7:xs 7=_:=hf 7 (by decide);have f8:xs 8=_:=hf 8 (by decide);have f9:xs 9=_:=hf 9 (by decide);have f10:xs 10=_:=hf 10 (by decide)
    (try simp (disch:=decide) only [R7.mi] at f0 f1 f2 f3 f4 f5 f6 f7 f8 f9 f10)
    have hb:Below w2.heap.size w2 w3:=R7.b0_ hbe;clear hbe hbl hf;refine R7.rest_list (by decide) (by kernel_rfl) ?_;simp only[R7.fill,t1_,t2_,t3_,t4_,t5_,t6_,t7_,f0,f1,f2,f3,f4,f5,f6,f7,f8,f9,f10];clear  f0 f1 f2 f3 f4 f5 f6 f7 f8 f9 f10;replace HBr:=kB hb HBr;replace HBW:=bw_ HBW hb;replace HY11:=h_ ((hb.cell (cell_lt HY11.out)).trans HY11.out);replace HY12:=h_ ((hb.cell (cell_lt HY12.out)).trans HY12.out);clear hb;obtain⟨r0,r1,r2⟩:=cl3 HBr.out;obtain⟨fr0,fr1,fr2⟩:=fr3 HBr.out;go_wp2_with fail
    clear r0 fr0 r1 fr1 r2 fr2;exact end1 Tryz.results19 HBr HBW hkr (by rw[HR.out,twc_hit (k:=j) (by rw[List.length_map];exact hi) (by rw[List.length_map];omega) hij (by rw[List.getElem_map,List.getElem_map,<-HPI.out,<-HPJ.out];exact HM.out),List.getElem_map,<-HPI.out];rfl)
   have hmb:(pj.nm==pi.nm)=false:=beq_eq_false_iff_ne.2 hm;have HM:=h_ hm;clear hm
   go_quiet (fail)
   obtain⟨w2,hwq⟩:∃ q,q=wl.drewN nq:=⟨_,rfl⟩
   have hb:Below wl.heap.size wl w2:=by rw[hwq];exact below_drewN' _ _ _
   rw[<-hwq];clear hwq;replace HBr:=kB hb HBr;replace HBW:=bw_ HBW hb;clear hb;go_wp2_with fail
   go_roundw
   case rel=>exact⟨j+1,by go_num,hij,h_ (fun k hk h=>by
    rcases Nat.lt_succ_iff_lt_or_eq.1 h with h | h
    ·exact HNO.out k hk h
    subst h;rw[<-HPI.out,<-HPJ.out];exact HM.out),HBr,HBW⟩
   case measure=>simp[intOf];omega
  have hjj:j=i:=by omega
  subst hjj;clear hji;obtain⟨r0,r1,r2⟩:=cl3 HBr.out;obtain⟨fr0,fr1,fr2⟩:=fr3 HBr.out;go_wp2_with fail
  clear r0 fr0 r1 fr1 r2 fr2;exact end1 Tryz.results19 HBr HBW hkr (by rw[HR.out,twc_miss (by rw[List.length_map];exact hi) (fun k hk h=>by rw[List.getElem_map,List.getElem_map];exact HNO.out k (by rw[List.length_map] at hk;exact hk) h)];rfl)
def inE:El Nat where
 e:=3
 n:=1
 f b:=[.int .i64 (b:Nat)]
 R _ _ _:=True
 pos:=by decide
 len _:=rfl
 one b:=by
  intro u hu;simp only[List.mem_cons,List.not_mem_nil,or_false] at hu;subst hu;rfl
 keep _ _:=trivial
 mono _ _:=trivial
 lt _:=trivial
 noAt:=by decide
theorem infoIntN:(Tryz.prog.info? 3).map (fun i=>(i.zero,i.size,i.bytes))=some (some (.int .i64 0),1,8):=by kernel_rfl
theorem row_get {w:World} {B:Nat} {S:Nat->Prop} {v:Value} {t:List Nat} (h:inE.Row w B S v t) (h0:0<t.length):∃ a c,v=.slice (some a) t.length c/\∀ i (hi:i<t.length),w.cell? (a.add i)=some (.int .i64 (t[i]:Nat)):=by
 obtain⟨ko,kc,rfl,-,-,h3⟩:=h.at (S':=fun _=>True) (fun _ _=>trivial) (fun _ _=>trivial);obtain⟨⟨a,rfl,-⟩,-⟩:=h3 0 h0;refine⟨a,kc,rfl,fun i hi=>?_⟩;obtain⟨⟨b,hb,h4⟩,-⟩:=h3 i hi;injection hb with hb;subst hb;have:=h4 0 _ rfl;rw[addr_add_add] at this
 simpa [inE] using this
theorem row_first {w:World} {B:Nat} {S:Nat->Prop} {tv:Value} {t:List Nat} {a:Addr} {c t0:Nat} (h:inE.Row w B S tv t) (hv:tv=.slice (some a) t.length c) (ht:t=[t0]):w.cell? a=some (.int .i64 (t0:Nat)):=by
 subst ht;obtain⟨b,c2,he,h2⟩:=row_get h (by simp);rw[hv] at he;injection he with he;injection he with he;subst he;have:=h2 0 (by simp);rw[addr_add0] at this;exact this
def AskOk (F:Fs) (rf:Bool) (w0:World) (vf:Value) (u:U):Prop:=∀ (x:X) (S S2:Nat->Prop) (w:World) (vl:Value) (ps:List PmU),Um w0 S x u->Bnd u->Below w0.heap.size w0 w->PmsAt w S2 vl ps->ps.length+2*ud u<=700000000000 ->
  Calls Tryz.prog 13 #[xv x,vl,vf,.bool rf] w fun e w'=>e=.returned (.tuple #[.int .i64 (arT (aB F rf u (lkp ps)):Nat),fltV (arF (aB F rf u (lkp ps)))])/\Below w.heap.size w w'
theorem akRun_cons (F:Fs) (rf:Bool) (k:Nat) (nm ot:Bs) (ln cl:Nat) (l:Sc) (ks:List U) (j:Nat) (hj:j<ks.length) (t:List Nat):akRun F rf k nm ot ln cl l j (ks.drop j) t=match aB F rf ks[j] (akIn k nm ot j t l) with
  | .error e=>.error e
  | .ok b=>if 0<j\/k<26 then akRun F rf k nm ot ln cl l (j+1) (ks.drop (j+1)) (t++[b])
   else match akChk rf k nm ot ln cl b l with
    | some e=>.error e
    | none=>akRun F rf k nm ot ln cl l (j+1) (ks.drop (j+1)) (t++[b]):=by
 rw[List.drop_eq_getElem_cons hj,akRun];generalize aB F rf ks[j] (akIn k nm ot j t l)=r
 cases r with
 | error e=>rfl
 | ok b=>rfl
theorem ak_err {F:Fs} {rf:Bool} {k:Nat} {nm ot:Bs} {z ln cl:Nat} {ks:List U} {l:Sc} (hk:k<29) (ha:k=24\/ks.length=ar k) {e:Flt} (h:akRun F rf k nm ot ln cl l 0 ks []=.error e):aB F rf (.node k nm ot z ln cl ks) l=.error e:=by
 rw[<-ak_all F rf k nm ot z ln cl ks l hk ha];unfold akAll;rw[h]
theorem ak_fin {F:Fs} {rf:Bool} {k:Nat} {nm ot:Bs} {z ln cl:Nat} {ks:List U} {l:Sc} (hk:k<29) (ha:k=24\/ks.length=ar k) {t:List Nat} (h:akRun F rf k nm ot ln cl l 0 ks []=.ok t):aB F rf (.node k nm ot z ln cl ks) l=akFin F rf k nm ln cl (posU (ks.getD 1 u0)) t l:=by
 rw[<-ak_all F rf k nm ot z ln cl ks l hk ha];unfold akAll;rw[h]
theorem tb0 {k:Nat}:tabBad k []=false:=by unfold tabBad;simp
theorem tb1 {k a:Nat}:tabBad k [a]=(((a:Nat):Int) != (tabL k).1):=by unfold tabBad;simp
theorem tb2 {k a b:Nat}:tabBad k [a,b]=((((a:Nat):Int) != (tabL k).1) || (((b:Nat):Int) != (tabL k).2.1)):=by unfold tabBad;simp
theorem op_bad {rf ps:Bool} {k ln cl:Nat} {t:List Nat} (h:decide (t≠(sig k).1)=true):aOp rf k ln cl ps t=.error (4,ln,cl):=by unfold aOp;rw[if_pos (of_decide_eq_true h)]
theorem op_hd {ps:Bool} {k ln cl:Nat} {t:List Nat} (h:decide (t≠(sig k).1)=false) (hk:k=8\/k=9):aOp false k ln cl ps t=.error (1,ln,cl):=by unfold aOp;rw[if_neg (of_decide_eq_false h),if_pos ⟨hk,rfl⟩]
theorem op_div {rf ps:Bool} {k ln cl:Nat} {t:List Nat} (h:decide (t≠(sig k).1)=false) (hk:k=13\/k=14) (hp:ps=false):aOp rf k ln cl ps t=.error (1,ln,cl):=by unfold aOp;rw[if_neg (of_decide_eq_false h),if_neg (fun h=>by omega),if_pos ⟨hk,hp⟩]
theorem op_ok {rf ps:Bool} {k ln cl:Nat} {t:List Nat} (h:decide (t≠(sig k).1)=false) (h1:k=8\/k=9->rf=true) (h2:k=13\/k=14->ps=true):aOp rf k ln cl ps t=.ok (sig k).2:=by
 unfold aOp;rw[if_neg (of_decide_eq_false h),if_neg (fun h=>by rw[h1 h.1] at h;exact absurd h.2 (by decide)),if_neg (fun h=>by rw[h2 h.1] at h;exact absurd h.2 (by decide))]
theorem posU_one {w:World} {S:Nat->Prop} {y:X} {u:U} (h:Um w S y u):posU u=(y.k==0 && !(((y.n:Nat):Int)==0)):=by
 obtain⟨k,nm,ot,z,ln,cl,ks⟩:=u;rw[Um] at h;obtain⟨⟨e1,-⟩,⟨h2,-⟩,-⟩:=h;rw[e1];unfold posU;have hn:=sl_len h2
 have hz:(((y.n:Nat):Int)==0) = !decide (0<z):=by
  rw[hn]
  by_cases h0:0<z
  ·rw[decide_eq_true h0];have:=dig_len_pos h0;rw[Bool.not_true,beq_eq_false_iff_ne];omega
  rw[decide_eq_false h0,show z=0 from by omega,dig_zero];rfl
 rw[hz,Bool.not_not]
 show (k==0 && decide (0<z))=_
 rw[show (((k:Nat):Int)==0)=(k==0) from by rw[Bool.eq_iff_iff,beq_iff_eq,beq_iff_eq];omega]
theorem ask_end {w cur:World} {kz:Nat} {a:Act} {z0 z1 z2 c0 c1 c2 tv Rt:Value} {P:Program} (hP:P=Tryz.prog:=by rfl) (HBz:Hid (cur.heap[kz]?=some (.cells #[z0,z1,z2] 36 (0,0)))) (HBW:Hid (Below w.heap.size w cur)) (hk:w.heap.size<=kz) (h:Rt=.tuple #[tv,.agg #[c0,c1,c2]]) (hT:a.tmps[9]?=some (.pointer (some ⟨kz,0,none⟩)):=by rfl) (ht:a.tmps.getD 8 undef=tv:=by rfl) (hd:a.defers=[]:=by rfl) :
  bodyPost P Tryz.f13 (fun e w'=>e=.returned Rt/\Below w.heap.size w w') .ret a (((cur.setCell ⟨kz,0,none⟩ c0).setCell ⟨kz,1,none⟩ c1).setCell ⟨kz,2,none⟩ c2):=by
 subst hP;obtain⟨wz,hw⟩:∃ x,x=cur.setCells kz 0 [c0,c1,c2]:=⟨_,rfl⟩
 have hg:cur.grownBy wz (some kz):=by rw[hw];exact setCells_grown _ _ _ _
 have hv:=put_same [c0,c1,c2] cur kz 0 _ _ HBz.out (Nat.le_of_ble_eq_true rfl);rw[<-hw] at hv;rw[show ((cur.setCell ⟨kz,0,none⟩ c0).setCell ⟨kz,1,none⟩ c1).setCell ⟨kz,2,none⟩ c2=wz from hw.symm];refine bodyPost_ret (v:=.tuple #[tv,.agg #[c0,c1,c2]]) (by rw[<-ht];exact res_cell3 Tryz.results13 hT [c0,c1,c2] (fun j v hv2=>by rw[add_lit,Nat.zero_add];exact cell_at hv j (by rw[gsa];exact hv2)) Tryz.underlying36 rfl (by kernel_rfl)) hd ⟨by rw[h],?_⟩;exact⟨hg.os.trans HBW.out.os,hg.tape.trans HBW.out.tape,hg.output.trans HBW.out.output,Nat.le_trans HBW.out.size hg.size,fun i hi=>(hg.block i (by have:=HBW.out.size;omega) (fun e=>by injection e with e;omega)).trans (HBW.out.block i hi)⟩
theorem fnd_none {fs:List Fd} {nm:Bs} (h:∀ i (hi:i<fs.length),fs[i].q.nm≠nm):fndF (fs.map Fd.q) nm=none:=by
 unfold fndF
 rw[List.find?_eq_none.2 (by
  intro f hf;obtain⟨d,hd,rfl⟩:=List.mem_map.1 hf;obtain⟨i,hi,rfl⟩:=List.mem_iff_getElem.1 hd
  simpa using h i hi)]
 rfl
theorem fnd_some {fs:List Fd} {nm:Bs} {j:Nat} (hj:j<fs.length) (h:∀ i (hi:i<fs.length),i<j->fs[i].q.nm≠nm) (hm:fs[j].q.nm=nm):fndF (fs.map Fd.q) nm=some (sigF fs[j].q):=by
 unfold fndF
 have e:(fs.map Fd.q).find? (·.nm==nm)=some fs[j].q:=by
  rw[List.find?_eq_some_iff_append];refine⟨by simpa using hm,(fs.map Fd.q).take j,(fs.map Fd.q).drop (j+1),?_,?_⟩
  ·have h1:j<(fs.map Fd.q).length:=by rw[List.length_map];exact hj
   have h2:=List.take_append_drop j (fs.map Fd.q);rw[List.drop_eq_getElem_cons h1,List.getElem_map] at h2;exact h2.symm
  intro a ha;obtain⟨i,hi,rfl⟩:=List.mem_iff_getElem.1 ha;rw[List.length_take,List.length_map] at hi;rw[List.getElem_take,List.getElem_map]
  simpa using h i (by omega) (by omega)
 rw[e];rfl
theorem call_none {F:Fs} {nm:Bs} {ln cl:Nat} {t:List Nat} (h:F nm=none):aCall F false nm ln cl t=.error (3,ln,cl):=by unfold aCall;rw[h];rfl
theorem call_bad {F:Fs} {nm:Bs} {ln cl:Nat} {t:List Nat} {q:FnU} (h:F nm=some (sigF q)) (hn:t≠q.ps.map PmU.b):aCall F false nm ln cl t=.error (4,ln,cl):=by unfold aCall;rw[h];simp only[Bool.false_eq_true,if_false];exact if_neg hn
theorem call_ok {F:Fs} {nm:Bs} {ln cl:Nat} {t:List Nat} {q:FnU} (h:F nm=some (sigF q)) (hn:t=q.ps.map PmU.b):aCall F false nm ln cl t=.ok q.res.b:=by unfold aCall;rw[h];simp only[Bool.false_eq_true,if_false];exact if_pos hn
theorem aIf_ref {ln cl:Nat} {t:List Nat}:aIf true ln cl t=.error (1,ln,cl):=by unfold aIf;rfl
theorem aIf_ok {ln cl t0 t1 t2:Nat} (h0:t0=1) (h:t1=t2):aIf false ln cl [t0,t1,t2]=.ok t2:=by unfold aIf;subst h0;subst h;simp
theorem aIf_no {ln cl t0 t1 t2:Nat} (h:¬ t0=1\/¬ t1=t2):aIf false ln cl [t0,t1,t2]=.error (4,ln,cl):=by unfold aIf;simp only[Bool.false_eq_true,if_false];exact if_pos h
theorem akIn_no {k:Nat} {nm ot:Bs} {j:Nat} {t:List Nat} {l:Sc} (h1:¬ (j=1/\k=26)) (h2:¬ (j=2/\k=27)):akIn k nm ot j t l=l:=by
 unfold akIn;rw[if_neg (fun h=>h1 ⟨h.1,h.2.2⟩),if_neg h2]
theorem akIn_let {nm ot:Bs} {t0:Nat} {l:Sc}:akIn 26 nm ot 1 [t0] l=l.put nm t0:=by unfold akIn;rw[if_pos ⟨rfl,rfl,rfl⟩];rfl
theorem akIn_match {nm ot:Bs} {t:List Nat} {l:Sc}:akIn 27 nm ot 2 t l=(l.put nm 0).put ot 2:=by unfold akIn;rw[if_neg (by omega),if_pos ⟨rfl,rfl⟩]
theorem ud_kid2 {ks:List U} {j:Nat} (h:j<ks.length):ud ks[j]<=uds ks:=uds_mem (List.getElem_mem h)
theorem ask_A (F:Fs) (rf:Bool) (w0:World) (vf:Value) (hF:rf=true\/∃ SF fs,fnE.At w0 SF vf fs/\F=fndF (fs.map Fd.q)) (x:X) (u:U) (S S2:Nat->Prop) (w:World) (vl:Value) (ps:List PmU) (hu:Um w0 S x u) (hb:Bnd u) (hkm:u.ks.length<=1000000) (hK:∀ j (h:j<u.ks.length),AskOk F rf w0 vf u.ks[j]) (hbw:Below w0.heap.size w0 w) (hp:PmsAt w S2 vl ps) (hn:ps.length+2*ud u<=700000000000) (hkd:u.k=26) :
  Calls Tryz.prog 13 #[xv x,vl,vf,.bool rf] w fun e w'=>e=.returned (.tuple #[.int .i64 (arT (aB F rf u (lkp ps)):Nat),fltV (arF (aB F rf u (lkp ps)))])/\Below w.heap.size w w':=by
 obtain⟨k,nm,ot,z,ln,cl,ks⟩:=u;have HBN:=h_ hb;have HKND:Hid (k=26):=h_ hkd;rw[Um] at hu;obtain⟨⟨e1,e2,e3,e4,e5,e6⟩,⟨h2,h3⟩,⟨h4,h5,h6⟩,h7⟩:=hu;obtain⟨xk,xnm,xot,xb,xao,xn,xq,xko,xkn,xkc,xln,xcl⟩:=x;simp only at e1 e2 e3 e4 e5 e6 h2 h3 h4 h5 h6 h7;have HK:=h_ (fun j (hj:j<ks.length)=>ums_get 0 j h7 hj);have HSL:=h_ h2;rw[Bnd] at hb;have HNM:Hid (nm.length<=3000):=h_ hb.2.1.1;have HAR:=h_ hb.1;have HZB:=h_ hb.2.1.2.2;have HKS:=h_ (fun j (hj:j<ks.length)=>bnds_mem hb.2.2.2 (List.getElem_mem hj));have HKB:Hid (∀ j (h:j<ks.length),AskOk F rf w0 vf ks[j]):=h_ hK;rw[ud] at hn;have HNN:=h_ hn;have HKM:Hid (ks.length<=1000000):=h_ hkm;have HB0:=h_ hbw;have HPS:=h_ hp;have HFN:=h_ hF;have hkl:ks.length<=9223372036854775807:=by rw[<-h4];exact Nat.le_trans h5.1 h5.2
 have HLEN:Hid (ks.length=2):=h_ (by have h:=HAR.out.2;have hk:=HKND.out;subst hk;rcases h with h | h;omega;exact h);clear h7 hb h2 h3 h5 h6 hK hn hkm hbw hp hF hkd;subst e1 e2 e3 e4 e5 e6;subst h4;simp only[xv];have hmf:∀ (fn:Fn) (first cap:Array Value) (w:World),(Instr.makeFunc fn first cap).run Tryz.prog w=.ok (.func fn first cap) w:=fun _ _ _ _=>rfl
 obtain⟨R,hR⟩:∃ q,q=aB F rf (.node k nm ot z ln cl ks) (lkp ps):=⟨_,rfl⟩
 rw[<-hR];have HR:=h_ hR;clear hR;have HBW:=h_ (Below.refl w.heap.size w);go_enter Tryz.func13,Tryz.ntmps13
 go_upto_region 1 with fail
 obtain⟨w1,ke,hw,hkk,hb,hs1,HBe⟩:=newb w #[.int .i64 (k:Nat),.string ⟨nm.toArray⟩,.string ⟨ot.toArray⟩,.bool false,.slice xao xn xq,.slice xko ks.length xkc,.int .i64 (ln:Nat),.int .i64 (cl:Nat)] 48;rw[hw,<-hkk,<-hs1];replace HBW:=bw_ HBW hb;have hke:w.heap.size<=ke:=by rw[hkk];exact Nat.le_refl _
 clear hw hb hkk hs1;obtain⟨w2,kz,hw,hkk,hb,hs1,HBz⟩:=newb w1 #[.int .i64 0,.int .i64 0,.int .i64 0] 36;have he_z:=lk_ hkk HBe;rw[hw,<-hkk];replace HBe:=kB hb HBe;replace HBW:=bw_ HBW hb;have hkz:w.heap.size<=kz:=by rw[hkk];have:=HBW.out.size;omega
 clear hw hb hkk hs1;obtain⟨c0,c1,c2,c3,c4,c5,c6,c7⟩:=cl8 HBe.out;go_wp2_with fail
 clear hmf;clear c0 c1 c2 c3 c4 c5 c6 c7;have HRW:Hid (inE.Row w2 (kz+1) (fun _=>False) (.slice none 0 0) []):=h_ (El.Row.nil _ _ _);have HA0:Hid (akRun F rf k nm ot ln cl (lkp ps) 0 (ks.drop 0) []=akRun F rf k nm ot ln cl (lkp ps) 0 ks []):=h_ rfl
 go_loopw [27,11] (fun i tv wr=>∃ (j:Nat) (tj:List Nat),i=.int .i64 (j:Nat)/\j<=ks.length/\Hid (tj.length=j)/\Hid (inE.Row wr (kz+1) (fun _=>False) tv tj)/\Hid (wr.heap[ke]?=some (.cells #[.int .i64 (k:Nat),.string ⟨nm.toArray⟩,.string ⟨ot.toArray⟩,.bool false,.slice xao xn xq,.slice xko ks.length xkc,.int .i64 (ln:Nat),.int .i64 (cl:Nat)] 48 (0,0)))/\Hid (wr.heap[kz]?=some (.cells #[.int .i64 0,.int .i64 0,.int .i64 0] 36 (0,0)))/\Hid (Below w.heap.size w wr)/\Hid (akRun F rf k nm ot ln cl (lkp ps) j (ks.drop j) tj=akRun F rf k nm ot ln cl (lkp ps) 0 ks [])) (fun i _ _=>ks.length - (intOf i).toNat)
 case atStart=>exact⟨0,[],rfl,Nat.zero_le _,h_ rfl,HRW,HBe,HBz,HBW,HA0⟩
 case round =>
  obtain⟨wl,hwl⟩:∃ q,q=wr:=⟨_,rfl⟩
  subst hwl;clear HRW HBe HBz HBW HA0;obtain⟨j,tj,rfl,hj,HTL,HRW,HBe,HBz,HBW,HAK⟩:=hrel;have hez:ke<wl.heap.size:=lt_of_block HBe.out;have hzl:kz<wl.heap.size:=lt_of_block HBz.out
  by_cases hi:j<ks.length
  ·have hcons:=akRun_cons F rf k nm ot ln cl (lkp ps) ks j hi tj;rw[HAK.out] at hcons;have HCO:Hid (_=_):=h_ hcons.symm;clear hcons;obtain⟨y,⟨a,rfl,hy⟩,hU⟩:=HK.out j hi;have hbw0:Below w0.heap.size w0 wl:=HB0.out.trans (HBW.out.mono HB0.out.size);obtain⟨z0,z1,z2,z3,z4,z5,z6,z7⟩:=cells8 (w:=wl) (p:=a.add (j*8)) (y:=y) (fun q v hv=>by have:=hy q v hv;rw[Nat.zero_add] at this;rw[hbw0.cell (cell_lt this)];exact this);have HU:=h_ hU;clear hy hU hbw0;obtain⟨c0,c1,c2,c3,c4,c5,c6,c7⟩:=cl8 HBe.out;go_upto_region 7 with fail
   clear c0 c1 c2 c3 c4 c5 c6 c7 z0 z1 z2 z3 z4 z5 z6 z7;obtain⟨w3,kd,hw,hkk,hb,hs1,HBd⟩:=newb wl #[.int .i64 y.k,.string y.nm,.string y.ot,.bool y.b,.slice y.ao y.n y.c,.slice y.ko y.kn y.kc,.int .i64 y.ln,.int .i64 y.cl] 48;have he_d:=lk_ hkk HBe;have hz_d:=lk_ hkk HBz;rw[hw,<-hkk];replace HBe:=kB hb HBe;replace HBz:=kB hb HBz;replace HBW:=bw_ HBW hb;replace HRW:=h_ (HRW.out.below hb);clear hw hb hkk hs1;have HPV:Hid (PmsAt w3 (fun _=>True) vl ps):=h_ ((HPS.out.below (HBW.out)).mono (fun _ _=>trivial));have hor:j=0\/j=1:=by have h1:=HKND.out;have h2:=HLEN.out;have h3:=HAR.out.1;omega
   rcases hor with hj | hj
   focus
    have qj1:(((j:Nat):Int)==1)=false:=by rw[beq_eq_false_iff_ne];omega
    have qj2:(((j:Nat):Int)==2)=false:=by rw[beq_eq_false_iff_ne];omega
    have HJ:Hid (j=0):=h_ hj;clear hj;obtain⟨c0,c1,c2,c3,c4,c5,c6,c7⟩:=cl8 HBe.out;go_upto_region 11 with fail
    clear qj1 qj2 ;clear c0 c1 c2 c3 c4 c5 c6 c7;have HPI:Hid (PmsAt w3 (fun _=>True) vl ps):=HPV;obtain⟨pin,hpin⟩:∃ z,z=ps:=⟨_,rfl⟩
    have HPJ:Hid (PmsAt w3 (fun _=>True) vl pin):=h_ (by rw[hpin];exact HPI.out);clear HPI;have HPI:=HPJ;clear HPJ;have HLK:Hid (lkp pin=akIn k nm ot j tj (lkp ps)):=h_ (by rw[hpin];rw[akIn_no (fun h=>by have:=HJ.out;omega) (fun h=>by have:=HJ.out;omega)]);have HNP:Hid (pin.length+2*ud ks[j]<=700000000000):=h_ (by rw[hpin];have:=ud_kid2 (ks:=ks) (j:=j) hi;have:=HNN.out;(try simp only[lsa,List.length_singleton]);omega);clear hpin;obtain⟨wa,hwa⟩:∃ z,z=w3:=⟨_,rfl⟩
    subst hwa
   rotate_left
   focus
    have qj1:(((j:Nat):Int)==1)=true:=by rw[beq_iff_eq];omega
    have qj2:(((j:Nat):Int)==2)=false:=by rw[beq_eq_false_iff_ne];omega
    have HJ:Hid (j=1):=h_ hj;clear hj;obtain⟨ta,tc,htv,htc⟩:=row_get HRW.out (by rw[HTL.out,HJ.out];decide);have HTV:=h_ htv;clear htc;obtain⟨t0,ht0⟩:∃ t0,tj=[t0]:=by have h:=HTL.out;rw[HJ.out] at h;match tj,h with | [t0],_=>exact⟨t0,rfl⟩
    have HT0:=h_ ht0;clear ht0;have ql:(((tj.length:Nat):Int)==1)=true:=by rw[HTL.out,HJ.out];rfl
    subst htv;have hk:=HKND.out;have q26:(((k:Nat):Int)==26)=true:=by rw[beq_iff_eq];omega
    have HKK:=h_ hk;clear hk;obtain⟨c0,c1,c2,c3,c4,c5,c6,c7⟩:=cl8 HBe.out;go_upto_region 8 with fail
    clear qj1 qj2 ql q26;clear c0 c1 c2 c3 c4 c5 c6 c7;have hc0:w3.cell? ta=some (.int .i64 (t0:Nat)):=row_first HRW.out HTV.out HT0.out;have HC0:=h_ hc0;clear hc0;have hI0:(0:Int)<((tj.length:Nat):Int):=by rw[HTL.out,HJ.out];decide
    have hI1:0<tj.length:=by rw[HTL.out,HJ.out];decide
    have hlt_e:=lt_of_block HBe.out;refine R7.r0 [[],[],[1],[],[3],[3,4],[0,1,2,3,4,5],[0,1,2,3,4,5,6]] 7 ?_;refine R7.cd ?_ (fun T xs wr hA=>?_) ?_
    rotate_left
    ·have e1:=hA.pq 1;simp only[gsa,gsc,gsz] at e1;clear hA;go_simp<;>(try with_reducible rfl)
    refine R7.cd ?_ (fun T xs wr hA=>?_) ?_
    rotate_left
    ·have e4:=hA.pq 4;simp only[gsa,gsc,gsz] at e4;clear hA;go_simp<;>(try with_reducible rfl)
    refine R7.cd ?_ (fun T xs wr hA=>?_) ?_
    rotate_left
    ·have e46:=tr_ (hA.tq 1 46) (hA.fq 1)
     (try simp (disch:=decide) only [R7.mi] at e46)
     have hBq:wr.heap[ke]?=_:=(hA.bl _ hlt_e (fun q h=>absurd h (Nat.not_lt_zero _))).trans HBe.out;obtain⟨q0,q1,q2,q3,q4,q5,q6,q7⟩:=cl8 hBq;clear hBq;clear hA;go_simp<;>(try with_reducible rfl)
    refine R7.cd ?_ (fun T xs wr hA=>?_) ?_
    rotate_left
    ·have e11:=hA.pq 11;simp only[gsa,gsc,gsz] at e11;clear hA;go_simp<;>(try with_reducible rfl)
    refine R7.cd ?_ (fun T xs wr hA=>?_) ?_
    rotate_left
    ·have e48:=tr_ (hA.tq 3 48) (hA.fq 3)
     (try simp (disch:=decide) only [R7.mi] at e48)
     clear hA;go_simp<;>(try with_reducible rfl)
    refine R7.cd ?_ (fun T xs wr hA=>?_) ?_
    rotate_left
    ·have e49:=tr_ (hA.tq 4 49) (hA.fq 4)
     (try simp (disch:=decide) only [R7.mi] at e49)
     have hbz:=undrew (hA.be w3.heap.size (Nat.le_refl _) (fun q h=>absurd h (Nat.not_lt_zero _)));have hcz:wr.cell? ta=some (.int .i64 (t0:Nat)):=by rw[hbz.cell (cell_lt HC0.out)];exact HC0.out
     clear hbz;clear hA;go_simp<;>(try with_reducible rfl)
    refine R7.Chain.call (fun xs v w=>PmsAt w (fun _=>True) v (ps++[pmN nm t0])) (fun _ _ _ _ h hb=>h.below hb) (fun _ _ _ _ _ _ ⟨q,hq,_⟩ _=>absurd hq (Nat.not_lt_zero _)) (by rfl) (fun T xs wr hA=>?_) ?_
    ·have hsw:=(hA.be 0 (Nat.zero_le _) (fun _ _=>Nat.zero_le _)).size;have e45:=tr_ (hA.tq 0 45) (hA.fq 0);have e47:=tr_ (hA.tq 2 47) (hA.fq 2);have e50:=tr_ (hA.tq 5 50) (hA.fq 5)
     (try simp (disch:=decide) only [R7.mi] at e45 e47 e50)
     have hbw:=undrew (hA.be w3.heap.size (Nat.le_refl _) (fun q h=>absurd h (Nat.not_lt_zero _)));clear hA;refine⟨(by rfl),fun K hK=>?_⟩;go_simp
     refine (more_l wr (fun _=>True) _ (ps) nm t0 (HPV.out.below hbw) (by have:=HNN.out;(try simp only[lsa,List.length_singleton]);omega)).mono ?_;rintro e w' ⟨v',rfl,hp',hb⟩;exact hK.out _ _ (hp'.mono (fun _ _=>trivial)) hb
    refine R7.Chain.done (fun xs w4 hL=>?_);obtain⟨⟨hbe,hbl⟩,hf,-,-⟩:=hL;have f0:xs 0=_:=hf 0 (by decide);have f1:xs 1=_:=hf 1 (by decide);have f2:xs 2=_:=hf 2 (by decide);have f3:xs 3=_:=hf 3 (by decide);have f4:xs 4=_:=hf 4 (by decide);have f5:xs 5=_:=hf 5 (by decide);have F6:PmsAt w4 (fun _=>True) (xs 6) (ps++[pmN nm t0]):=hf 6 (by decide)
    (try simp (disch:=decide) only [R7.mi] at f0 f1 f2 f3 f4 f5)
    have hb:Below w3.heap.size w3 w4:=R7.b0_ hbe;clear hbe hbl hf;refine R7.rest_list (by decide) (by kernel_rfl) ?_;simp only[R7.fill,t1_,t2_,t3_,t4_,t5_,t6_,t7_,f0,f1,f2,f3,f4,f5];clear hlt_e f0 f1 f2 f3 f4 f5;replace HBe:=kB hb HBe;replace HBz:=kB hb HBz;replace HBd:=kB hb HBd;replace HBW:=bw_ HBW hb;replace HRW:=h_ (HRW.out.below hb);replace HPV:=h_ (HPV.out.below hb);clear hb;obtain⟨vin,hvin⟩:∃ z,xs 6=z:=⟨_,rfl⟩
    rw[hvin] at F6;rw[hvin];have HPI:Hid (PmsAt w4 (fun _=>True) vin (ps++[pmN nm t0])):=h_ F6;clear hvin F6 hI0 hI1;go_upto_region 9 with fail
    have qj2:(((j:Nat):Int)==2)=false:=by rw[beq_eq_false_iff_ne,HJ.out];decide
    obtain⟨c0,c1,c2,c3,c4,c5,c6,c7⟩:=cl8 HBe.out;go_upto_region 11 with fail
    clear qj2;clear c0 c1 c2 c3 c4 c5 c6 c7;obtain⟨pin,hpin⟩:∃ z,z=ps++[pmN nm t0]:=⟨_,rfl⟩
    have HPJ:Hid (PmsAt w4 (fun _=>True) vin pin):=h_ (by rw[hpin];exact HPI.out);clear HPI;have HPI:=HPJ;clear HPJ;have HLK:Hid (lkp pin=akIn k nm ot j tj (lkp ps)):=h_ (by rw[hpin];rw[HKK.out,HJ.out,HT0.out,akIn_let,lkp_more]);have HNP:Hid (pin.length+2*ud ks[j]<=700000000000):=h_ (by rw[hpin];have:=ud_kid2 (ks:=ks) (j:=j) hi;have:=HNN.out;(try simp only[lsa,List.length_singleton]);omega);clear hpin;obtain⟨wa,hwa⟩:∃ z,z=w4:=⟨_,rfl⟩
    subst hwa;clear HTV HT0 HC0 HKK
   rotate_left
   all_goals (
    go_upto_region 11 with fail
    obtain⟨d0,d1,d2,d3,d4,d5,d6,d7⟩:=cl8 HBd.out;have hbw1:Below w0.heap.size w0 wa:=HB0.out.trans (HBW.out.mono HB0.out.size);have HB1:=h_ hbw1;clear hbw1;have hco:=HCO.out;rw[<-HLK.out] at hco;have HCO2:=h_ hco;clear hco;obtain⟨r,hr⟩:∃ q,q=aB F rf ks[j] (lkp pin):=⟨_,rfl⟩
    have HRR:=h_ hr;have hks:=HKB.out j hi y S (fun _=>True) wa _ pin HU.out (HKS.out j hi) HB1.out HPI.out HNP.out;rw[<-hr] at hks;simp only[xv] at hks;have HKC:=h_ hks;clear hks hr;have hco:=HCO2.out;rw[<-HRR.out] at hco;have HCO3:=h_ hco;clear hco HCO2;refine wp_region_lit ?_
    iterate 4 (refine wpList_plain rfl fun K0 hK0=>?_;go_simp;refine hK0 _ _ ?_;clear hK0)
    refine wpList_plain rfl fun K0 hK0=>?_
    go_simp
    refine HKC.out.mono ?_;rintro e w4 ⟨rfl,hb⟩;refine hK0 _ _ ?_;clear hK0 HKC;clear d0 d1 d2 d3 d4 d5 d6 d7;replace HBe:=kB hb HBe;replace HBz:=kB hb HBz;replace HBd:=kB hb HBd;replace HBW:=bw_ HBW hb;replace HRW:=h_ (HRW.out.below hb);replace HPV:=h_ (HPV.out.below hb);replace HPI:=h_ (HPI.out.below hb);clear hb;have HNZ:=h_ (anz_b F rf ks[j] (lkp pin))
    cases r with
    | error e =>
     have hz:e.1≠0:=HNZ.out e HRR.out.symm;obtain⟨e0,e1,e2⟩:=e;unfold fltV;simp only[arT,arF];have HZ:=h_ hz;clear hz
     iterate 3 (refine wpList_plain rfl fun K0 hK0=>?_;go_simp;refine hK0 _ _ ?_;clear hK0)
     skip
     have hqz:(((e0:Nat):Int) != 0)=true:=by rw[bne_iff_ne];have:=HZ.out;simp only at this;omega
     go_upto_region 12 with fail
     obtain⟨w5,kf,hw,hkk,hb,hs1,HBf⟩:=newb w4 #[.int .i64 (e0:Nat),.int .i64 (e1:Nat),.int .i64 (e2:Nat)] 36;have he_f:=lk_ hkk HBe;have hz_f:=lk_ hkk HBz;have hd_f:=lk_ hkk HBd;rw[hw,<-hkk];replace HBe:=kB hb HBe;replace HBz:=kB hb HBz;replace HBd:=kB hb HBd;replace HBW:=bw_ HBW hb;replace HRW:=h_ (HRW.out.below hb);replace HPV:=h_ (HPV.out.below hb);replace HPI:=h_ (HPI.out.below hb);clear hw hb hkk hs1;obtain⟨f0,f1,f2⟩:=cl3 HBf.out;go_upto_region 13 with fail
     clear f0 f1 f2;clear hqz;have hlt_f:=lt_of_block HBf.out;refine R7.r0 [[],[],[0,1]] 2 ?_;refine R7.cd ?_ (fun T xs wr hA=>?_) ?_
     rotate_left
     ·have e16:=hA.pq 16;simp only[gsa,gsc,gsz] at e16;have hBq:wr.heap[kf]?=_:=(hA.bl _ hlt_f (fun q h=>absurd h (Nat.not_lt_zero _))).trans HBf.out;obtain⟨q0,q1,q2⟩:=cl3 hBq;clear hBq;clear hA;go_simp<;>(try with_reducible rfl)
     refine R7.cd ?_ (fun T xs wr hA=>?_) ?_
     rotate_left
     ·clear hA;go_simp<;>(try with_reducible rfl)
     refine R7.Chain.done (fun xs w6 hL=>?_);obtain⟨⟨hbe,hbl⟩,hf,-,-⟩:=hL;have f0:xs 0=_:=hf 0 (by decide);have f1:xs 1=_:=hf 1 (by decide)
     (try simp (disch:=decide) only [R7.mi] at f0 f1)
     have hb:Below w5.heap.size w5 w6:=R7.b0_ hbe;clear hbe hbl hf;refine R7.rest_list (by decide) (by kernel_rfl) ?_;simp only[R7.fill,t1_,t2_,t3_,t4_,t5_,t6_,t7_,f0,f1];clear hlt_f f0 f1;replace HBe:=kB hb HBe;replace HBz:=kB hb HBz;replace HBd:=kB hb HBd;replace HBf:=kB hb HBf;replace HBW:=bw_ HBW hb;replace HRW:=h_ (HRW.out.below hb);replace HPV:=h_ (HPV.out.below hb);replace HPI:=h_ (HPI.out.below hb);clear hb;obtain⟨y0,y1,y2⟩:=cl3 HBz.out;obtain⟨fy0,fy1,fy2⟩:=fr3 HBz.out;go_wp2_with fail
     clear y0 fy0 y1 fy1 y2 fy2;exact ask_end (tv:=.int .i64 0) rfl HBz HBW hkz (by rw[HR.out,ak_err HAR.out.1 HAR.out.2 HCO3.out.symm];rfl)
    | ok b =>
     simp only[arT,arF,fltV,f0]
     iterate 3 (refine wpList_plain rfl fun K0 hK0=>?_;go_simp;refine hK0 _ _ ?_;clear hK0)
     go_upto_region 12 with fail
     obtain⟨w5,kf,hw,hkk,hb,hs1,HBf⟩:=newb w4 #[.int .i64 0,.int .i64 0,.int .i64 0] 36;have he_f:=lk_ hkk HBe;have hz_f:=lk_ hkk HBz;have hd_f:=lk_ hkk HBd;rw[hw,<-hkk];replace HBe:=kB hb HBe;replace HBz:=kB hb HBz;replace HBd:=kB hb HBd;replace HBW:=bw_ HBW hb;replace HRW:=h_ (HRW.out.below hb);replace HPV:=h_ (HPV.out.below hb);replace HPI:=h_ (HPI.out.below hb);clear hw hb hkk hs1;obtain⟨f0,f1,f2⟩:=cl3 HBf.out;go_upto_region 14 with fail
     clear f0 f1 f2;obtain⟨w6,kn,hw,hkk,hb,hs1,HBn⟩:=newb w5 #[.int .i64 (b:Nat)] 3;have hkk2:=hkk.symm;have HBB:=h_ hb;clear hb hs1 hkk;have hrl:tj.length<=1000000:=by rw[HTL.out];have:=HKM.out;omega
     have hrw6:=HRW.out.below HBB.out;have HR6:=h_ hrw6;have HRL:=h_ hrl;have HB6:Hid (kz+1<=w6.heap.size):=h_ (by have:=HBB.out.size;have:=lt_of_block HBz.out;omega);clear hrl hrw6;go_upto_region 15 with (first | (at_builtin;refine El.Row.append (E:=inE) HR6.out rfl (.tmp 78) (.tmp 80) 91 rfl Tryz.underlying91 infoIntN rfl (by decide) rfl b kn 3 rfl HBn.out trivial HRL.out HB6.out ?_;intro v2 w7 hrow hgw;have HRO:=h_ hrow;have HGW:=h_ hgw;clear hrow hgw) | fail)
     clear hw hkk2;replace HBe:=kB HBB.out HBe;replace HBz:=kB HBB.out HBz;replace HBd:=kB HBB.out HBd;replace HBf:=kB HBB.out HBf;replace HBW:=h_ (HBW.out.trans (HBB.out.mono HBW.out.size));replace HRW:=h_ (HRW.out.below HBB.out);replace HPV:=h_ (HPV.out.below HBB.out);replace HPI:=h_ (HPI.out.below HBB.out);replace HBe:=HR6.out.kR HGW.out (by omega) HBe;replace HBz:=HR6.out.kR HGW.out (by omega) HBz;replace HBW:=h_ (⟨HGW.out.os.trans HBW.out.os,HGW.out.tape.trans HBW.out.tape,HGW.out.output.trans HBW.out.output,Nat.le_trans HBW.out.size HGW.out.size,fun g hg=>(HGW.out.block g (by have:=HBW.out.size;omega) (fun e=>by have:=(HR6.out.ge e.symm).1;omega)).trans (HBW.out.block g hg)⟩:Below w.heap.size w w7);have HTL3:Hid ((tj++[b]).length=j+1):=h_ (by rw[lsa,HTL.out];rfl);clear HPV HR6 HB6 HRL HBB HBn HRW
     by_cases hj0:j=0
     ·try (exfalso;have:=HJ.out;omega)
      all_goals (
       replace HJ:Hid (j=0):=h_ hj0;clear hj0;have qg:(decide ((0:Int)<((j:Nat):Int)))=false:=by rw[decide_eq_false_iff_not];have:=HJ.out;omega
       have qgn:(decide (0<j))=false:=by rw[decide_eq_false_iff_not];have:=HJ.out;omega
       by_cases hk26:k<26
       ·exfalso;have h1:=HKND.out;have h2:=HLEN.out;have h3:=HAR.out.1;(try have h4:=HJ.out);omega
       have qk:(decide (((k:Nat):Int)<26))=false:=by rw[decide_eq_false_iff_not];omega
       obtain⟨c0,c1,c2,c3,c4,c5,c6,c7⟩:=cl8 HBe.out;go_upto_region 16 with fail
       clear qg qgn qk;clear c0 c1 c2 c3 c4 c5 c6 c7;have hnc:¬ (0<j\/k<26):=by have:=HJ.out;omega
       have hchk:=HCO3.out
       try simp only at hchk
       rw[if_neg hnc] at hchk;have HCH:=h_ hchk;clear hnc hchk
       by_cases hrf:rf=true
       ·subst hrf;have hch:=HCH.out;rw[show akChk true k nm ot ln cl b (lkp ps)=some (1,ln,cl) from by unfold akChk;rfl] at hch;have HE:=h_ (show Except.error (1,ln,cl)=_ from hch);clear hch;go_wp2_with fail
        refine (here_l w7 ke _ _ _ _ _ _ _ _ _ _ ln cl 1 HBe.out).mono ?_;rintro e w8 ⟨rfl,hb⟩;replace HBe:=kB hb HBe;replace HBz:=kB hb HBz;replace HBW:=bw_ HBW hb;replace HRO:=h_ (HRO.out.below hb);clear hb;unfold fltV;obtain⟨y0,y1,y2⟩:=cl3 HBz.out;obtain⟨fy0,fy1,fy2⟩:=fr3 HBz.out;go_wp2_with fail
        clear y0 fy0 y1 fy1 y2 fy2;exact ask_end (tv:=.int .i64 0) rfl HBz HBW hkz (by rw[HR.out,ak_err HAR.out.1 HAR.out.2 HE.out.symm];rfl)
       have hrf2:rf=false:=by simpa using hrf
       clear hrf;subst hrf2;have hks:k=26\/k=27\/k=28:=by have:=HAR.out.1;omega
       clear hk26;have HPW:Hid (PmsAt w7 (fun _=>True) vl ps):=h_ ((HPS.out.below HBW.out).mono (fun _ _=>trivial));rcases hks with hk | hk | hk
       ·have r27:(((k:Nat):Int)==27)=false:=by rw[beq_eq_false_iff_ne];omega
        have r28:(((k:Nat):Int)==28)=false:=by rw[beq_eq_false_iff_ne];omega
        have n28:(((k:Nat):Int) != 28)=true:=by rw[bne_iff_ne];omega
        have HKK:=h_ hk;clear hk;obtain⟨c0,c1,c2,c3,c4,c5,c6,c7⟩:=cl8 HBe.out;go_wp2_with fail
        refine (has_l w7 (fun _=>True) vl ps nm HPW.out).mono ?_;rintro e w8 ⟨rfl,hb⟩;clear c0 c1 c2 c3 c4 c5 c6 c7;replace HBe:=kB hb HBe;replace HBz:=kB hb HBz;replace HBW:=bw_ HBW hb;replace HRO:=h_ (HRO.out.below hb);replace HPW:=h_ (HPW.out.below hb);clear hb;have hge:=hasI_ge (lkp ps nm)
        cases hs:(lkp ps nm).isSome with
        | true =>
         rw[hs] at hge;have HS:=h_ hs;clear hs;obtain⟨c0,c1,c2,c3,c4,c5,c6,c7⟩:=cl8 HBe.out;have hch:=HCH.out;rw[show akChk false k nm ot ln cl b (lkp ps)=some (3,ln,cl) from by rw[HKK.out,chk26];simp only[Bool.false_eq_true,if_false,HS.out,if_true]] at hch;have HE:=h_ (show Except.error (3,ln,cl)=_ from hch);clear hch;go_wp2_with fail
         clear hge r27 r28 n28;refine (here_l w8 ke _ _ _ _ _ _ _ _ _ _ ln cl 3 HBe.out).mono ?_;rintro e w9 ⟨rfl,hb⟩;clear c0 c1 c2 c3 c4 c5 c6 c7;replace HBe:=kB hb HBe;replace HBz:=kB hb HBz;replace HBW:=bw_ HBW hb;replace HRO:=h_ (HRO.out.below hb);replace HPW:=h_ (HPW.out.below hb);clear hb;unfold fltV;obtain⟨y0,y1,y2⟩:=cl3 HBz.out;obtain⟨fy0,fy1,fy2⟩:=fr3 HBz.out;go_wp2_with fail
         clear y0 fy0 y1 fy1 y2 fy2;exact ask_end (tv:=.int .i64 0) rfl HBz HBW hkz (by rw[HR.out,ak_err HAR.out.1 HAR.out.2 HE.out.symm];rfl)
        | false =>
         rw[hs] at hge;have HS:=h_ hs;clear hs;obtain⟨c0,c1,c2,c3,c4,c5,c6,c7⟩:=cl8 HBe.out;have hch:=HCH.out;rw[show akChk false k nm ot ln cl b (lkp ps)=none from by rw[HKK.out,chk26];simp only[Bool.false_eq_true,if_false,HS.out]] at hch;have HAK2:Hid (akRun F false k nm ot ln cl (lkp ps) (j+1) (ks.drop (j+1)) (tj++[b])=akRun F false k nm ot ln cl (lkp ps) 0 ks []):=h_ (show _=_ from hch);clear hch;go_wp2_with fail
         go_roundw
         case rel=>exact⟨j+1,tj++[b],by go_num,hi,HTL3,HRO,HBe,HBz,HBW,HAK2⟩
         case measure=>simp[intOf];omega
       ·exfalso;have h1:=HKND.out;have h2:=HLEN.out;have h3:=HAR.out.1;(try have h4:=HJ.out);omega
       exfalso;have h1:=HKND.out;have h2:=HLEN.out;have h3:=HAR.out.1;(try have h4:=HJ.out);omega
      )
     replace HJ:Hid (0<j):=h_ (by omega);clear hj0;have qg:(decide ((0:Int)<((j:Nat):Int)))=true:=by rw[decide_eq_true_eq];have:=HJ.out;omega
     have qgn:(decide (0<j))=true:=by rw[decide_eq_true_eq];have:=HJ.out;omega
     go_upto_region 23 with fail
     clear qg qgn;have HAK2:Hid (akRun F rf k nm ot ln cl (lkp ps) (j+1) (ks.drop (j+1)) (tj++[b])=akRun F rf k nm ot ln cl (lkp ps) 0 ks []):=h_ (by have h:=HCO3.out;(try simp only at h);rw[if_pos (.inl HJ.out)] at h;exact h);go_wp2_with fail
     go_roundw
     case rel=>exact⟨j+1,tj++[b],by go_num,hi,HTL3,HRO,HBe,HBz,HBW,HAK2⟩
     case measure=>simp[intOf];omega
   )
  have hje:j=ks.length:=by omega
  subst hje;clear hj hi;have HFI:Hid (R=akFin F rf k nm ln cl (posU (ks.getD 1 u0)) tj (lkp ps)):=h_ (by rw[HR.out];exact ak_fin HAR.out.1 HAR.out.2 (by have h:=HAK.out;rw[List.drop_length,akRun] at h;exact h.symm));clear HAK HR;have hk:=HKND.out;have HTE:Hid (tj.length=2):=h_ (by rw[HTL.out];rcases HAR.out.2 with h | h<;>first | omega | (rw[h,hk];rfl));obtain⟨t0,t1,ht⟩:∃ t0 t1,tj=[t0,t1]:=by have h:=HTE.out;match tj,h with | [t0,t1],_=>exact⟨t0,t1,rfl⟩
  subst ht;obtain⟨ta,tc,htv,htc⟩:=row_get HRW.out (by simp);subst htv;simp only[lsc,lsn,Nat.zero_add,Nat.reduceAdd] at htc HRW;have HTC:=h_ htc;clear htc;simp only[lsc,lsn,Nat.zero_add,Nat.reduceAdd];have r26:(((k:Nat):Int)==26)=true:=by rw[beq_iff_eq];omega
  have HKK:=h_ hk;clear hk;obtain⟨c0,c1,c2,c3,c4,c5,c6,c7⟩:=cl8 HBe.out;go_upto_region 27 with fail
  clear r26;clear c0 c1 c2 c3 c4 c5 c6 c7;have x1:wl.cell? ⟨ta.block,ta.off+1,none⟩=some (.int .i64 (t1:Nat)):=HTC.out 1 (by simp);obtain⟨y0,y1,y2⟩:=cl3 HBz.out;obtain⟨fy0,fy1,fy2⟩:=fr3 HBz.out;go_wp2_with fail
  clear x1 y0 fy0 y1 fy1 y2 fy2;exact ask_end (tv:=.int .i64 (t1:Nat)) rfl HBz HBW hkz (by rw[HFI.out,fin26 _ _ _ _ _ _ _ _ _ (by have:=HKK.out;omega)];rfl)
theorem ask_B (F:Fs) (rf:Bool) (w0:World) (vf:Value) (hF:rf=true\/∃ SF fs,fnE.At w0 SF vf fs/\F=fndF (fs.map Fd.q)) (x:X) (u:U) (S S2:Nat->Prop) (w:World) (vl:Value) (ps:List PmU) (hu:Um w0 S x u) (hb:Bnd u) (hkm:u.ks.length<=1000000) (hK:∀ j (h:j<u.ks.length),AskOk F rf w0 vf u.ks[j]) (hbw:Below w0.heap.size w0 w) (hp:PmsAt w S2 vl ps) (hn:ps.length+2*ud u<=700000000000) (hkd:u.k=27) :
  Calls Tryz.prog 13 #[xv x,vl,vf,.bool rf] w fun e w'=>e=.returned (.tuple #[.int .i64 (arT (aB F rf u (lkp ps)):Nat),fltV (arF (aB F rf u (lkp ps)))])/\Below w.heap.size w w':=by
 obtain⟨k,nm,ot,z,ln,cl,ks⟩:=u;have HBN:=h_ hb;have HKND:Hid (k=27):=h_ hkd;rw[Um] at hu;obtain⟨⟨e1,e2,e3,e4,e5,e6⟩,⟨h2,h3⟩,⟨h4,h5,h6⟩,h7⟩:=hu;obtain⟨xk,xnm,xot,xb,xao,xn,xq,xko,xkn,xkc,xln,xcl⟩:=x;simp only at e1 e2 e3 e4 e5 e6 h2 h3 h4 h5 h6 h7;have HK:=h_ (fun j (hj:j<ks.length)=>ums_get 0 j h7 hj);have HSL:=h_ h2;rw[Bnd] at hb;have HNM:Hid (nm.length<=3000):=h_ hb.2.1.1;have HAR:=h_ hb.1;have HZB:=h_ hb.2.1.2.2;have HKS:=h_ (fun j (hj:j<ks.length)=>bnds_mem hb.2.2.2 (List.getElem_mem hj));have HKB:Hid (∀ j (h:j<ks.length),AskOk F rf w0 vf ks[j]):=h_ hK;rw[ud] at hn;have HNN:=h_ hn;have HKM:Hid (ks.length<=1000000):=h_ hkm;have HB0:=h_ hbw;have HPS:=h_ hp;have HFN:=h_ hF;have hkl:ks.length<=9223372036854775807:=by rw[<-h4];exact Nat.le_trans h5.1 h5.2
 have HLEN:Hid (ks.length=3):=h_ (by have h:=HAR.out.2;have hk:=HKND.out;subst hk;rcases h with h | h;omega;exact h);clear h7 hb h2 h3 h5 h6 hK hn hkm hbw hp hF hkd;subst e1 e2 e3 e4 e5 e6;subst h4;simp only[xv];have hmf:∀ (fn:Fn) (first cap:Array Value) (w:World),(Instr.makeFunc fn first cap).run Tryz.prog w=.ok (.func fn first cap) w:=fun _ _ _ _=>rfl
 obtain⟨R,hR⟩:∃ q,q=aB F rf (.node k nm ot z ln cl ks) (lkp ps):=⟨_,rfl⟩
 rw[<-hR];have HR:=h_ hR;clear hR;have HBW:=h_ (Below.refl w.heap.size w);go_enter Tryz.func13,Tryz.ntmps13
 go_upto_region 1 with fail
 obtain⟨w1,ke,hw,hkk,hb,hs1,HBe⟩:=newb w #[.int .i64 (k:Nat),.string ⟨nm.toArray⟩,.string ⟨ot.toArray⟩,.bool false,.slice xao xn xq,.slice xko ks.length xkc,.int .i64 (ln:Nat),.int .i64 (cl:Nat)] 48;rw[hw,<-hkk,<-hs1];replace HBW:=bw_ HBW hb;have hke:w.heap.size<=ke:=by rw[hkk];exact Nat.le_refl _
 clear hw hb hkk hs1;obtain⟨w2,kz,hw,hkk,hb,hs1,HBz⟩:=newb w1 #[.int .i64 0,.int .i64 0,.int .i64 0] 36;have he_z:=lk_ hkk HBe;rw[hw,<-hkk];replace HBe:=kB hb HBe;replace HBW:=bw_ HBW hb;have hkz:w.heap.size<=kz:=by rw[hkk];have:=HBW.out.size;omega
 clear hw hb hkk hs1;obtain⟨c0,c1,c2,c3,c4,c5,c6,c7⟩:=cl8 HBe.out;go_wp2_with fail
 clear hmf;clear c0 c1 c2 c3 c4 c5 c6 c7;have HRW:Hid (inE.Row w2 (kz+1) (fun _=>False) (.slice none 0 0) []):=h_ (El.Row.nil _ _ _);have HA0:Hid (akRun F rf k nm ot ln cl (lkp ps) 0 (ks.drop 0) []=akRun F rf k nm ot ln cl (lkp ps) 0 ks []):=h_ rfl
 go_loopw [27,11] (fun i tv wr=>∃ (j:Nat) (tj:List Nat),i=.int .i64 (j:Nat)/\j<=ks.length/\Hid (tj.length=j)/\Hid (inE.Row wr (kz+1) (fun _=>False) tv tj)/\Hid (wr.heap[ke]?=some (.cells #[.int .i64 (k:Nat),.string ⟨nm.toArray⟩,.string ⟨ot.toArray⟩,.bool false,.slice xao xn xq,.slice xko ks.length xkc,.int .i64 (ln:Nat),.int .i64 (cl:Nat)] 48 (0,0)))/\Hid (wr.heap[kz]?=some (.cells #[.int .i64 0,.int .i64 0,.int .i64 0] 36 (0,0)))/\Hid (Below w.heap.size w wr)/\Hid (akRun F rf k nm ot ln cl (lkp ps) j (ks.drop j) tj=akRun F rf k nm ot ln cl (lkp ps) 0 ks [])) (fun i _ _=>ks.length - (intOf i).toNat)
 case atStart=>exact⟨0,[],rfl,Nat.zero_le _,h_ rfl,HRW,HBe,HBz,HBW,HA0⟩
 case round =>
  obtain⟨wl,hwl⟩:∃ q,q=wr:=⟨_,rfl⟩
  subst hwl;clear HRW HBe HBz HBW HA0;obtain⟨j,tj,rfl,hj,HTL,HRW,HBe,HBz,HBW,HAK⟩:=hrel;have hez:ke<wl.heap.size:=lt_of_block HBe.out;have hzl:kz<wl.heap.size:=lt_of_block HBz.out
  by_cases hi:j<ks.length
  ·have hcons:=akRun_cons F rf k nm ot ln cl (lkp ps) ks j hi tj;rw[HAK.out] at hcons;have HCO:Hid (_=_):=h_ hcons.symm;clear hcons;obtain⟨y,⟨a,rfl,hy⟩,hU⟩:=HK.out j hi;have hbw0:Below w0.heap.size w0 wl:=HB0.out.trans (HBW.out.mono HB0.out.size);obtain⟨z0,z1,z2,z3,z4,z5,z6,z7⟩:=cells8 (w:=wl) (p:=a.add (j*8)) (y:=y) (fun q v hv=>by have:=hy q v hv;rw[Nat.zero_add] at this;rw[hbw0.cell (cell_lt this)];exact this);have HU:=h_ hU;clear hy hU hbw0;obtain⟨c0,c1,c2,c3,c4,c5,c6,c7⟩:=cl8 HBe.out;go_upto_region 7 with fail
   clear c0 c1 c2 c3 c4 c5 c6 c7 z0 z1 z2 z3 z4 z5 z6 z7;obtain⟨w3,kd,hw,hkk,hb,hs1,HBd⟩:=newb wl #[.int .i64 y.k,.string y.nm,.string y.ot,.bool y.b,.slice y.ao y.n y.c,.slice y.ko y.kn y.kc,.int .i64 y.ln,.int .i64 y.cl] 48;have he_d:=lk_ hkk HBe;have hz_d:=lk_ hkk HBz;rw[hw,<-hkk];replace HBe:=kB hb HBe;replace HBz:=kB hb HBz;replace HBW:=bw_ HBW hb;replace HRW:=h_ (HRW.out.below hb);clear hw hb hkk hs1;have HPV:Hid (PmsAt w3 (fun _=>True) vl ps):=h_ ((HPS.out.below (HBW.out)).mono (fun _ _=>trivial));have hor:j=0\/j=1\/j=2:=by have h1:=HKND.out;have h2:=HLEN.out;have h3:=HAR.out.1;omega
   rcases hor with hj | hj | hj
   focus
    have qj1:(((j:Nat):Int)==1)=false:=by rw[beq_eq_false_iff_ne];omega
    have qj2:(((j:Nat):Int)==2)=false:=by rw[beq_eq_false_iff_ne];omega
    have HJ:Hid (j=0):=h_ hj;clear hj;obtain⟨c0,c1,c2,c3,c4,c5,c6,c7⟩:=cl8 HBe.out;go_upto_region 11 with fail
    clear qj1 qj2 ;clear c0 c1 c2 c3 c4 c5 c6 c7;have HPI:Hid (PmsAt w3 (fun _=>True) vl ps):=HPV;obtain⟨pin,hpin⟩:∃ z,z=ps:=⟨_,rfl⟩
    have HPJ:Hid (PmsAt w3 (fun _=>True) vl pin):=h_ (by rw[hpin];exact HPI.out);clear HPI;have HPI:=HPJ;clear HPJ;have HLK:Hid (lkp pin=akIn k nm ot j tj (lkp ps)):=h_ (by rw[hpin];rw[akIn_no (fun h=>by have:=HJ.out;omega) (fun h=>by have:=HJ.out;omega)]);have HNP:Hid (pin.length+2*ud ks[j]<=700000000000):=h_ (by rw[hpin];have:=ud_kid2 (ks:=ks) (j:=j) hi;have:=HNN.out;(try simp only[lsa,List.length_singleton]);omega);clear hpin;obtain⟨wa,hwa⟩:∃ z,z=w3:=⟨_,rfl⟩
    subst hwa
   rotate_left
   focus
    have qj1:(((j:Nat):Int)==1)=true:=by rw[beq_iff_eq];omega
    have qj2:(((j:Nat):Int)==2)=false:=by rw[beq_eq_false_iff_ne];omega
    have HJ:Hid (j=1):=h_ hj;clear hj;have ql:(((tj.length:Nat):Int)==1)=true:=by rw[HTL.out,HJ.out];rfl
    have hk:k≠26:=by have:=HKND.out;omega
    obtain⟨ta,tc,htv,htc⟩:=row_get HRW.out (by rw[HTL.out,HJ.out];decide);clear htc;subst htv;have q26:(((k:Nat):Int)==26)=false:=by rw[beq_eq_false_iff_ne];omega
    have HKN:=h_ hk;clear hk;obtain⟨c0,c1,c2,c3,c4,c5,c6,c7⟩:=cl8 HBe.out;go_upto_region 11 with fail
    clear qj1 qj2 ql q26;clear c0 c1 c2 c3 c4 c5 c6 c7;have HPI:Hid (PmsAt w3 (fun _=>True) vl ps):=HPV;obtain⟨pin,hpin⟩:∃ z,z=ps:=⟨_,rfl⟩
    have HPJ:Hid (PmsAt w3 (fun _=>True) vl pin):=h_ (by rw[hpin];exact HPI.out);clear HPI;have HPI:=HPJ;clear HPJ;have HLK:Hid (lkp pin=akIn k nm ot j tj (lkp ps)):=h_ (by rw[hpin];rw[akIn_no (fun h=>HKN.out h.2) (fun h=>by have:=HJ.out;omega)]);have HNP:Hid (pin.length+2*ud ks[j]<=700000000000):=h_ (by rw[hpin];have:=ud_kid2 (ks:=ks) (j:=j) hi;have:=HNN.out;(try simp only[lsa,List.length_singleton]);omega);clear hpin;obtain⟨wa,hwa⟩:∃ z,z=w3:=⟨_,rfl⟩
    subst hwa;clear HKN
   rotate_left
   focus
    have qj1:(((j:Nat):Int)==1)=false:=by rw[beq_eq_false_iff_ne];omega
    have qj2:(((j:Nat):Int)==2)=true:=by rw[beq_iff_eq];omega
    have HJ:Hid (j=2):=h_ hj;clear hj;have hk:=HKND.out;have q27:(((k:Nat):Int)==27)=true:=by rw[beq_iff_eq];omega
    have HKK:=h_ hk;clear hk;obtain⟨c0,c1,c2,c3,c4,c5,c6,c7⟩:=cl8 HBe.out;go_upto_region 10 with fail
    clear qj1 qj2 q27;clear c0 c1 c2 c3 c4 c5 c6 c7;have hlt_e:=lt_of_block HBe.out;refine R7.r0 [[],[],[1],[0,1,2],[],[4],[0,1,2,3,4,5],[0,1,2,3,4,5,6]] 7 ?_;refine R7.cd ?_ (fun T xs wr hA=>?_) ?_
    rotate_left
    ·have e1:=hA.pq 1;simp only[gsa,gsc,gsz] at e1;clear hA;go_simp<;>(try with_reducible rfl)
    refine R7.cd ?_ (fun T xs wr hA=>?_) ?_
    rotate_left
    ·have e4:=hA.pq 4;simp only[gsa,gsc,gsz] at e4;clear hA;go_simp<;>(try with_reducible rfl)
    refine R7.cd ?_ (fun T xs wr hA=>?_) ?_
    rotate_left
    ·have e60:=tr_ (hA.tq 1 60) (hA.fq 1)
     (try simp (disch:=decide) only [R7.mi] at e60)
     have hBq:wr.heap[ke]?=_:=(hA.bl _ hlt_e (fun q h=>absurd h (Nat.not_lt_zero _))).trans HBe.out;obtain⟨q0,q1,q2,q3,q4,q5,q6,q7⟩:=cl8 hBq;clear hBq;clear hA;go_simp<;>(try with_reducible rfl)
    refine R7.Chain.call (fun xs v w=>PmsAt w (fun _=>True) v (ps++[pmN nm 0])) (fun _ _ _ _ h hb=>h.below hb) (fun _ _ _ _ _ _ ⟨q,hq,_⟩ _=>absurd hq (Nat.not_lt_zero _)) (by rfl) (fun T xs wr hA=>?_) ?_
    ·have hsw:=(hA.be 0 (Nat.zero_le _) (fun _ _=>Nat.zero_le _)).size;have e59:=tr_ (hA.tq 0 59) (hA.fq 0);have e61:=tr_ (hA.tq 2 61) (hA.fq 2)
     (try simp (disch:=decide) only [R7.mi] at e59 e61)
     have hbw:=undrew (hA.be w3.heap.size (Nat.le_refl _) (fun q h=>absurd h (Nat.not_lt_zero _)));clear hA;refine⟨(by rfl),fun K hK=>?_⟩;go_simp
     refine (more_l wr (fun _=>True) _ (ps) nm 0 (HPV.out.below hbw) (by have:=HNN.out;(try simp only[lsa,List.length_singleton]);omega)).mono ?_;rintro e w' ⟨v',rfl,hp',hb⟩;exact hK.out _ _ (hp'.mono (fun _ _=>trivial)) hb
    refine R7.cd ?_ (fun T xs wr hA=>?_) ?_
    rotate_left
    ·have e4:=hA.pq 4;simp only[gsa,gsc,gsz] at e4;clear hA;go_simp<;>(try with_reducible rfl)
    refine R7.cd ?_ (fun T xs wr hA=>?_) ?_
    rotate_left
    ·have e63:=tr_ (hA.tq 4 63) (hA.fq 4)
     (try simp (disch:=decide) only [R7.mi] at e63)
     have hBq:wr.heap[ke]?=_:=(hA.bl _ hlt_e (fun q h=>absurd h (Nat.not_lt_zero _))).trans HBe.out;obtain⟨q0,q1,q2,q3,q4,q5,q6,q7⟩:=cl8 hBq;clear hBq;clear hA;go_simp<;>(try with_reducible rfl)
    refine R7.Chain.call (fun xs v w=>PmsAt w (fun _=>True) v (ps++[pmN nm 0]++[pmN ot 2])) (fun _ _ _ _ h hb=>h.below hb) (fun _ _ _ _ _ _ ⟨q,hq,_⟩ _=>absurd hq (Nat.not_lt_zero _)) (by rfl) (fun T xs wr hA=>?_) ?_
    ·have hsw:=(hA.be 0 (Nat.zero_le _) (fun _ _=>Nat.zero_le _)).size;have e62:=hA.tm 3 62 (by rfl) (by rfl);have e64:=tr_ (hA.tq 5 64) (hA.fq 5)
     (try simp (disch:=decide) only [R7.mi] at e64)
     have hbw:=undrew (hA.be w3.heap.size (Nat.le_refl _) (fun q h=>absurd h (Nat.not_lt_zero _)));have hF3x:PmsAt wr (fun _=>True) (xs 3) (ps++[pmN nm 0]):=hA.fa 3 (by rfl);clear hA;refine⟨(by rfl),fun K hK=>?_⟩;go_simp
     refine (more_l wr (fun _=>True) _ (ps++[pmN nm 0]) ot 2 hF3x (by have:=HNN.out;(try simp only[lsa,List.length_singleton]);omega)).mono ?_;rintro e w' ⟨v',rfl,hp',hb⟩;exact hK.out _ _ (hp'.mono (fun _ _=>trivial)) hb
    refine R7.Chain.done (fun xs w4 hL=>?_);obtain⟨⟨hbe,hbl⟩,hf,-,-⟩:=hL;have f0:xs 0=_:=hf 0 (by decide);have f1:xs 1=_:=hf 1 (by decide);have f2:xs 2=_:=hf 2 (by decide);have F3:PmsAt w4 (fun _=>True) (xs 3) (ps++[pmN nm 0]):=hf 3 (by decide);have f4:xs 4=_:=hf 4 (by decide);have f5:xs 5=_:=hf 5 (by decide);have F6:PmsAt w4 (fun _=>True) (xs 6) (ps++[pmN nm 0]++[pmN ot 2]):=hf 6 (by decide)
    (try simp (disch:=decide) only [R7.mi] at f0 f1 f2 f4 f5)
    have hb:Below w3.heap.size w3 w4:=R7.b0_ hbe;clear hbe hbl hf;refine R7.rest_list (by decide) (by kernel_rfl) ?_;simp only[R7.fill,t1_,t2_,t3_,t4_,t5_,t6_,t7_,f0,f1,f2,f4,f5];clear hlt_e f0 f1 f2 f4 f5;replace HBe:=kB hb HBe;replace HBz:=kB hb HBz;replace HBd:=kB hb HBd;replace HBW:=bw_ HBW hb;replace HRW:=h_ (HRW.out.below hb);replace HPV:=h_ (HPV.out.below hb);clear hb;obtain⟨vin,hvin⟩:∃ z,xs 6=z:=⟨_,rfl⟩
    rw[hvin] at F6;rw[hvin];obtain⟨vi3,hvi3⟩:∃ z,xs 3=z:=⟨_,rfl⟩
    rw[hvi3];have HPI:Hid (PmsAt w4 (fun _=>True) vin (ps++[pmN nm 0]++[pmN ot 2])):=h_ F6;clear hvin F6 F3 hvi3;go_upto_region 11 with fail
    obtain⟨pin,hpin⟩:∃ z,z=ps++[pmN nm 0]++[pmN ot 2]:=⟨_,rfl⟩
    have HPJ:Hid (PmsAt w4 (fun _=>True) vin pin):=h_ (by rw[hpin];exact HPI.out);clear HPI;have HPI:=HPJ;clear HPJ;have HLK:Hid (lkp pin=akIn k nm ot j tj (lkp ps)):=h_ (by rw[hpin];rw[HKK.out,HJ.out,akIn_match,lkp_more,lkp_more]);have HNP:Hid (pin.length+2*ud ks[j]<=700000000000):=h_ (by rw[hpin];have:=ud_kid2 (ks:=ks) (j:=j) hi;have:=HNN.out;(try simp only[lsa,List.length_singleton]);omega);clear hpin;obtain⟨wa,hwa⟩:∃ z,z=w4:=⟨_,rfl⟩
    subst hwa;clear HKK
   rotate_left
   all_goals (
    go_upto_region 11 with fail
    obtain⟨d0,d1,d2,d3,d4,d5,d6,d7⟩:=cl8 HBd.out;have hbw1:Below w0.heap.size w0 wa:=HB0.out.trans (HBW.out.mono HB0.out.size);have HB1:=h_ hbw1;clear hbw1;have hco:=HCO.out;rw[<-HLK.out] at hco;have HCO2:=h_ hco;clear hco;obtain⟨r,hr⟩:∃ q,q=aB F rf ks[j] (lkp pin):=⟨_,rfl⟩
    have HRR:=h_ hr;have hks:=HKB.out j hi y S (fun _=>True) wa _ pin HU.out (HKS.out j hi) HB1.out HPI.out HNP.out;rw[<-hr] at hks;simp only[xv] at hks;have HKC:=h_ hks;clear hks hr;have hco:=HCO2.out;rw[<-HRR.out] at hco;have HCO3:=h_ hco;clear hco HCO2;refine wp_region_lit ?_
    iterate 4 (refine wpList_plain rfl fun K0 hK0=>?_;go_simp;refine hK0 _ _ ?_;clear hK0)
    refine wpList_plain rfl fun K0 hK0=>?_
    go_simp
    refine HKC.out.mono ?_;rintro e w4 ⟨rfl,hb⟩;refine hK0 _ _ ?_;clear hK0 HKC;clear d0 d1 d2 d3 d4 d5 d6 d7;replace HBe:=kB hb HBe;replace HBz:=kB hb HBz;replace HBd:=kB hb HBd;replace HBW:=bw_ HBW hb;replace HRW:=h_ (HRW.out.below hb);replace HPV:=h_ (HPV.out.below hb);replace HPI:=h_ (HPI.out.below hb);clear hb;have HNZ:=h_ (anz_b F rf ks[j] (lkp pin))
    cases r with
    | error e =>
     have hz:e.1≠0:=HNZ.out e HRR.out.symm;obtain⟨e0,e1,e2⟩:=e;unfold fltV;simp only[arT,arF];have HZ:=h_ hz;clear hz
     iterate 3 (refine wpList_plain rfl fun K0 hK0=>?_;go_simp;refine hK0 _ _ ?_;clear hK0)
     skip
     have hqz:(((e0:Nat):Int) != 0)=true:=by rw[bne_iff_ne];have:=HZ.out;simp only at this;omega
     go_upto_region 12 with fail
     obtain⟨w5,kf,hw,hkk,hb,hs1,HBf⟩:=newb w4 #[.int .i64 (e0:Nat),.int .i64 (e1:Nat),.int .i64 (e2:Nat)] 36;have he_f:=lk_ hkk HBe;have hz_f:=lk_ hkk HBz;have hd_f:=lk_ hkk HBd;rw[hw,<-hkk];replace HBe:=kB hb HBe;replace HBz:=kB hb HBz;replace HBd:=kB hb HBd;replace HBW:=bw_ HBW hb;replace HRW:=h_ (HRW.out.below hb);replace HPV:=h_ (HPV.out.below hb);replace HPI:=h_ (HPI.out.below hb);clear hw hb hkk hs1;obtain⟨f0,f1,f2⟩:=cl3 HBf.out;go_upto_region 13 with fail
     clear f0 f1 f2;clear hqz;have hlt_f:=lt_of_block HBf.out;refine R7.r0 [[],[],[0,1]] 2 ?_;refine R7.cd ?_ (fun T xs wr hA=>?_) ?_
     rotate_left
     ·have e16:=hA.pq 16;simp only[gsa,gsc,gsz] at e16;have hBq:wr.heap[kf]?=_:=(hA.bl _ hlt_f (fun q h=>absurd h (Nat.not_lt_zero _))).trans HBf.out;obtain⟨q0,q1,q2⟩:=cl3 hBq;clear hBq;clear hA;go_simp<;>(try with_reducible rfl)
     refine R7.cd ?_ (fun T xs wr hA=>?_) ?_
     rotate_left
     ·clear hA;go_simp<;>(try with_reducible rfl)
     refine R7.Chain.done (fun xs w6 hL=>?_);obtain⟨⟨hbe,hbl⟩,hf,-,-⟩:=hL;have f0:xs 0=_:=hf 0 (by decide);have f1:xs 1=_:=hf 1 (by decide)
     (try simp (disch:=decide) only [R7.mi] at f0 f1)
     have hb:Below w5.heap.size w5 w6:=R7.b0_ hbe;clear hbe hbl hf;refine R7.rest_list (by decide) (by kernel_rfl) ?_;simp only[R7.fill,t1_,t2_,t3_,t4_,t5_,t6_,t7_,f0,f1];clear hlt_f f0 f1;replace HBe:=kB hb HBe;replace HBz:=kB hb HBz;replace HBd:=kB hb HBd;replace HBf:=kB hb HBf;replace HBW:=bw_ HBW hb;replace HRW:=h_ (HRW.out.below hb);replace HPV:=h_ (HPV.out.below hb);replace HPI:=h_ (HPI.out.below hb);clear hb;obtain⟨y0,y1,y2⟩:=cl3 HBz.out;obtain⟨fy0,fy1,fy2⟩:=fr3 HBz.out;go_wp2_with fail
     clear y0 fy0 y1 fy1 y2 fy2;exact ask_end (tv:=.int .i64 0) rfl HBz HBW hkz (by rw[HR.out,ak_err HAR.out.1 HAR.out.2 HCO3.out.symm];rfl)
    | ok b =>
     simp only[arT,arF,fltV,f0]
     iterate 3 (refine wpList_plain rfl fun K0 hK0=>?_;go_simp;refine hK0 _ _ ?_;clear hK0)
     go_upto_region 12 with fail
     obtain⟨w5,kf,hw,hkk,hb,hs1,HBf⟩:=newb w4 #[.int .i64 0,.int .i64 0,.int .i64 0] 36;have he_f:=lk_ hkk HBe;have hz_f:=lk_ hkk HBz;have hd_f:=lk_ hkk HBd;rw[hw,<-hkk];replace HBe:=kB hb HBe;replace HBz:=kB hb HBz;replace HBd:=kB hb HBd;replace HBW:=bw_ HBW hb;replace HRW:=h_ (HRW.out.below hb);replace HPV:=h_ (HPV.out.below hb);replace HPI:=h_ (HPI.out.below hb);clear hw hb hkk hs1;obtain⟨f0,f1,f2⟩:=cl3 HBf.out;go_upto_region 14 with fail
     clear f0 f1 f2;obtain⟨w6,kn,hw,hkk,hb,hs1,HBn⟩:=newb w5 #[.int .i64 (b:Nat)] 3;have hkk2:=hkk.symm;have HBB:=h_ hb;clear hb hs1 hkk;have hrl:tj.length<=1000000:=by rw[HTL.out];have:=HKM.out;omega
     have hrw6:=HRW.out.below HBB.out;have HR6:=h_ hrw6;have HRL:=h_ hrl;have HB6:Hid (kz+1<=w6.heap.size):=h_ (by have:=HBB.out.size;have:=lt_of_block HBz.out;omega);clear hrl hrw6;go_upto_region 15 with (first | (at_builtin;refine El.Row.append (E:=inE) HR6.out rfl (.tmp 78) (.tmp 80) 91 rfl Tryz.underlying91 infoIntN rfl (by decide) rfl b kn 3 rfl HBn.out trivial HRL.out HB6.out ?_;intro v2 w7 hrow hgw;have HRO:=h_ hrow;have HGW:=h_ hgw;clear hrow hgw) | fail)
     clear hw hkk2;replace HBe:=kB HBB.out HBe;replace HBz:=kB HBB.out HBz;replace HBd:=kB HBB.out HBd;replace HBf:=kB HBB.out HBf;replace HBW:=h_ (HBW.out.trans (HBB.out.mono HBW.out.size));replace HRW:=h_ (HRW.out.below HBB.out);replace HPV:=h_ (HPV.out.below HBB.out);replace HPI:=h_ (HPI.out.below HBB.out);replace HBe:=HR6.out.kR HGW.out (by omega) HBe;replace HBz:=HR6.out.kR HGW.out (by omega) HBz;replace HBW:=h_ (⟨HGW.out.os.trans HBW.out.os,HGW.out.tape.trans HBW.out.tape,HGW.out.output.trans HBW.out.output,Nat.le_trans HBW.out.size HGW.out.size,fun g hg=>(HGW.out.block g (by have:=HBW.out.size;omega) (fun e=>by have:=(HR6.out.ge e.symm).1;omega)).trans (HBW.out.block g hg)⟩:Below w.heap.size w w7);have HTL3:Hid ((tj++[b]).length=j+1):=h_ (by rw[lsa,HTL.out];rfl);clear HPV HR6 HB6 HRL HBB HBn HRW
     by_cases hj0:j=0
     ·try (exfalso;have:=HJ.out;omega)
      all_goals (
       replace HJ:Hid (j=0):=h_ hj0;clear hj0;have qg:(decide ((0:Int)<((j:Nat):Int)))=false:=by rw[decide_eq_false_iff_not];have:=HJ.out;omega
       have qgn:(decide (0<j))=false:=by rw[decide_eq_false_iff_not];have:=HJ.out;omega
       by_cases hk26:k<26
       ·exfalso;have h1:=HKND.out;have h2:=HLEN.out;have h3:=HAR.out.1;(try have h4:=HJ.out);omega
       have qk:(decide (((k:Nat):Int)<26))=false:=by rw[decide_eq_false_iff_not];omega
       obtain⟨c0,c1,c2,c3,c4,c5,c6,c7⟩:=cl8 HBe.out;go_upto_region 16 with fail
       clear qg qgn qk;clear c0 c1 c2 c3 c4 c5 c6 c7;have hnc:¬ (0<j\/k<26):=by have:=HJ.out;omega
       have hchk:=HCO3.out
       try simp only at hchk
       rw[if_neg hnc] at hchk;have HCH:=h_ hchk;clear hnc hchk
       by_cases hrf:rf=true
       ·subst hrf;have hch:=HCH.out;rw[show akChk true k nm ot ln cl b (lkp ps)=some (1,ln,cl) from by unfold akChk;rfl] at hch;have HE:=h_ (show Except.error (1,ln,cl)=_ from hch);clear hch;go_wp2_with fail
        refine (here_l w7 ke _ _ _ _ _ _ _ _ _ _ ln cl 1 HBe.out).mono ?_;rintro e w8 ⟨rfl,hb⟩;replace HBe:=kB hb HBe;replace HBz:=kB hb HBz;replace HBW:=bw_ HBW hb;replace HRO:=h_ (HRO.out.below hb);clear hb;unfold fltV;obtain⟨y0,y1,y2⟩:=cl3 HBz.out;obtain⟨fy0,fy1,fy2⟩:=fr3 HBz.out;go_wp2_with fail
        clear y0 fy0 y1 fy1 y2 fy2;exact ask_end (tv:=.int .i64 0) rfl HBz HBW hkz (by rw[HR.out,ak_err HAR.out.1 HAR.out.2 HE.out.symm];rfl)
       have hrf2:rf=false:=by simpa using hrf
       clear hrf;subst hrf2;have hks:k=26\/k=27\/k=28:=by have:=HAR.out.1;omega
       clear hk26;have HPW:Hid (PmsAt w7 (fun _=>True) vl ps):=h_ ((HPS.out.below HBW.out).mono (fun _ _=>trivial));rcases hks with hk | hk | hk
       ·exfalso;have h1:=HKND.out;have h2:=HLEN.out;have h3:=HAR.out.1;(try have h4:=HJ.out);omega
       ·have r27:(((k:Nat):Int)==27)=true:=by rw[beq_iff_eq];omega
        have r28:(((k:Nat):Int)==28)=false:=by rw[beq_eq_false_iff_ne];omega
        have n28:(((k:Nat):Int) != 28)=true:=by rw[bne_iff_ne];omega
        have HKK:=h_ hk;clear hk
        by_cases hb2:b=2
        ·have qb:(((b:Nat):Int) != 2)=false:=by rw[bne_eq_false_iff_eq];omega
         have HB2:=h_ hb2;clear hb2;obtain⟨c0,c1,c2,c3,c4,c5,c6,c7⟩:=cl8 HBe.out;go_wp2_with fail
         refine (has_l w7 (fun _=>True) vl ps nm HPW.out).mono ?_;rintro e w8 ⟨rfl,hb⟩;clear c0 c1 c2 c3 c4 c5 c6 c7;replace HBe:=kB hb HBe;replace HBz:=kB hb HBz;replace HBW:=bw_ HBW hb;replace HRO:=h_ (HRO.out.below hb);replace HPW:=h_ (HPW.out.below hb);clear hb;have hge:=hasI_ge (lkp ps nm)
         cases hs:(lkp ps nm).isSome with
         | true =>
          rw[hs] at hge;have HS:=h_ hs;clear hs;obtain⟨c0,c1,c2,c3,c4,c5,c6,c7⟩:=cl8 HBe.out;have hch:=HCH.out;rw[show akChk false k nm ot ln cl b (lkp ps)=some (3,ln,cl) from by rw[HKK.out,chk27];simp only[Bool.false_eq_true,if_false,HB2.out,ne_eq,not_true_eq_false,HS.out,true_or,if_true]] at hch;have HE:=h_ (show Except.error (3,ln,cl)=_ from hch);clear hch;go_wp2_with fail
          clear hge r27 r28 n28 qb;refine (here_l w8 ke _ _ _ _ _ _ _ _ _ _ ln cl 3 HBe.out).mono ?_;rintro e w9 ⟨rfl,hb⟩;clear c0 c1 c2 c3 c4 c5 c6 c7;replace HBe:=kB hb HBe;replace HBz:=kB hb HBz;replace HBW:=bw_ HBW hb;replace HRO:=h_ (HRO.out.below hb);replace HPW:=h_ (HPW.out.below hb);clear hb;unfold fltV;obtain⟨y0,y1,y2⟩:=cl3 HBz.out;obtain⟨fy0,fy1,fy2⟩:=fr3 HBz.out;go_wp2_with fail
          clear y0 fy0 y1 fy1 y2 fy2;exact ask_end (tv:=.int .i64 0) rfl HBz HBW hkz (by rw[HR.out,ak_err HAR.out.1 HAR.out.2 HE.out.symm];rfl)
         | false =>
          rw[hs] at hge;have HS:=h_ hs;clear hs;obtain⟨c0,c1,c2,c3,c4,c5,c6,c7⟩:=cl8 HBe.out;go_wp2_with fail
          clear hge;refine (has_l w8 (fun _=>True) vl ps ot HPW.out).mono ?_;rintro e w9 ⟨rfl,hb⟩;clear c0 c1 c2 c3 c4 c5 c6 c7;replace HBe:=kB hb HBe;replace HBz:=kB hb HBz;replace HBW:=bw_ HBW hb;replace HRO:=h_ (HRO.out.below hb);replace HPW:=h_ (HPW.out.below hb);clear hb;have hge:=hasI_ge (lkp ps ot)
          cases hs:(lkp ps ot).isSome with
          | true =>
           rw[hs] at hge;have HS2:=h_ hs;clear hs;obtain⟨c0,c1,c2,c3,c4,c5,c6,c7⟩:=cl8 HBe.out;have hch:=HCH.out;rw[show akChk false k nm ot ln cl b (lkp ps)=some (3,ln,cl) from by rw[HKK.out,chk27];simp only[Bool.false_eq_true,if_false,HB2.out,ne_eq,not_true_eq_false,HS2.out,true_or,or_true,if_true]] at hch;have HE:=h_ (show Except.error (3,ln,cl)=_ from hch);clear hch;go_wp2_with fail
           clear hge r27 r28 n28 qb;refine (here_l w9 ke _ _ _ _ _ _ _ _ _ _ ln cl 3 HBe.out).mono ?_;rintro e w10 ⟨rfl,hb⟩;clear c0 c1 c2 c3 c4 c5 c6 c7;replace HBe:=kB hb HBe;replace HBz:=kB hb HBz;replace HBW:=bw_ HBW hb;replace HRO:=h_ (HRO.out.below hb);replace HPW:=h_ (HPW.out.below hb);clear hb;unfold fltV;obtain⟨y0,y1,y2⟩:=cl3 HBz.out;obtain⟨fy0,fy1,fy2⟩:=fr3 HBz.out;go_wp2_with fail
           clear y0 fy0 y1 fy1 y2 fy2;exact ask_end (tv:=.int .i64 0) rfl HBz HBW hkz (by rw[HR.out,ak_err HAR.out.1 HAR.out.2 HE.out.symm];rfl)
          | false =>
           rw[hs] at hge;have HS2:=h_ hs;clear hs
           by_cases hno:nm=ot
           ·have qn:(nm==ot)=true:=by rw[hno];exact beq_self_eq_true _
            have HNO:=h_ hno;clear hno;obtain⟨c0,c1,c2,c3,c4,c5,c6,c7⟩:=cl8 HBe.out;have hch:=HCH.out;rw[show akChk false k nm ot ln cl b (lkp ps)=some (3,ln,cl) from by rw[HKK.out,chk27];simp only[Bool.false_eq_true,if_false,HB2.out,ne_eq,not_true_eq_false,HNO.out,or_true,if_true]] at hch;have HE:=h_ (show Except.error (3,ln,cl)=_ from hch);clear hch;go_wp2_with fail
            clear hge r27 r28 n28 qb qn;refine (here_l w9 ke _ _ _ _ _ _ _ _ _ _ ln cl 3 HBe.out).mono ?_;rintro e w10 ⟨rfl,hb⟩;clear c0 c1 c2 c3 c4 c5 c6 c7;replace HBe:=kB hb HBe;replace HBz:=kB hb HBz;replace HBW:=bw_ HBW hb;replace HRO:=h_ (HRO.out.below hb);replace HPW:=h_ (HPW.out.below hb);clear hb;unfold fltV;obtain⟨y0,y1,y2⟩:=cl3 HBz.out;obtain⟨fy0,fy1,fy2⟩:=fr3 HBz.out;go_wp2_with fail
            clear y0 fy0 y1 fy1 y2 fy2;exact ask_end (tv:=.int .i64 0) rfl HBz HBW hkz (by rw[HR.out,ak_err HAR.out.1 HAR.out.2 HE.out.symm];rfl)
           have qn:(nm==ot)=false:=beq_eq_false_iff_ne.2 hno;have HNO:=h_ hno;clear hno;obtain⟨c0,c1,c2,c3,c4,c5,c6,c7⟩:=cl8 HBe.out;have hch:=HCH.out;rw[show akChk false k nm ot ln cl b (lkp ps)=none from by rw[HKK.out,chk27];simp only[Bool.false_eq_true,if_false,HB2.out,ne_eq,not_true_eq_false,HS.out,HS2.out,HNO.out,or_self]] at hch;have HAK2:Hid (akRun F false k nm ot ln cl (lkp ps) (j+1) (ks.drop (j+1)) (tj++[b])=akRun F false k nm ot ln cl (lkp ps) 0 ks []):=h_ (show _=_ from hch);clear hch;go_wp2_with fail
           go_roundw
           case rel=>exact⟨j+1,tj++[b],by go_num,hi,HTL3,HRO,HBe,HBz,HBW,HAK2⟩
           case measure=>simp[intOf];omega
        have qb:(((b:Nat):Int) != 2)=true:=by rw[bne_iff_ne];omega
        have HB2:=h_ hb2;clear hb2;obtain⟨c0,c1,c2,c3,c4,c5,c6,c7⟩:=cl8 HBe.out;have hch:=HCH.out;rw[show akChk false k nm ot ln cl b (lkp ps)=some (4,ln,cl) from by rw[HKK.out,chk27];simp only[Bool.false_eq_true,if_false];rw[if_pos HB2.out]] at hch;have HE:=h_ (show Except.error (4,ln,cl)=_ from hch);clear hch;go_wp2_with fail
        clear r27 r28 n28 qb;refine (here_l w7 ke _ _ _ _ _ _ _ _ _ _ ln cl 4 HBe.out).mono ?_;rintro e w8 ⟨rfl,hb⟩;clear c0 c1 c2 c3 c4 c5 c6 c7;replace HBe:=kB hb HBe;replace HBz:=kB hb HBz;replace HBW:=bw_ HBW hb;replace HRO:=h_ (HRO.out.below hb);replace HPW:=h_ (HPW.out.below hb);clear hb;unfold fltV;obtain⟨y0,y1,y2⟩:=cl3 HBz.out;obtain⟨fy0,fy1,fy2⟩:=fr3 HBz.out;go_wp2_with fail
        clear y0 fy0 y1 fy1 y2 fy2;exact ask_end (tv:=.int .i64 0) rfl HBz HBW hkz (by rw[HR.out,ak_err HAR.out.1 HAR.out.2 HE.out.symm];rfl)
       exfalso;have h1:=HKND.out;have h2:=HLEN.out;have h3:=HAR.out.1;(try have h4:=HJ.out);omega
      )
     replace HJ:Hid (0<j):=h_ (by omega);clear hj0;have qg:(decide ((0:Int)<((j:Nat):Int)))=true:=by rw[decide_eq_true_eq];have:=HJ.out;omega
     have qgn:(decide (0<j))=true:=by rw[decide_eq_true_eq];have:=HJ.out;omega
     go_upto_region 23 with fail
     clear qg qgn;have HAK2:Hid (akRun F rf k nm ot ln cl (lkp ps) (j+1) (ks.drop (j+1)) (tj++[b])=akRun F rf k nm ot ln cl (lkp ps) 0 ks []):=h_ (by have h:=HCO3.out;(try simp only at h);rw[if_pos (.inl HJ.out)] at h;exact h);go_wp2_with fail
     go_roundw
     case rel=>exact⟨j+1,tj++[b],by go_num,hi,HTL3,HRO,HBe,HBz,HBW,HAK2⟩
     case measure=>simp[intOf];omega
   )
  have hje:j=ks.length:=by omega
  subst hje;clear hj hi;have HFI:Hid (R=akFin F rf k nm ln cl (posU (ks.getD 1 u0)) tj (lkp ps)):=h_ (by rw[HR.out];exact ak_fin HAR.out.1 HAR.out.2 (by have h:=HAK.out;rw[List.drop_length,akRun] at h;exact h.symm));clear HAK HR;have hk:=HKND.out;have HTE:Hid (tj.length=3):=h_ (by rw[HTL.out];rcases HAR.out.2 with h | h<;>first | omega | (rw[h,hk];rfl));obtain⟨t0,t1,t2,ht⟩:∃ t0 t1 t2,tj=[t0,t1,t2]:=by have h:=HTE.out;match tj,h with | [t0,t1,t2],_=>exact⟨t0,t1,t2,rfl⟩
  subst ht;obtain⟨ta,tc,htv,htc⟩:=row_get HRW.out (by simp);subst htv;simp only[lsc,lsn,Nat.zero_add,Nat.reduceAdd] at htc HRW;have HTC:=h_ htc;clear htc;simp only[lsc,lsn,Nat.zero_add,Nat.reduceAdd];have r25:(((k:Nat):Int)==25)=false:=by rw[beq_eq_false_iff_ne];omega
  have r26:(((k:Nat):Int)==26)=false:=by rw[beq_eq_false_iff_ne];omega
  have r27:(((k:Nat):Int)==27)=true:=by rw[beq_iff_eq];omega
  have r28:(((k:Nat):Int)==28)=false:=by rw[beq_eq_false_iff_ne];omega
  have HKK:=h_ hk;clear hk;obtain⟨c0,c1,c2,c3,c4,c5,c6,c7⟩:=cl8 HBe.out;go_upto_region 32 with fail
  clear c0 c1 c2 c3 c4 c5 c6 c7
  by_cases h12:t1=t2
  ·have qt:(((t1:Nat):Int) != ((t2:Nat):Int))=false:=by rw[bne_eq_false_iff_eq];omega
   have H12:=h_ h12;clear h12;obtain⟨c0,c1,c2,c3,c4,c5,c6,c7⟩:=cl8 HBe.out;have x0:wl.cell? ta=some (.int .i64 (t0:Nat)):=(by have h:=HTC.out 0 (by simp);rw[addr_add0] at h;exact h)
   have x1:wl.cell? ⟨ta.block,ta.off+1,none⟩=some (.int .i64 (t1:Nat)):=HTC.out 1 (by simp);have x2:wl.cell? ⟨ta.block,ta.off+2,none⟩=some (.int .i64 (t2:Nat)):=HTC.out 2 (by simp)
   go_quiet (fail)
   obtain⟨w3,hwq⟩:∃ q,q=wl.drewN nq:=⟨_,rfl⟩
   have hb:Below wl.heap.size wl w3:=by rw[hwq];exact below_drewN' _ _ _
   rw[<-hwq];clear hwq;clear c0 c1 c2 c3 c4 c5 c6 c7 x0 x1 x2;replace HBe:=kB hb HBe;replace HBz:=kB hb HBz;replace HBW:=bw_ HBW hb;replace HRW:=h_ (HRW.out.below hb);clear hb;go_upto_region 34 with fail
   clear qt r25 r26 r27 r28;obtain⟨tb,tc2,htv2,htc2⟩:=row_get HRW.out (by simp);injection htv2 with ha2;injection ha2 with ha2;subst ha2;have HTC:=h_ htc2;clear htc2;have x2:w3.cell? ⟨ta.block,ta.off+2,none⟩=some (.int .i64 (t2:Nat)):=HTC.out 2 (by simp);obtain⟨y0,y1,y2⟩:=cl3 HBz.out;obtain⟨fy0,fy1,fy2⟩:=fr3 HBz.out;go_wp2_with fail
   clear x2 y0 fy0 y1 fy1 y2 fy2;exact ask_end (tv:=.int .i64 (t2:Nat)) rfl HBz HBW hkz (by rw[HFI.out,HKK.out,fin27,if_neg (fun h=>h H12.out)];rfl)
  have qt:(((t1:Nat):Int) != ((t2:Nat):Int))=true:=by rw[bne_iff_ne];omega
  have H12:=h_ h12;clear h12;obtain⟨c0,c1,c2,c3,c4,c5,c6,c7⟩:=cl8 HBe.out;have x0:wl.cell? ta=some (.int .i64 (t0:Nat)):=(by have h:=HTC.out 0 (by simp);rw[addr_add0] at h;exact h)
  have x1:wl.cell? ⟨ta.block,ta.off+1,none⟩=some (.int .i64 (t1:Nat)):=HTC.out 1 (by simp);have x2:wl.cell? ⟨ta.block,ta.off+2,none⟩=some (.int .i64 (t2:Nat)):=HTC.out 2 (by simp)
  go_quiet (fail)
  obtain⟨w3,hwq⟩:∃ q,q=wl.drewN nq:=⟨_,rfl⟩
  have hb:Below wl.heap.size wl w3:=by rw[hwq];exact below_drewN' _ _ _
  rw[<-hwq];clear hwq;clear c0 c1 c2 c3 c4 c5 c6 c7 x0 x1 x2;replace HBe:=kB hb HBe;replace HBz:=kB hb HBz;replace HBW:=bw_ HBW hb;replace HRW:=h_ (HRW.out.below hb);clear hb;go_upto_region 33 with fail
  clear qt r25 r26 r27 r28;obtain⟨c0,c1,c2,c3,c4,c5,c6,c7⟩:=cl8 HBe.out;go_wp2_with fail
  clear c0 c1 c2 c3 c4 c5 c6 c7;refine (here_l w3 ke _ _ _ _ _ _ _ _ _ _ ln cl 4 HBe.out).mono ?_;rintro e w4 ⟨rfl,hb⟩;replace HBe:=kB hb HBe;replace HBz:=kB hb HBz;replace HBW:=bw_ HBW hb;replace HRW:=h_ (HRW.out.below hb);clear hb;unfold fltV;obtain⟨y0,y1,y2⟩:=cl3 HBz.out;obtain⟨fy0,fy1,fy2⟩:=fr3 HBz.out;go_wp2_with fail
  clear y0 fy0 y1 fy1 y2 fy2;exact ask_end (tv:=.int .i64 0) rfl HBz HBW hkz (by rw[HFI.out,HKK.out,fin27,if_pos (show [t0,t1,t2].getD 1 0 ≠ [t0,t1,t2].getD 2 0 from H12.out)];rfl)
theorem ask_C (F:Fs) (rf:Bool) (w0:World) (vf:Value) (hF:rf=true\/∃ SF fs,fnE.At w0 SF vf fs/\F=fndF (fs.map Fd.q)) (x:X) (u:U) (S S2:Nat->Prop) (w:World) (vl:Value) (ps:List PmU) (hu:Um w0 S x u) (hb:Bnd u) (hkm:u.ks.length<=1000000) (hK:∀ j (h:j<u.ks.length),AskOk F rf w0 vf u.ks[j]) (hbw:Below w0.heap.size w0 w) (hp:PmsAt w S2 vl ps) (hn:ps.length+2*ud u<=700000000000) (hkd:u.k=28) :
  Calls Tryz.prog 13 #[xv x,vl,vf,.bool rf] w fun e w'=>e=.returned (.tuple #[.int .i64 (arT (aB F rf u (lkp ps)):Nat),fltV (arF (aB F rf u (lkp ps)))])/\Below w.heap.size w w':=by
 obtain⟨k,nm,ot,z,ln,cl,ks⟩:=u;have HBN:=h_ hb;have HKND:Hid (k=28):=h_ hkd;rw[Um] at hu;obtain⟨⟨e1,e2,e3,e4,e5,e6⟩,⟨h2,h3⟩,⟨h4,h5,h6⟩,h7⟩:=hu;obtain⟨xk,xnm,xot,xb,xao,xn,xq,xko,xkn,xkc,xln,xcl⟩:=x;simp only at e1 e2 e3 e4 e5 e6 h2 h3 h4 h5 h6 h7;have HK:=h_ (fun j (hj:j<ks.length)=>ums_get 0 j h7 hj);have HSL:=h_ h2;rw[Bnd] at hb;have HNM:Hid (nm.length<=3000):=h_ hb.2.1.1;have HAR:=h_ hb.1;have HZB:=h_ hb.2.1.2.2;have HKS:=h_ (fun j (hj:j<ks.length)=>bnds_mem hb.2.2.2 (List.getElem_mem hj));have HKB:Hid (∀ j (h:j<ks.length),AskOk F rf w0 vf ks[j]):=h_ hK;rw[ud] at hn;have HNN:=h_ hn;have HKM:Hid (ks.length<=1000000):=h_ hkm;have HB0:=h_ hbw;have HPS:=h_ hp;have HFN:=h_ hF;have hkl:ks.length<=9223372036854775807:=by rw[<-h4];exact Nat.le_trans h5.1 h5.2
 have HLEN:Hid (ks.length=2):=h_ (by have h:=HAR.out.2;have hk:=HKND.out;subst hk;rcases h with h | h;omega;exact h);clear h7 hb h2 h3 h5 h6 hK hn hkm hbw hp hF hkd;subst e1 e2 e3 e4 e5 e6;subst h4;simp only[xv];have hmf:∀ (fn:Fn) (first cap:Array Value) (w:World),(Instr.makeFunc fn first cap).run Tryz.prog w=.ok (.func fn first cap) w:=fun _ _ _ _=>rfl
 obtain⟨R,hR⟩:∃ q,q=aB F rf (.node k nm ot z ln cl ks) (lkp ps):=⟨_,rfl⟩
 rw[<-hR];have HR:=h_ hR;clear hR;have HBW:=h_ (Below.refl w.heap.size w);go_enter Tryz.func13,Tryz.ntmps13
 go_upto_region 1 with fail
 obtain⟨w1,ke,hw,hkk,hb,hs1,HBe⟩:=newb w #[.int .i64 (k:Nat),.string ⟨nm.toArray⟩,.string ⟨ot.toArray⟩,.bool false,.slice xao xn xq,.slice xko ks.length xkc,.int .i64 (ln:Nat),.int .i64 (cl:Nat)] 48;rw[hw,<-hkk,<-hs1];replace HBW:=bw_ HBW hb;have hke:w.heap.size<=ke:=by rw[hkk];exact Nat.le_refl _
 clear hw hb hkk hs1;obtain⟨w2,kz,hw,hkk,hb,hs1,HBz⟩:=newb w1 #[.int .i64 0,.int .i64 0,.int .i64 0] 36;have he_z:=lk_ hkk HBe;rw[hw,<-hkk];replace HBe:=kB hb HBe;replace HBW:=bw_ HBW hb;have hkz:w.heap.size<=kz:=by rw[hkk];have:=HBW.out.size;omega
 clear hw hb hkk hs1;obtain⟨c0,c1,c2,c3,c4,c5,c6,c7⟩:=cl8 HBe.out;go_wp2_with fail
 clear hmf;clear c0 c1 c2 c3 c4 c5 c6 c7;have HRW:Hid (inE.Row w2 (kz+1) (fun _=>False) (.slice none 0 0) []):=h_ (El.Row.nil _ _ _);have HA0:Hid (akRun F rf k nm ot ln cl (lkp ps) 0 (ks.drop 0) []=akRun F rf k nm ot ln cl (lkp ps) 0 ks []):=h_ rfl
 go_loopw [27,11] (fun i tv wr=>∃ (j:Nat) (tj:List Nat),i=.int .i64 (j:Nat)/\j<=ks.length/\Hid (tj.length=j)/\Hid (inE.Row wr (kz+1) (fun _=>False) tv tj)/\Hid (wr.heap[ke]?=some (.cells #[.int .i64 (k:Nat),.string ⟨nm.toArray⟩,.string ⟨ot.toArray⟩,.bool false,.slice xao xn xq,.slice xko ks.length xkc,.int .i64 (ln:Nat),.int .i64 (cl:Nat)] 48 (0,0)))/\Hid (wr.heap[kz]?=some (.cells #[.int .i64 0,.int .i64 0,.int .i64 0] 36 (0,0)))/\Hid (Below w.heap.size w wr)/\Hid (akRun F rf k nm ot ln cl (lkp ps) j (ks.drop j) tj=akRun F rf k nm ot ln cl (lkp ps) 0 ks [])) (fun i _ _=>ks.length - (intOf i).toNat)
 case atStart=>exact⟨0,[],rfl,Nat.zero_le _,h_ rfl,HRW,HBe,HBz,HBW,HA0⟩
 case round =>
  obtain⟨wl,hwl⟩:∃ q,q=wr:=⟨_,rfl⟩
  subst hwl;clear HRW HBe HBz HBW HA0;obtain⟨j,tj,rfl,hj,HTL,HRW,HBe,HBz,HBW,HAK⟩:=hrel;have hez:ke<wl.heap.size:=lt_of_block HBe.out;have hzl:kz<wl.heap.size:=lt_of_block HBz.out
  by_cases hi:j<ks.length
  ·have hcons:=akRun_cons F rf k nm ot ln cl (lkp ps) ks j hi tj;rw[HAK.out] at hcons;have HCO:Hid (_=_):=h_ hcons.symm;clear hcons;obtain⟨y,⟨a,rfl,hy⟩,hU⟩:=HK.out j hi;have hbw0:Below w0.heap.size w0 wl:=HB0.out.trans (HBW.out.mono HB0.out.size);obtain⟨z0,z1,z2,z3,z4,z5,z6,z7⟩:=cells8 (w:=wl) (p:=a.add (j*8)) (y:=y) (fun q v hv=>by have:=hy q v hv;rw[Nat.zero_add] at this;rw[hbw0.cell (cell_lt this)];exact this);have HU:=h_ hU;clear hy hU hbw0;obtain⟨c0,c1,c2,c3,c4,c5,c6,c7⟩:=cl8 HBe.out;go_upto_region 7 with fail
   clear c0 c1 c2 c3 c4 c5 c6 c7 z0 z1 z2 z3 z4 z5 z6 z7;obtain⟨w3,kd,hw,hkk,hb,hs1,HBd⟩:=newb wl #[.int .i64 y.k,.string y.nm,.string y.ot,.bool y.b,.slice y.ao y.n y.c,.slice y.ko y.kn y.kc,.int .i64 y.ln,.int .i64 y.cl] 48;have he_d:=lk_ hkk HBe;have hz_d:=lk_ hkk HBz;rw[hw,<-hkk];replace HBe:=kB hb HBe;replace HBz:=kB hb HBz;replace HBW:=bw_ HBW hb;replace HRW:=h_ (HRW.out.below hb);clear hw hb hkk hs1;have HPV:Hid (PmsAt w3 (fun _=>True) vl ps):=h_ ((HPS.out.below (HBW.out)).mono (fun _ _=>trivial));have hor:j=0\/j=1:=by have h1:=HKND.out;have h2:=HLEN.out;have h3:=HAR.out.1;omega
   rcases hor with hj | hj
   focus
    have qj1:(((j:Nat):Int)==1)=false:=by rw[beq_eq_false_iff_ne];omega
    have qj2:(((j:Nat):Int)==2)=false:=by rw[beq_eq_false_iff_ne];omega
    have HJ:Hid (j=0):=h_ hj;clear hj;obtain⟨c0,c1,c2,c3,c4,c5,c6,c7⟩:=cl8 HBe.out;go_upto_region 11 with fail
    clear qj1 qj2 ;clear c0 c1 c2 c3 c4 c5 c6 c7;have HPI:Hid (PmsAt w3 (fun _=>True) vl ps):=HPV;obtain⟨pin,hpin⟩:∃ z,z=ps:=⟨_,rfl⟩
    have HPJ:Hid (PmsAt w3 (fun _=>True) vl pin):=h_ (by rw[hpin];exact HPI.out);clear HPI;have HPI:=HPJ;clear HPJ;have HLK:Hid (lkp pin=akIn k nm ot j tj (lkp ps)):=h_ (by rw[hpin];rw[akIn_no (fun h=>by have:=HJ.out;omega) (fun h=>by have:=HJ.out;omega)]);have HNP:Hid (pin.length+2*ud ks[j]<=700000000000):=h_ (by rw[hpin];have:=ud_kid2 (ks:=ks) (j:=j) hi;have:=HNN.out;(try simp only[lsa,List.length_singleton]);omega);clear hpin;obtain⟨wa,hwa⟩:∃ z,z=w3:=⟨_,rfl⟩
    subst hwa
   rotate_left
   focus
    have qj1:(((j:Nat):Int)==1)=true:=by rw[beq_iff_eq];omega
    have qj2:(((j:Nat):Int)==2)=false:=by rw[beq_eq_false_iff_ne];omega
    have HJ:Hid (j=1):=h_ hj;clear hj;have ql:(((tj.length:Nat):Int)==1)=true:=by rw[HTL.out,HJ.out];rfl
    have hk:k≠26:=by have:=HKND.out;omega
    obtain⟨ta,tc,htv,htc⟩:=row_get HRW.out (by rw[HTL.out,HJ.out];decide);clear htc;subst htv;have q26:(((k:Nat):Int)==26)=false:=by rw[beq_eq_false_iff_ne];omega
    have HKN:=h_ hk;clear hk;obtain⟨c0,c1,c2,c3,c4,c5,c6,c7⟩:=cl8 HBe.out;go_upto_region 11 with fail
    clear qj1 qj2 ql q26;clear c0 c1 c2 c3 c4 c5 c6 c7;have HPI:Hid (PmsAt w3 (fun _=>True) vl ps):=HPV;obtain⟨pin,hpin⟩:∃ z,z=ps:=⟨_,rfl⟩
    have HPJ:Hid (PmsAt w3 (fun _=>True) vl pin):=h_ (by rw[hpin];exact HPI.out);clear HPI;have HPI:=HPJ;clear HPJ;have HLK:Hid (lkp pin=akIn k nm ot j tj (lkp ps)):=h_ (by rw[hpin];rw[akIn_no (fun h=>HKN.out h.2) (fun h=>by have:=HJ.out;omega)]);have HNP:Hid (pin.length+2*ud ks[j]<=700000000000):=h_ (by rw[hpin];have:=ud_kid2 (ks:=ks) (j:=j) hi;have:=HNN.out;(try simp only[lsa,List.length_singleton]);omega);clear hpin;obtain⟨wa,hwa⟩:∃ z,z=w3:=⟨_,rfl⟩
    subst hwa;clear HKN
   rotate_left
   all_goals (
    go_upto_region 11 with fail
    obtain⟨d0,d1,d2,d3,d4,d5,d6,d7⟩:=cl8 HBd.out;have hbw1:Below w0.heap.size w0 wa:=HB0.out.trans (HBW.out.mono HB0.out.size);have HB1:=h_ hbw1;clear hbw1;have hco:=HCO.out;rw[<-HLK.out] at hco;have HCO2:=h_ hco;clear hco;obtain⟨r,hr⟩:∃ q,q=aB F rf ks[j] (lkp pin):=⟨_,rfl⟩
    have HRR:=h_ hr;have hks:=HKB.out j hi y S (fun _=>True) wa _ pin HU.out (HKS.out j hi) HB1.out HPI.out HNP.out;rw[<-hr] at hks;simp only[xv] at hks;have HKC:=h_ hks;clear hks hr;have hco:=HCO2.out;rw[<-HRR.out] at hco;have HCO3:=h_ hco;clear hco HCO2;refine wp_region_lit ?_
    iterate 4 (refine wpList_plain rfl fun K0 hK0=>?_;go_simp;refine hK0 _ _ ?_;clear hK0)
    refine wpList_plain rfl fun K0 hK0=>?_
    go_simp
    refine HKC.out.mono ?_;rintro e w4 ⟨rfl,hb⟩;refine hK0 _ _ ?_;clear hK0 HKC;clear d0 d1 d2 d3 d4 d5 d6 d7;replace HBe:=kB hb HBe;replace HBz:=kB hb HBz;replace HBd:=kB hb HBd;replace HBW:=bw_ HBW hb;replace HRW:=h_ (HRW.out.below hb);replace HPV:=h_ (HPV.out.below hb);replace HPI:=h_ (HPI.out.below hb);clear hb;have HNZ:=h_ (anz_b F rf ks[j] (lkp pin))
    cases r with
    | error e =>
     have hz:e.1≠0:=HNZ.out e HRR.out.symm;obtain⟨e0,e1,e2⟩:=e;unfold fltV;simp only[arT,arF];have HZ:=h_ hz;clear hz
     iterate 3 (refine wpList_plain rfl fun K0 hK0=>?_;go_simp;refine hK0 _ _ ?_;clear hK0)
     skip
     have hqz:(((e0:Nat):Int) != 0)=true:=by rw[bne_iff_ne];have:=HZ.out;simp only at this;omega
     go_upto_region 12 with fail
     obtain⟨w5,kf,hw,hkk,hb,hs1,HBf⟩:=newb w4 #[.int .i64 (e0:Nat),.int .i64 (e1:Nat),.int .i64 (e2:Nat)] 36;have he_f:=lk_ hkk HBe;have hz_f:=lk_ hkk HBz;have hd_f:=lk_ hkk HBd;rw[hw,<-hkk];replace HBe:=kB hb HBe;replace HBz:=kB hb HBz;replace HBd:=kB hb HBd;replace HBW:=bw_ HBW hb;replace HRW:=h_ (HRW.out.below hb);replace HPV:=h_ (HPV.out.below hb);replace HPI:=h_ (HPI.out.below hb);clear hw hb hkk hs1;obtain⟨f0,f1,f2⟩:=cl3 HBf.out;go_upto_region 13 with fail
     clear f0 f1 f2;clear hqz;have hlt_f:=lt_of_block HBf.out;refine R7.r0 [[],[],[0,1]] 2 ?_;refine R7.cd ?_ (fun T xs wr hA=>?_) ?_
     rotate_left
     ·have e16:=hA.pq 16;simp only[gsa,gsc,gsz] at e16;have hBq:wr.heap[kf]?=_:=(hA.bl _ hlt_f (fun q h=>absurd h (Nat.not_lt_zero _))).trans HBf.out;obtain⟨q0,q1,q2⟩:=cl3 hBq;clear hBq;clear hA;go_simp<;>(try with_reducible rfl)
     refine R7.cd ?_ (fun T xs wr hA=>?_) ?_
     rotate_left
     ·clear hA;go_simp<;>(try with_reducible rfl)
     refine R7.Chain.done (fun xs w6 hL=>?_);obtain⟨⟨hbe,hbl⟩,hf,-,-⟩:=hL;have f0:xs 0=_:=hf 0 (by decide);have f1:xs 1=_:=hf 1 (by decide)
     (try simp (disch:=decide) only [R7.mi] at f0 f1)
     have hb:Below w5.heap.size w5 w6:=R7.b0_ hbe;clear hbe hbl hf;refine R7.rest_list (by decide) (by kernel_rfl) ?_;simp only[R7.fill,t1_,t2_,t3_,t4_,t5_,t6_,t7_,f0,f1];clear hlt_f f0 f1;replace HBe:=kB hb HBe;replace HBz:=kB hb HBz;replace HBd:=kB hb HBd;replace HBf:=kB hb HBf;replace HBW:=bw_ HBW hb;replace HRW:=h_ (HRW.out.below hb);replace HPV:=h_ (HPV.out.below hb);replace HPI:=h_ (HPI.out.below hb);clear hb;obtain⟨y0,y1,y2⟩:=cl3 HBz.out;obtain⟨fy0,fy1,fy2⟩:=fr3 HBz.out;go_wp2_with fail
     clear y0 fy0 y1 fy1 y2 fy2;exact ask_end (tv:=.int .i64 0) rfl HBz HBW hkz (by rw[HR.out,ak_err HAR.out.1 HAR.out.2 HCO3.out.symm];rfl)
    | ok b =>
     simp only[arT,arF,fltV,f0]
     iterate 3 (refine wpList_plain rfl fun K0 hK0=>?_;go_simp;refine hK0 _ _ ?_;clear hK0)
     go_upto_region 12 with fail
     obtain⟨w5,kf,hw,hkk,hb,hs1,HBf⟩:=newb w4 #[.int .i64 0,.int .i64 0,.int .i64 0] 36;have he_f:=lk_ hkk HBe;have hz_f:=lk_ hkk HBz;have hd_f:=lk_ hkk HBd;rw[hw,<-hkk];replace HBe:=kB hb HBe;replace HBz:=kB hb HBz;replace HBd:=kB hb HBd;replace HBW:=bw_ HBW hb;replace HRW:=h_ (HRW.out.below hb);replace HPV:=h_ (HPV.out.below hb);replace HPI:=h_ (HPI.out.below hb);clear hw hb hkk hs1;obtain⟨f0,f1,f2⟩:=cl3 HBf.out;go_upto_region 14 with fail
     clear f0 f1 f2;obtain⟨w6,kn,hw,hkk,hb,hs1,HBn⟩:=newb w5 #[.int .i64 (b:Nat)] 3;have hkk2:=hkk.symm;have HBB:=h_ hb;clear hb hs1 hkk;have hrl:tj.length<=1000000:=by rw[HTL.out];have:=HKM.out;omega
     have hrw6:=HRW.out.below HBB.out;have HR6:=h_ hrw6;have HRL:=h_ hrl;have HB6:Hid (kz+1<=w6.heap.size):=h_ (by have:=HBB.out.size;have:=lt_of_block HBz.out;omega);clear hrl hrw6;go_upto_region 15 with (first | (at_builtin;refine El.Row.append (E:=inE) HR6.out rfl (.tmp 78) (.tmp 80) 91 rfl Tryz.underlying91 infoIntN rfl (by decide) rfl b kn 3 rfl HBn.out trivial HRL.out HB6.out ?_;intro v2 w7 hrow hgw;have HRO:=h_ hrow;have HGW:=h_ hgw;clear hrow hgw) | fail)
     clear hw hkk2;replace HBe:=kB HBB.out HBe;replace HBz:=kB HBB.out HBz;replace HBd:=kB HBB.out HBd;replace HBf:=kB HBB.out HBf;replace HBW:=h_ (HBW.out.trans (HBB.out.mono HBW.out.size));replace HRW:=h_ (HRW.out.below HBB.out);replace HPV:=h_ (HPV.out.below HBB.out);replace HPI:=h_ (HPI.out.below HBB.out);replace HBe:=HR6.out.kR HGW.out (by omega) HBe;replace HBz:=HR6.out.kR HGW.out (by omega) HBz;replace HBW:=h_ (⟨HGW.out.os.trans HBW.out.os,HGW.out.tape.trans HBW.out.tape,HGW.out.output.trans HBW.out.output,Nat.le_trans HBW.out.size HGW.out.size,fun g hg=>(HGW.out.block g (by have:=HBW.out.size;omega) (fun e=>by have:=(HR6.out.ge e.symm).1;omega)).trans (HBW.out.block g hg)⟩:Below w.heap.size w w7);have HTL3:Hid ((tj++[b]).length=j+1):=h_ (by rw[lsa,HTL.out];rfl);clear HPV HR6 HB6 HRL HBB HBn HRW
     by_cases hj0:j=0
     ·try (exfalso;have:=HJ.out;omega)
      all_goals (
       replace HJ:Hid (j=0):=h_ hj0;clear hj0;have qg:(decide ((0:Int)<((j:Nat):Int)))=false:=by rw[decide_eq_false_iff_not];have:=HJ.out;omega
       have qgn:(decide (0<j))=false:=by rw[decide_eq_false_iff_not];have:=HJ.out;omega
       by_cases hk26:k<26
       ·exfalso;have h1:=HKND.out;have h2:=HLEN.out;have h3:=HAR.out.1;(try have h4:=HJ.out);omega
       have qk:(decide (((k:Nat):Int)<26))=false:=by rw[decide_eq_false_iff_not];omega
       obtain⟨c0,c1,c2,c3,c4,c5,c6,c7⟩:=cl8 HBe.out;go_upto_region 16 with fail
       clear qg qgn qk;clear c0 c1 c2 c3 c4 c5 c6 c7;have hnc:¬ (0<j\/k<26):=by have:=HJ.out;omega
       have hchk:=HCO3.out
       try simp only at hchk
       rw[if_neg hnc] at hchk;have HCH:=h_ hchk;clear hnc hchk
       by_cases hrf:rf=true
       ·subst hrf;have hch:=HCH.out;rw[show akChk true k nm ot ln cl b (lkp ps)=some (1,ln,cl) from by unfold akChk;rfl] at hch;have HE:=h_ (show Except.error (1,ln,cl)=_ from hch);clear hch;go_wp2_with fail
        refine (here_l w7 ke _ _ _ _ _ _ _ _ _ _ ln cl 1 HBe.out).mono ?_;rintro e w8 ⟨rfl,hb⟩;replace HBe:=kB hb HBe;replace HBz:=kB hb HBz;replace HBW:=bw_ HBW hb;replace HRO:=h_ (HRO.out.below hb);clear hb;unfold fltV;obtain⟨y0,y1,y2⟩:=cl3 HBz.out;obtain⟨fy0,fy1,fy2⟩:=fr3 HBz.out;go_wp2_with fail
        clear y0 fy0 y1 fy1 y2 fy2;exact ask_end (tv:=.int .i64 0) rfl HBz HBW hkz (by rw[HR.out,ak_err HAR.out.1 HAR.out.2 HE.out.symm];rfl)
       have hrf2:rf=false:=by simpa using hrf
       clear hrf;subst hrf2;have hks:k=26\/k=27\/k=28:=by have:=HAR.out.1;omega
       clear hk26;have HPW:Hid (PmsAt w7 (fun _=>True) vl ps):=h_ ((HPS.out.below HBW.out).mono (fun _ _=>trivial));rcases hks with hk | hk | hk
       ·exfalso;have h1:=HKND.out;have h2:=HLEN.out;have h3:=HAR.out.1;(try have h4:=HJ.out);omega
       ·exfalso;have h1:=HKND.out;have h2:=HLEN.out;have h3:=HAR.out.1;(try have h4:=HJ.out);omega
       have r27:(((k:Nat):Int)==27)=false:=by rw[beq_eq_false_iff_ne];omega
       have r28:(((k:Nat):Int)==28)=true:=by rw[beq_iff_eq];omega
       have n28:(((k:Nat):Int) != 28)=false:=by rw[bne_eq_false_iff_eq];omega
       have HKK:=h_ hk;clear hk
       by_cases hb1:b=1
       ·have qb:(((b:Nat):Int) != 1)=false:=by rw[bne_eq_false_iff_eq];omega
        have HB1b:=h_ hb1;clear hb1;obtain⟨c0,c1,c2,c3,c4,c5,c6,c7⟩:=cl8 HBe.out;have hch:=HCH.out;rw[show akChk false k nm ot ln cl b (lkp ps)=none from by rw[HKK.out,chk28];simp only[Bool.false_eq_true,if_false,HB1b.out,ne_eq,not_true_eq_false]] at hch;have HAK2:Hid (akRun F false k nm ot ln cl (lkp ps) (j+1) (ks.drop (j+1)) (tj++[b])=akRun F false k nm ot ln cl (lkp ps) 0 ks []):=h_ (show _=_ from hch);clear hch;go_wp2_with fail
        go_roundw
        case rel=>exact⟨j+1,tj++[b],by go_num,hi,HTL3,HRO,HBe,HBz,HBW,HAK2⟩
        case measure=>simp[intOf];omega
       have qb:(((b:Nat):Int) != 1)=true:=by rw[bne_iff_ne];omega
       have HB1b:=h_ hb1;clear hb1;obtain⟨c0,c1,c2,c3,c4,c5,c6,c7⟩:=cl8 HBe.out;have hch:=HCH.out;rw[show akChk false k nm ot ln cl b (lkp ps)=some (4,ln,cl) from by rw[HKK.out,chk28];simp only[Bool.false_eq_true,if_false];rw[if_pos HB1b.out]] at hch;have HE:=h_ (show Except.error (4,ln,cl)=_ from hch);clear hch;go_wp2_with fail
       clear r27 r28 n28 qb;refine (here_l w7 ke _ _ _ _ _ _ _ _ _ _ ln cl 4 HBe.out).mono ?_;rintro e w8 ⟨rfl,hb⟩;clear c0 c1 c2 c3 c4 c5 c6 c7;replace HBe:=kB hb HBe;replace HBz:=kB hb HBz;replace HBW:=bw_ HBW hb;replace HRO:=h_ (HRO.out.below hb);replace HPW:=h_ (HPW.out.below hb);clear hb;unfold fltV;obtain⟨y0,y1,y2⟩:=cl3 HBz.out;obtain⟨fy0,fy1,fy2⟩:=fr3 HBz.out;go_wp2_with fail
       clear y0 fy0 y1 fy1 y2 fy2;exact ask_end (tv:=.int .i64 0) rfl HBz HBW hkz (by rw[HR.out,ak_err HAR.out.1 HAR.out.2 HE.out.symm];rfl)
      )
     replace HJ:Hid (0<j):=h_ (by omega);clear hj0;have qg:(decide ((0:Int)<((j:Nat):Int)))=true:=by rw[decide_eq_true_eq];have:=HJ.out;omega
     have qgn:(decide (0<j))=true:=by rw[decide_eq_true_eq];have:=HJ.out;omega
     go_upto_region 23 with fail
     clear qg qgn;have HAK2:Hid (akRun F rf k nm ot ln cl (lkp ps) (j+1) (ks.drop (j+1)) (tj++[b])=akRun F rf k nm ot ln cl (lkp ps) 0 ks []):=h_ (by have h:=HCO3.out;(try simp only at h);rw[if_pos (.inl HJ.out)] at h;exact h);go_wp2_with fail
     go_roundw
     case rel=>exact⟨j+1,tj++[b],by go_num,hi,HTL3,HRO,HBe,HBz,HBW,HAK2⟩
     case measure=>simp[intOf];omega
   )
  have hje:j=ks.length:=by omega
  subst hje;clear hj hi;have HFI:Hid (R=akFin F rf k nm ln cl (posU (ks.getD 1 u0)) tj (lkp ps)):=h_ (by rw[HR.out];exact ak_fin HAR.out.1 HAR.out.2 (by have h:=HAK.out;rw[List.drop_length,akRun] at h;exact h.symm));clear HAK HR;have hk:=HKND.out;have HTE:Hid (tj.length=2):=h_ (by rw[HTL.out];rcases HAR.out.2 with h | h<;>first | omega | (rw[h,hk];rfl));obtain⟨t0,t1,ht⟩:∃ t0 t1,tj=[t0,t1]:=by have h:=HTE.out;match tj,h with | [t0,t1],_=>exact⟨t0,t1,rfl⟩
  subst ht;obtain⟨ta,tc,htv,htc⟩:=row_get HRW.out (by simp);subst htv;simp only[lsc,lsn,Nat.zero_add,Nat.reduceAdd] at htc HRW;have HTC:=h_ htc;clear htc;simp only[lsc,lsn,Nat.zero_add,Nat.reduceAdd];have r26:(((k:Nat):Int)==26)=false:=by rw[beq_eq_false_iff_ne];omega
  have r28:(((k:Nat):Int)==28)=true:=by rw[beq_iff_eq];omega
  have HKK:=h_ hk;clear hk;obtain⟨c0,c1,c2,c3,c4,c5,c6,c7⟩:=cl8 HBe.out;go_upto_region 27 with fail
  clear r26 r28;clear c0 c1 c2 c3 c4 c5 c6 c7;have x1:wl.cell? ⟨ta.block,ta.off+1,none⟩=some (.int .i64 (t1:Nat)):=HTC.out 1 (by simp);obtain⟨y0,y1,y2⟩:=cl3 HBz.out;obtain⟨fy0,fy1,fy2⟩:=fr3 HBz.out;go_wp2_with fail
  clear x1 y0 fy0 y1 fy1 y2 fy2;exact ask_end (tv:=.int .i64 (t1:Nat)) rfl HBz HBW hkz (by rw[HFI.out,fin26 _ _ _ _ _ _ _ _ _ (by have:=HKK.out;omega)];rfl)
end Go.Proofs.YtpclhpfcbjgokaaGreatDoor
