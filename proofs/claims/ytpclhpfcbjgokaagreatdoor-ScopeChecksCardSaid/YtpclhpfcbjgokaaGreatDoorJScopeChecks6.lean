/-
 Joined texts: ScE,ScF,ScG,ScH,ScI,ScK,ScQ,Rel11.
-/
import Derived.Test.YtpclhpfcbjgokaaGreatDoorJScopeChecks4
import Derived.Test.YtpclhpfcbjgokaaGreatDoorJScopeChecks5
set_option maxHeartbeats 32000000
namespace Go.Proofs.YtpclhpfcbjgokaaGreatDoor
open Go.RowKit Go.Maps
set_option maxRecDepth 100000
set_option linter.unusedVariables false
set_option linter.unusedSimpArgs false
def fnZ:Value:=.agg #[.string ⟨#[]⟩,.slice none 0 0,.string ⟨#[]⟩,.int .i64 0,.bool false,.int .i64 0,.string ⟨#[]⟩,.string ⟨#[]⟩,.bool false,.slice none 0 0,.slice none 0 0,.int .i64 0,.int .i64 0,.int .i64 0,.int .i64 0,.int .i64 0,.string ⟨#[]⟩,.string ⟨#[]⟩,.bool false,.slice none 0 0,.slice none 0 0,.int .i64 0,.int .i64 0,.int .i64 0,.int .i64 0]
def qlZ:Value:=.agg #[.string ⟨#[]⟩,.slice none 0 0,.int .i64 0,.string ⟨#[]⟩,.string ⟨#[]⟩,.bool false,.slice none 0 0,.slice none 0 0,.int .i64 0,.int .i64 0,.int .i64 0,.int .i64 0]
theorem zeroB (w:World):(zeroValue 55).run Tryz.prog w=.ok (iv 0) w:=by kernel_rfl
theorem zeroF (w:World):(zeroValue 59).run Tryz.prog w=.ok fnZ w:=by kernel_rfl
theorem zeroQ (w:World):(zeroValue 78).run Tryz.prog w=.ok qlZ w:=by kernel_rfl
theorem zeroF_ex:∃ B:List Value,B.length=25/\(∀ v ∈ B,v.oneCell'=true)/\∀ w,(zeroValue 59).run Tryz.prog w=.ok (.agg B.toArray) w:=⟨_,rfl,by decide,zeroF⟩
theorem zeroQ_ex:∃ B:List Value,B.length=12/\(∀ v ∈ B,v.oneCell'=true)/\∀ w,(zeroValue 78).run Tryz.prog w=.ok (.agg B.toArray) w:=⟨_,rfl,by decide,zeroQ⟩
def addM (m:Bs->Option Value) (n:Bs) (v:Value):Bs->Option Value:=if (m n).isSome then m else fun x=>if x=n then some v else m x
theorem addM_yes {m:Bs->Option Value} {n:Bs} {u:Value} (h:m n=some u) (v:Value):addM m n v=m:=by unfold addM;rw[h];rfl
theorem addM_no {m:Bs->Option Value} {n:Bs} (h:m n=none) (v:Value):addM m n v=fun x=>if x=n then some v else m x:=by unfold addM;rw[h];rfl
theorem addB_p (b:Nat) (m:Bs->Option Value) (nm:Bs) (v:Nat) (w:World) (hm:MapIs Tryz.prog 9 w b m) (hn:nm.length<=maxLen) {N:Nat} (hd:DomV m N) (hN:N<maxLen) :
  Calls Tryz.prog 62 #[.map (some b),.string ⟨nm.toArray⟩,iv v] w fun e w'=>e=.returned (.bool (m nm).isNone)/\MapIs Tryz.prog 9 w' b (addM m nm (iv v))/\w.grownBy w' (some b):=by
 have HM:=h_ hm;have HN:=h_ hn;have HD:=h_ hd;have HNN:=h_ hN;clear hm hn hd hN;obtain⟨V,hV⟩:∃ V:Value,V=iv v:=⟨_,rfl⟩
 have HV:=h_ hV;rw[<-hV];clear hV
 by_cases hc:(m nm).isSome=true
 ·obtain⟨u,hu⟩:=Option.isSome_iff_exists.1 hc;have HU:=h_ hu;clear hc hu;rw[HU.out];simp only[Option.isNone_some,Option.isNone_none];go_enter Tryz.func62,Tryz.ntmps62
  have HG1:=h_ (World.grownBy.refl w (some b));go_wp2_with (first | (at_lookup;refine wp_look_ok _ rfl _ _ 74 rfl 9 55 Tryz.underlying9 Tryz.underlying74 (zeroB _) b m rfl HM.out nm rfl HN.out ?_;rw[HU.out];simp only[Option.isSome_some,Option.isSome_none,Option.getD_some,Option.getD_none]) | fail)
  go_ret
  exact⟨rfl,by rw[addM_yes HU.out];exact HM.out,HG1.out⟩
 have hu:m nm=none:=by simpa using hc
 have HU:=h_ hu;clear hc hu;rw[HU.out];simp only[Option.isNone_some,Option.isNone_none];go_enter Tryz.func62,Tryz.ntmps62
 have HG1:=h_ (World.grownBy.refl w (some b));have HMX:=HM;go_wp2_with (first | (at_lookup;refine wp_look_ok _ rfl _ _ 74 rfl 9 55 Tryz.underlying9 Tryz.underlying74 (zeroB _) b m rfl HM.out nm rfl HN.out ?_;rw[HU.out];simp only[Option.isSome_some,Option.isSome_none,Option.getD_some,Option.getD_none]) | (at_mapUpdate;refine wp_update _ rfl _ _ _ 74 rfl 9 55 Tryz.underlying9 Tryz.underlying74 b m rfl HMX.out HD.out HNN.out nm rfl HN.out _ rfl ?_;intro wz hmz hgz) | fail)
 have HMZ:=h_ hmz;have HGZ:=h_ hgz;clear hmz hgz;go_wp2_with fail
 go_ret
 exact⟨rfl,by rw[addM_no HU.out];exact HMZ.out,grown_tr HG1.out HGZ.out⟩
theorem addF_p (b:Nat) (m:Bs->Option Value) (nm:Bs) (A:List Value) (hA:A.length=25) (hA1:∀ v ∈ A,v.oneCell'=true) (w:World) (hm:MapIs Tryz.prog 9 w b m) (hn:nm.length<=maxLen) {N:Nat} (hd:DomV m N) (hN:N<maxLen) (hS:∀ n u,m n=some u->∃ B:List Value,B.length=25/\(∀ v ∈ B,v.oneCell'=true)/\u=.agg B.toArray) :
  Calls Tryz.prog 24 #[.map (some b),.string ⟨nm.toArray⟩,.agg A.toArray] w fun e w'=>e=.returned (.bool (m nm).isNone)/\MapIs Tryz.prog 9 w' b (addM m nm (.agg A.toArray))/\w.grownBy w' (some b):=by
 have HM:=h_ hm;have HN:=h_ hn;have HD:=h_ hd;have HNN:=h_ hN;clear hm hn hd hN;obtain⟨V,hV⟩:∃ V:Value,V=.agg A.toArray:=⟨_,rfl⟩
 have HV:=h_ hV;rw[<-hV];clear hV;have HS:=h_ hS;clear hS
 by_cases hc:(m nm).isSome=true
 ·obtain⟨u,hu⟩:=Option.isSome_iff_exists.1 hc;have HU:=h_ hu;clear hc hu;rw[HU.out];simp only[Option.isNone_some,Option.isNone_none];rw[HV.out];obtain⟨B,hB,hB1,rfl⟩:=HS.out _ _ HU.out;go_enter Tryz.func24,Tryz.ntmps24
  go_upto_region 1 with fail
  obtain⟨w1,k,hw,hkk,hb,hs1,HA⟩:=newb w A.toArray 59;rw[hw,<-hkk];have HM1:=h_ (HM.out.keep (hb.block _ HM.out.lt));have HG1:=h_ (below_grown hb (some b));have hkb:b<k:=by rw[hkk];exact HM.out.lt
  clear hw hkk hb hs1;have hBs:B.toArray.size=25:=by rw[List.size_toArray];exact hB
  have hBa:B.toArray.all (·.oneCell')=true:=by rw[List.all_toArray];exact List.all_eq_true.2 hB1
  have hmd:=made_at w1 (.cells (#[.string ⟨#[]⟩,.slice none 0 0,.string ⟨#[]⟩,.int .i64 0,.bool false,.int .i64 0,.string ⟨#[]⟩,.string ⟨#[]⟩,.bool false,.slice none 0 0,.slice none 0 0,.int .i64 0,.int .i64 0,.int .i64 0,.int .i64 0,.int .i64 0,.string ⟨#[]⟩,.string ⟨#[]⟩,.bool false,.slice none 0 0,.slice none 0 0,.int .i64 0,.int .i64 0,.int .i64 0,.int .i64 0]:Array Value) 59) _ rfl;have HBS:=h_ hBs;have HBA:=h_ hBa;have HMD:=h_ hmd;clear hBs hBa hmd hB hB1
  go_upto_region 2 with (first | (at_lookup;refine wp_look_ok _ rfl _ _ 73 rfl 9 59 Tryz.underlying9 Tryz.underlying73 (zeroF _) b m rfl HM1.out nm rfl HN.out ?_;rw[HU.out];simp only[Option.isSome_some,Option.isSome_none,Option.getD_some,Option.getD_none]) | (refine wpList_store_row (P:=Tryz.prog) rfl 59 _ _ rfl w1.heap.size B.toArray rfl rfl 59 (#[.string ⟨#[]⟩,.slice none 0 0,.string ⟨#[]⟩,.int .i64 0,.bool false,.int .i64 0,.string ⟨#[]⟩,.string ⟨#[]⟩,.bool false,.slice none 0 0,.slice none 0 0,.int .i64 0,.int .i64 0,.int .i64 0,.int .i64 0,.int .i64 0,.string ⟨#[]⟩,.string ⟨#[]⟩,.bool false,.slice none 0 0,.slice none 0 0,.int .i64 0,.int .i64 0,.int .i64 0,.int .i64 0]:Array Value) HMD.out (by rw[HBS.out];kernel_rfl) (HBS.out.symm) HBA.out ?_) | fail)
  obtain⟨w2,hw⟩:∃ x,x=(w1.alloc (.cells (#[.string ⟨#[]⟩,.slice none 0 0,.string ⟨#[]⟩,.int .i64 0,.bool false,.int .i64 0,.string ⟨#[]⟩,.string ⟨#[]⟩,.bool false,.slice none 0 0,.slice none 0 0,.int .i64 0,.int .i64 0,.int .i64 0,.int .i64 0,.int .i64 0,.string ⟨#[]⟩,.string ⟨#[]⟩,.bool false,.slice none 0 0,.slice none 0 0,.int .i64 0,.int .i64 0,.int .i64 0,.int .i64 0]:Array Value) 59)).setRow w1.heap.size B.toArray:=⟨_,rfl⟩
  rw[<-hw];have hgs:=grown_setRow (w1.alloc (.cells (#[.string ⟨#[]⟩,.slice none 0 0,.string ⟨#[]⟩,.int .i64 0,.bool false,.int .i64 0,.string ⟨#[]⟩,.string ⟨#[]⟩,.bool false,.slice none 0 0,.slice none 0 0,.int .i64 0,.int .i64 0,.int .i64 0,.int .i64 0,.int .i64 0,.string ⟨#[]⟩,.string ⟨#[]⟩,.bool false,.slice none 0 0,.slice none 0 0,.int .i64 0,.int .i64 0,.int .i64 0,.int .i64 0]:Array Value) 59)) w1.heap.size B.toArray;have hb2:Below w1.heap.size w1 w2:=by rw[hw];exact ((Below.refl _ _).alloc (Nat.le_refl _) _).trans (grown_below hgs (by simp) (Nat.le_refl _))
  have HM2:=h_ (HM1.out.keep (hb2.block _ HM1.out.lt));have HG2:=h_ (grown_tr HG1.out (below_grown hb2 (some b)));replace HA:=kB hb2 HA;clear hw hgs hb2 HM1 HG1 HMD HBS HBA;go_wp2_with fail
  go_ret
  exact⟨rfl,by rw[addM_yes HU.out];exact HM2.out,HG2.out⟩
 have hu:m nm=none:=by simpa using hc
 have HU:=h_ hu;clear hc hu;rw[HU.out];simp only[Option.isNone_some,Option.isNone_none];rw[HV.out];obtain⟨B,hB,hB1,hz⟩:=zeroF_ex;have HZ:=h_ hz;clear hz;go_enter Tryz.func24,Tryz.ntmps24
 go_upto_region 1 with fail
 obtain⟨w1,k,hw,hkk,hb,hs1,HA⟩:=newb w A.toArray 59;rw[hw,<-hkk];have HM1:=h_ (HM.out.keep (hb.block _ HM.out.lt));have HG1:=h_ (below_grown hb (some b));have hkb:b<k:=by rw[hkk];exact HM.out.lt
 clear hw hkk hb hs1;have hBs:B.toArray.size=25:=by rw[List.size_toArray];exact hB
 have hBa:B.toArray.all (·.oneCell')=true:=by rw[List.all_toArray];exact List.all_eq_true.2 hB1
 have hmd:=made_at w1 (.cells (#[.string ⟨#[]⟩,.slice none 0 0,.string ⟨#[]⟩,.int .i64 0,.bool false,.int .i64 0,.string ⟨#[]⟩,.string ⟨#[]⟩,.bool false,.slice none 0 0,.slice none 0 0,.int .i64 0,.int .i64 0,.int .i64 0,.int .i64 0,.int .i64 0,.string ⟨#[]⟩,.string ⟨#[]⟩,.bool false,.slice none 0 0,.slice none 0 0,.int .i64 0,.int .i64 0,.int .i64 0,.int .i64 0]:Array Value) 59) _ rfl;have HBS:=h_ hBs;have HBA:=h_ hBa;have HMD:=h_ hmd;clear hBs hBa hmd hB hB1
 go_upto_region 2 with (first | (at_lookup;refine wp_look_ok _ rfl _ _ 73 rfl 9 59 Tryz.underlying9 Tryz.underlying73 (HZ.out _) b m rfl HM1.out nm rfl HN.out ?_;rw[HU.out];simp only[Option.isSome_some,Option.isSome_none,Option.getD_some,Option.getD_none]) | (refine wpList_store_row (P:=Tryz.prog) rfl 59 _ _ rfl w1.heap.size B.toArray rfl rfl 59 (#[.string ⟨#[]⟩,.slice none 0 0,.string ⟨#[]⟩,.int .i64 0,.bool false,.int .i64 0,.string ⟨#[]⟩,.string ⟨#[]⟩,.bool false,.slice none 0 0,.slice none 0 0,.int .i64 0,.int .i64 0,.int .i64 0,.int .i64 0,.int .i64 0,.string ⟨#[]⟩,.string ⟨#[]⟩,.bool false,.slice none 0 0,.slice none 0 0,.int .i64 0,.int .i64 0,.int .i64 0,.int .i64 0]:Array Value) HMD.out (by rw[HBS.out];kernel_rfl) (HBS.out.symm) HBA.out ?_) | fail)
 obtain⟨w2,hw⟩:∃ x,x=(w1.alloc (.cells (#[.string ⟨#[]⟩,.slice none 0 0,.string ⟨#[]⟩,.int .i64 0,.bool false,.int .i64 0,.string ⟨#[]⟩,.string ⟨#[]⟩,.bool false,.slice none 0 0,.slice none 0 0,.int .i64 0,.int .i64 0,.int .i64 0,.int .i64 0,.int .i64 0,.string ⟨#[]⟩,.string ⟨#[]⟩,.bool false,.slice none 0 0,.slice none 0 0,.int .i64 0,.int .i64 0,.int .i64 0,.int .i64 0]:Array Value) 59)).setRow w1.heap.size B.toArray:=⟨_,rfl⟩
 rw[<-hw];have hgs:=grown_setRow (w1.alloc (.cells (#[.string ⟨#[]⟩,.slice none 0 0,.string ⟨#[]⟩,.int .i64 0,.bool false,.int .i64 0,.string ⟨#[]⟩,.string ⟨#[]⟩,.bool false,.slice none 0 0,.slice none 0 0,.int .i64 0,.int .i64 0,.int .i64 0,.int .i64 0,.int .i64 0,.string ⟨#[]⟩,.string ⟨#[]⟩,.bool false,.slice none 0 0,.slice none 0 0,.int .i64 0,.int .i64 0,.int .i64 0,.int .i64 0]:Array Value) 59)) w1.heap.size B.toArray;have hb2:Below w1.heap.size w1 w2:=by rw[hw];exact ((Below.refl _ _).alloc (Nat.le_refl _) _).trans (grown_below hgs (by simp) (Nat.le_refl _))
 have HM2:=h_ (HM1.out.keep (hb2.block _ HM1.out.lt));have HG2:=h_ (grown_tr HG1.out (below_grown hb2 (some b)));replace HA:=kB hb2 HA;clear hw hgs hb2 HM1 HG1 HMD HBS HBA;have HMX:=HM2;have hcA:∀ j v,A[j]?=some v->w2.cell? ((⟨k,0,none⟩:Addr).add j)=some v:=fun j v hj=>by rw[add_lit,Nat.zero_add];exact cell_at HA.out j (by simpa using hj)
 have HCA:=h_ hcA;clear hcA;go_wp2_with (first | (refine wpList_plain rfl fun K1 hK1=>?_;refine wp_load_row (P:=Tryz.prog) 59 _ rfl ⟨k,0,none⟩ rfl A _ HCA.out Tryz.underlying59 rfl (by rw[hA];kernel_rfl) ?_;refine hK1 _ _ ?_) | (at_mapUpdate;refine wp_update _ rfl _ _ _ 73 rfl 9 59 Tryz.underlying9 Tryz.underlying73 b m rfl HMX.out HD.out HNN.out nm rfl HN.out _ rfl ?_;intro wz hmz hgz) | fail)
 have HMZ:=h_ hmz;have HGZ:=h_ hgz;clear hmz hgz;go_wp2_with fail
 go_ret
 refine⟨rfl,?_,grown_tr HG2.out HGZ.out⟩;rw[addM_no HU.out];exact HMZ.out
theorem addQ_p (b:Nat) (m:Bs->Option Value) (nm:Bs) (A:List Value) (hA:A.length=12) (hA1:∀ v ∈ A,v.oneCell'=true) (w:World) (hm:MapIs Tryz.prog 9 w b m) (hn:nm.length<=maxLen) {N:Nat} (hd:DomV m N) (hN:N<maxLen) (hS:∀ n u,m n=some u->∃ B:List Value,B.length=12/\(∀ v ∈ B,v.oneCell'=true)/\u=.agg B.toArray) :
  Calls Tryz.prog 36 #[.map (some b),.string ⟨nm.toArray⟩,.agg A.toArray] w fun e w'=>e=.returned (.bool (m nm).isNone)/\MapIs Tryz.prog 9 w' b (addM m nm (.agg A.toArray))/\w.grownBy w' (some b):=by
 have HM:=h_ hm;have HN:=h_ hn;have HD:=h_ hd;have HNN:=h_ hN;clear hm hn hd hN;obtain⟨V,hV⟩:∃ V:Value,V=.agg A.toArray:=⟨_,rfl⟩
 have HV:=h_ hV;rw[<-hV];clear hV;have HS:=h_ hS;clear hS
 by_cases hc:(m nm).isSome=true
 ·obtain⟨u,hu⟩:=Option.isSome_iff_exists.1 hc;have HU:=h_ hu;clear hc hu;rw[HU.out];simp only[Option.isNone_some,Option.isNone_none];rw[HV.out];obtain⟨B,hB,hB1,rfl⟩:=HS.out _ _ HU.out;go_enter Tryz.func36,Tryz.ntmps36
  go_upto_region 1 with fail
  obtain⟨w1,k,hw,hkk,hb,hs1,HA⟩:=newb w A.toArray 78;rw[hw,<-hkk];have HM1:=h_ (HM.out.keep (hb.block _ HM.out.lt));have HG1:=h_ (below_grown hb (some b));have hkb:b<k:=by rw[hkk];exact HM.out.lt
  clear hw hkk hb hs1;have hBs:B.toArray.size=12:=by rw[List.size_toArray];exact hB
  have hBa:B.toArray.all (·.oneCell')=true:=by rw[List.all_toArray];exact List.all_eq_true.2 hB1
  have hmd:=made_at w1 (.cells (#[.string ⟨#[]⟩,.slice none 0 0,.int .i64 0,.string ⟨#[]⟩,.string ⟨#[]⟩,.bool false,.slice none 0 0,.slice none 0 0,.int .i64 0,.int .i64 0,.int .i64 0,.int .i64 0]:Array Value) 78) _ rfl;have HBS:=h_ hBs;have HBA:=h_ hBa;have HMD:=h_ hmd;clear hBs hBa hmd hB hB1
  go_upto_region 2 with (first | (at_lookup;refine wp_look_ok _ rfl _ _ 106 rfl 9 78 Tryz.underlying9 Tryz.underlying106 (zeroQ _) b m rfl HM1.out nm rfl HN.out ?_;rw[HU.out];simp only[Option.isSome_some,Option.isSome_none,Option.getD_some,Option.getD_none]) | (refine wpList_store_row (P:=Tryz.prog) rfl 78 _ _ rfl w1.heap.size B.toArray rfl rfl 78 (#[.string ⟨#[]⟩,.slice none 0 0,.int .i64 0,.string ⟨#[]⟩,.string ⟨#[]⟩,.bool false,.slice none 0 0,.slice none 0 0,.int .i64 0,.int .i64 0,.int .i64 0,.int .i64 0]:Array Value) HMD.out (by rw[HBS.out];kernel_rfl) (HBS.out.symm) HBA.out ?_) | fail)
  obtain⟨w2,hw⟩:∃ x,x=(w1.alloc (.cells (#[.string ⟨#[]⟩,.slice none 0 0,.int .i64 0,.string ⟨#[]⟩,.string ⟨#[]⟩,.bool false,.slice none 0 0,.slice none 0 0,.int .i64 0,.int .i64 0,.int .i64 0,.int .i64 0]:Array Value) 78)).setRow w1.heap.size B.toArray:=⟨_,rfl⟩
  rw[<-hw];have hgs:=grown_setRow (w1.alloc (.cells (#[.string ⟨#[]⟩,.slice none 0 0,.int .i64 0,.string ⟨#[]⟩,.string ⟨#[]⟩,.bool false,.slice none 0 0,.slice none 0 0,.int .i64 0,.int .i64 0,.int .i64 0,.int .i64 0]:Array Value) 78)) w1.heap.size B.toArray;have hb2:Below w1.heap.size w1 w2:=by rw[hw];exact ((Below.refl _ _).alloc (Nat.le_refl _) _).trans (grown_below hgs (by simp) (Nat.le_refl _))
  have HM2:=h_ (HM1.out.keep (hb2.block _ HM1.out.lt));have HG2:=h_ (grown_tr HG1.out (below_grown hb2 (some b)));replace HA:=kB hb2 HA;clear hw hgs hb2 HM1 HG1 HMD HBS HBA;go_wp2_with fail
  go_ret
  exact⟨rfl,by rw[addM_yes HU.out];exact HM2.out,HG2.out⟩
 have hu:m nm=none:=by simpa using hc
 have HU:=h_ hu;clear hc hu;rw[HU.out];simp only[Option.isNone_some,Option.isNone_none];rw[HV.out];obtain⟨B,hB,hB1,hz⟩:=zeroQ_ex;have HZ:=h_ hz;clear hz;go_enter Tryz.func36,Tryz.ntmps36
 go_upto_region 1 with fail
 obtain⟨w1,k,hw,hkk,hb,hs1,HA⟩:=newb w A.toArray 78;rw[hw,<-hkk];have HM1:=h_ (HM.out.keep (hb.block _ HM.out.lt));have HG1:=h_ (below_grown hb (some b));have hkb:b<k:=by rw[hkk];exact HM.out.lt
 clear hw hkk hb hs1;have hBs:B.toArray.size=12:=by rw[List.size_toArray];exact hB
 have hBa:B.toArray.all (·.oneCell')=true:=by rw[List.all_toArray];exact List.all_eq_true.2 hB1
 have hmd:=made_at w1 (.cells (#[.string ⟨#[]⟩,.slice none 0 0,.int .i64 0,.string ⟨#[]⟩,.string ⟨#[]⟩,.bool false,.slice none 0 0,.slice none 0 0,.int .i64 0,.int .i64 0,.int .i64 0,.int .i64 0]:Array Value) 78) _ rfl;have HBS:=h_ hBs;have HBA:=h_ hBa;have HMD:=h_ hmd;clear hBs hBa hmd hB hB1
 go_upto_region 2 with (first | (at_lookup;refine wp_look_ok _ rfl _ _ 106 rfl 9 78 Tryz.underlying9 Tryz.underlying106 (HZ.out _) b m rfl HM1.out nm rfl HN.out ?_;rw[HU.out];simp only[Option.isSome_some,Option.isSome_none,Option.getD_some,Option.getD_none]) | (refine wpList_store_row (P:=Tryz.prog) rfl 78 _ _ rfl w1.heap.size B.toArray rfl rfl 78 (#[.string ⟨#[]⟩,.slice none 0 0,.int .i64 0,.string ⟨#[]⟩,.string ⟨#[]⟩,.bool false,.slice none 0 0,.slice none 0 0,.int .i64 0,.int .i64 0,.int .i64 0,.int .i64 0]:Array Value) HMD.out (by rw[HBS.out];kernel_rfl) (HBS.out.symm) HBA.out ?_) | fail)
 obtain⟨w2,hw⟩:∃ x,x=(w1.alloc (.cells (#[.string ⟨#[]⟩,.slice none 0 0,.int .i64 0,.string ⟨#[]⟩,.string ⟨#[]⟩,.bool false,.slice none 0 0,.slice none 0 0,.int .i64 0,.int .i64 0,.int .i64 0,.int .i64 0]:Array Value) 78)).setRow w1.heap.size B.toArray:=⟨_,rfl⟩
 rw[<-hw];have hgs:=grown_setRow (w1.alloc (.cells (#[.string ⟨#[]⟩,.slice none 0 0,.int .i64 0,.string ⟨#[]⟩,.string ⟨#[]⟩,.bool false,.slice none 0 0,.slice none 0 0,.int .i64 0,.int .i64 0,.int .i64 0,.int .i64 0]:Array Value) 78)) w1.heap.size B.toArray;have hb2:Below w1.heap.size w1 w2:=by rw[hw];exact ((Below.refl _ _).alloc (Nat.le_refl _) _).trans (grown_below hgs (by simp) (Nat.le_refl _))
 have HM2:=h_ (HM1.out.keep (hb2.block _ HM1.out.lt));have HG2:=h_ (grown_tr HG1.out (below_grown hb2 (some b)));replace HA:=kB hb2 HA;clear hw hgs hb2 HM1 HG1 HMD HBS HBA;have HMX:=HM2;have hcA:∀ j v,A[j]?=some v->w2.cell? ((⟨k,0,none⟩:Addr).add j)=some v:=fun j v hj=>by rw[add_lit,Nat.zero_add];exact cell_at HA.out j (by simpa using hj)
 have HCA:=h_ hcA;clear hcA;go_wp2_with (first | (refine wpList_plain rfl fun K1 hK1=>?_;refine wp_load_row (P:=Tryz.prog) 78 _ rfl ⟨k,0,none⟩ rfl A _ HCA.out Tryz.underlying78 rfl (by rw[hA];kernel_rfl) ?_;refine hK1 _ _ ?_) | (at_mapUpdate;refine wp_update _ rfl _ _ _ 106 rfl 9 78 Tryz.underlying9 Tryz.underlying106 b m rfl HMX.out HD.out HNN.out nm rfl HN.out _ rfl ?_;intro wz hmz hgz) | fail)
 have HMZ:=h_ hmz;have HGZ:=h_ hgz;clear hmz hgz;go_wp2_with fail
 go_ret
 refine⟨rfl,?_,grown_tr HG2.out HGZ.out⟩;rw[addM_no HU.out];exact HMZ.out
theorem variable_s {w0 w:World} {kg bf bs:Nat} {Gv:Bs->Option Value} {s:Ks} {rf:Bool} {ev:Value} (h:Ck w0 w kg bf bs Gv s rf ev) (x:X) (nm:Bs) (ln cl:Nat) (e0:x.nm=⟨nm.toArray⟩) (e1:x.ln=(ln:Nat)) (e2:x.cl=(cl:Nat)) (hn:nm.length<=maxLen) :
  Calls Tryz.prog 77 #[.pointer (some ⟨kg,0,none⟩),xv x] w fun e w'=>e=.returned (iv (kVar nm ln cl s).1)/\CkP w0 w kg bf bs Gv ((kVar nm ln cl s).2) rf w':=by
 obtain⟨xk,xnm,xot,xb,xao,xn,xq,xko,xkn,xkc,xln,xcl⟩:=x;simp only at e0 e1 e2;subst e0 e1 e2;have HN:=h_ hn;clear hn;simp only[xv];have HC:=h_ h;have HBg:=h_ h.blk;have HF:Hid (Fc w w kg bs):=h_ (Fc.refl _ _ _);clear h;go_enter Tryz.func77,Tryz.ntmps77
 go_upto_region 1 with fail
 obtain⟨w1,ke,hw,hkk,hb,hs1,HBe⟩:=newb w #[.int .i64 xk,.string ⟨nm.toArray⟩,.string xot,.bool xb,.slice xao xn xq,.slice xko xkn xkc,.int .i64 (ln:Nat),.int .i64 (cl:Nat)] 48;have hge:=lk_ hkk HBg;have hse:bs<ke:=by rw[hkk];exact HC.out.sm.lt
 have hee:w.heap.size<=ke:=by rw[hkk];exact HF.out.size
 rw[hw,<-hkk];replace HBg:=kB hb HBg;replace HC:=h_ (HC.out.below hb);replace HF:=fb_ HF hb;clear hw hb hkk hs1;obtain⟨sc,er⟩:=s;have hlt_g:=lt_of_block HBg.out;have hlt_e:=lt_of_block HBe.out;refine R7.r0 [[],[0],[0,1],[0,1,2],[],[4],[0,1,2,3,4,5],[0,1,2,3,4,5,6],[0,1,2,3,4,5,6,7],[0,1,2,3,4,5,6,7],[0,1,2,3,4,5,6,7,8],[0,1,2,3,4,5,6,7,8,9,10]] 12 ?_;refine R7.cd ?_ (fun T xs wr hA=>?_) ?_
 rotate_left
 ·have e0:=hA.pq 0;simp only[gsa,gsz] at e0;clear hA;go_simp<;>(try with_reducible rfl)
 refine R7.cd ?_ (fun T xs wr hA=>?_) ?_
 rotate_left
 ·have e8:=tr_ (hA.tq 0 8) (hA.fq 0)
  (try simp (disch:=decide) only [R7.mi] at e8)
  clear hA;go_simp<;>(try with_reducible rfl)
 refine R7.cd ?_ (fun T xs wr hA=>?_) ?_
 rotate_left
 ·have e9:=tr_ (hA.tq 1 9) (hA.fq 1)
  (try simp (disch:=decide) only [R7.mi] at e9)
  clear hA;go_simp<;>(try with_reducible rfl)
 refine R7.cd ?_ (fun T xs wr hA=>?_) ?_
 rotate_left
 ·have e10:=tr_ (hA.tq 2 10) (hA.fq 2)
  (try simp (disch:=decide) only [R7.mi] at e10)
  have hBq:wr.heap[kg]?=_:=(hA.bl _ hlt_g (fun q h=>absurd h (Nat.not_lt_zero _))).trans HBg.out;obtain⟨q0,q1,q2,q3⟩:=cl4 hBq;clear hBq;clear hA;go_simp<;>(try with_reducible rfl)
 refine R7.cd ?_ (fun T xs wr hA=>?_) ?_
 rotate_left
 ·have e3:=hA.pq 3;simp only[gsa,gsc,gsz] at e3;clear hA;go_simp<;>(try with_reducible rfl)
 refine R7.cd ?_ (fun T xs wr hA=>?_) ?_
 rotate_left
 ·have e12:=tr_ (hA.tq 4 12) (hA.fq 4)
  (try simp (disch:=decide) only [R7.mi] at e12)
  have hBq:wr.heap[ke]?=_:=(hA.bl _ hlt_e (fun q h=>absurd h (Nat.not_lt_zero _))).trans HBe.out;obtain⟨q0,q1,q2,q3,q4,q5,q6,q7⟩:=cl8 hBq;clear hBq;clear hA;go_simp<;>(try with_reducible rfl)
 refine R7.Chain.call (fun xs v w=>v=.tuple #[iv ((sc nm).getD 0),.bool (sc nm).isSome]) (fun _ _ _ _ h _=>h) (fun _ _ _ _ _ h _ _=>h) (by rfl) (fun T xs wr hA=>?_) ?_
 ·have hsw:=(hA.be 0 (Nat.zero_le _) (fun _ _=>Nat.zero_le _)).size;have e11:=tr_ (hA.tq 3 11) (hA.fq 3);have e13:=tr_ (hA.tq 5 13) (hA.fq 5)
  (try simp (disch:=decide) only [R7.mi] at e11 e13)
  have hbw:=undrew (hA.be w1.heap.size (Nat.le_refl _) (fun q h=>absurd h (Nat.not_lt_zero _)));have hlk:=(HC.out.sm.keep (hbw.block _ HC.out.sm.lt)).look_ok Tryz.underlying9 Tryz.underlying74 (zeroB wr) (s:=nm) HN.out;rw[scV_get,scV_some] at hlk;unfold bsv at hlk;clear hbw;clear hA;refine⟨(by rfl),fun K hK=>?_⟩;go_simp
  exact hK.out _ _ rfl (Below.refl _ _)
 refine R7.cd ?_ (fun T xs wr hA=>?_) ?_
 rotate_left
 ·have e14:=hA.tm 6 14 (by rfl) (by rfl);have f14:xs 6=(.tuple #[iv ((sc nm).getD 0),.bool (sc nm).isSome]):=hA.fa 6 (by rfl);rw[f14] at e14;clear f14;clear hA;go_simp<;>(try with_reducible rfl)
 refine R7.cd ?_ (fun T xs wr hA=>?_) ?_
 rotate_left
 ·have e7:=tr_ (hA.tq 7 7) (hA.fq 7)
  (try simp (disch:=decide) only [R7.mi] at e7)
  clear hA;go_simp<;>(try with_reducible rfl)
 refine R7.cd ?_ (fun T xs wr hA=>?_) ?_
 rotate_left
 ·have e7:=tr_ (hA.tq 7 7) (hA.fq 7)
  (try simp (disch:=decide) only [R7.mi] at e7)
  clear hA;go_simp<;>(try with_reducible rfl)
 refine R7.cd ?_ (fun T xs wr hA=>?_) ?_
 rotate_left
 ·have e15:=tr_ (hA.tq 8 15) (hA.fq 8)
  (try simp (disch:=decide) only [R7.mi] at e15)
  clear hA;go_simp<;>(try with_reducible rfl)
 refine R7.cd ?_ (fun T xs wr hA=>?_) ?_
 rotate_left
 ·have e16:=tr_ (hA.tq 9 16) (hA.fq 9)
  (try simp (disch:=decide) only [R7.mi] at e16)
  clear hA;go_simp<;>(try with_reducible rfl)
 refine R7.Chain.done (fun xs w2 hL=>?_);obtain⟨⟨hbe,hbl⟩,hf,-,-⟩:=hL;have f0:xs 0=_:=hf 0 (by decide);have f1:xs 1=_:=hf 1 (by decide);have f2:xs 2=_:=hf 2 (by decide);have f3:xs 3=_:=hf 3 (by decide);have f4:xs 4=_:=hf 4 (by decide);have f5:xs 5=_:=hf 5 (by decide);have f6:xs 6=(.tuple #[iv ((sc nm).getD 0),.bool (sc nm).isSome]):=hf 6 (by decide);have f7:xs 7=_:=hf 7 (by decide);have f8:xs 8=_:=hf 8 (by decide);have f9:xs 9=_:=hf 9 (by decide);have f10:xs 10=_:=hf 10 (by decide);have f11:xs 11=_:=hf 11 (by decide)
 (try simp (disch:=decide) only [R7.mi] at f0 f1 f2 f3 f4 f5 f7 f8 f9 f10 f11)
 have hb:Below w1.heap.size w1 w2:=R7.b0_ hbe;clear hbe hbl hf;refine R7.rest_done ?_;simp only[R7.fill,t5_,t6_,t7_,f0,f1,f2,f3,f4,f5,f6,f7,f8,f9,f10,f11];clear hlt_g hlt_e f0 f1 f2 f3 f4 f5 f6 f7 f8 f9 f10 f11;replace HBg:=kB hb HBg;replace HBe:=kB hb HBe;replace HC:=h_ (HC.out.below hb);replace HF:=fb_ HF hb;clear hb;obtain⟨c0,c1,c2,c3,c4,c5,c6,c7⟩:=cl8 HBe.out;go_wp2_with fail
 refine (need_p HC.out ⟨xk,⟨nm.toArray⟩,xot,xb,xao,xn,xq,xko,xkn,xkc,(ln:Nat),(cl:Nat)⟩ ln cl rfl rfl (sc nm).isSome 3).mono ?_;rintro e w3 ⟨rfl,⟨ev,hC⟩,hF⟩;clear c0 c1 c2 c3 c4 c5 c6 c7;replace HBe:=kF hF HBe;replace HF:=h_ (HF.out.trans hF);replace HC:=h_ hC;replace HBg:=h_ hC.blk;clear hC hF;go_wp2_with fail
 go_ret
 exact⟨rfl,⟨_,HC.out⟩,HF.out⟩
theorem nbeq (a b:Nat):(((a:Nat):Int)==((b:Nat):Int))=(a==b):=by rw[Bool.eq_iff_iff];simp;omega
theorem nbeq1 (a:Nat):(((a:Nat):Int)==1)=(a==1):=nbeq a 1
theorem nbeq2 (a:Nat):(((a:Nat):Int)==2)=(a==2):=nbeq a 2
theorem choice_s {w0 w:World} {kg bf bs:Nat} {Gv:Bs->Option Value} {s:Ks} {rf:Bool} {ev:Value} (h:Ck w0 w kg bf bs Gv s rf ev) (x:X) (nm:Bs) (ln cl:Nat) (e0:x.nm=⟨nm.toArray⟩) (e1:x.ln=(ln:Nat)) (e2:x.cl=(cl:Nat)) (kt:Nat) (t0 t1 t2:Nat) (hT:w.heap[kt]?=some (.cells #[iv t0,iv t1,iv t2] 55 (0,0))) (n1:kt≠kg) (n2:kt≠bs) :
  Calls Tryz.prog 79 #[.pointer (some ⟨kg,0,none⟩),xv x,.slice (some ⟨kt,0,none⟩) 3 3] w fun e w'=>e=.returned (iv (kIf rf ln cl [t0,t1,t2] s).1)/\CkP w0 w kg bf bs Gv ((kIf rf ln cl [t0,t1,t2] s).2) rf w':=by
 unfold iv at hT
 by_cases h0:t0=1
 ·obtain⟨xk,xnm,xot,xb,xao,xn,xq,xko,xkn,xkc,xln,xcl⟩:=x;simp only at e0 e1 e2;subst e0 e1 e2;simp only[xv];subst h0;have HC:=h_ h;have HBg:=h_ h.blk;have HF:Hid (Fc w w kg bs):=h_ (Fc.refl _ _ _);clear h;replace hT:w.heap[kt]?=some (.cells #[.int .i64 1,.int .i64 (t1:Nat),.int .i64 (t2:Nat)] 55 (0,0)):=hT;have HBt:=h_ hT;clear hT;go_enter Tryz.func79,Tryz.ntmps79
  go_upto_region 1 with fail
  obtain⟨w1,ke,hw,hkk,hb,hs1,HBe⟩:=newb w #[.int .i64 xk,.string ⟨nm.toArray⟩,.string xot,.bool xb,.slice xao xn xq,.slice xko xkn xkc,.int .i64 (ln:Nat),.int .i64 (cl:Nat)] 48;have hge:=lk_ hkk HBg;have hse:bs<ke:=by rw[hkk];exact HC.out.sm.lt
  have hee:w.heap.size<=ke:=by rw[hkk];exact HF.out.size
  have ht_e:=lk_ hkk HBt;rw[hw,<-hkk];replace HBg:=kB hb HBg;replace HBt:=kB hb HBt;replace HC:=h_ (HC.out.below hb);replace HF:=fb_ HF hb;clear hw hb hkk hs1;obtain⟨c0,c1,c2,c3,c4,c5,c6,c7⟩:=cl8 HBe.out;obtain⟨g0,g1,g2,g3⟩:=cl4 HBg.out;obtain⟨y0,y1,y2⟩:=cl3 HBt.out;refine wp_region_still_tail 7 (by kernel_rfl) (by kernel_rfl) ?_;simp only[List.take_succ_cons,List.take_zero,List.drop_succ_cons,List.drop_zero];refine wpStill_step (fun K hK=>?_);replace hK:=h_ hK;go_simp
  refine hK.out _ ?_;clear hK K;refine wpStill_step (fun K hK=>?_);replace hK:=h_ hK;go_simp
  refine hK.out _ ?_;clear hK K;refine wpStill_step (fun K hK=>?_);replace hK:=h_ hK;go_simp
  refine hK.out _ ?_;clear hK K;refine wpStill_step (fun K hK=>?_);replace hK:=h_ hK;go_simp
  refine hK.out _ ?_;clear hK K;refine wpStill_step (fun K hK=>?_);replace hK:=h_ hK;go_simp
  refine hK.out _ ?_;clear hK K;refine wpStill_step (fun K hK=>?_);replace hK:=h_ hK;go_simp
  refine hK.out _ ?_;clear hK K;refine wpStill_step (fun K hK=>?_);replace hK:=h_ hK;go_simp
  refine hK.out _ ?_;clear hK K;refine wpStill_nil ?_;clear c0 c1 c2 c3 c4 c5 c6 c7 g0 g1 g2 g3 y0 y1 y2;obtain⟨w2,hw⟩:∃ x,x=w1.drew:=⟨_,rfl⟩
  have hb:Below w1.heap.size w1 w2:=by rw[hw];exact (Below.refl _ _).drew
  change wpList _ _ _ _ _ w1.drew;rw[<-hw];replace HBg:=kB hb HBg;replace HBt:=kB hb HBt;replace HBe:=kB hb HBe;replace HC:=h_ (HC.out.below hb);replace HF:=fb_ HF hb;clear hw hb;obtain⟨c0,c1,c2,c3,c4,c5,c6,c7⟩:=cl8 HBe.out;obtain⟨g0,g1,g2,g3⟩:=cl4 HBg.out;obtain⟨y0,y1,y2⟩:=cl3 HBt.out;go_wp2_with fail
  refine (need_p HC.out ⟨xk,⟨nm.toArray⟩,xot,xb,xao,xn,xq,xko,xkn,xkc,(ln:Nat),(cl:Nat)⟩ ln cl rfl rfl (!rf) 1).mono ?_;rintro e w3 ⟨rfl,⟨ev,hC⟩,hF⟩;clear c0 c1 c2 c3 c4 c5 c6 c7 g0 g1 g2 g3 y0 y1 y2;replace HBt:=kF hF HBt;replace HBe:=kF hF HBe;replace HF:=h_ (HF.out.trans hF);replace HC:=h_ hC;replace HBg:=h_ hC.blk;clear hC hF;go_upto_region 2 with fail
  have hlt_g:=lt_of_block HBg.out;have hlt_e:=lt_of_block HBe.out;have hlt_t:=lt_of_block HBt.out;refine R7.r0 [[],[],[],[2],[2,3],[2,3,4],[2,3,4,5],[2,3,4,5,6],[2,3,4,5,6,7],[2,3,4,5,6,7,8],[2,3,4,5,6],[2,3,4,5,6,10],[2,3,4,5,6,10,11],[2,3,4,5,6,7,8,9,10,11,12],[2,3,4,5,6,7,8,9,10,11,12,13],[0,1,2,3,4,5,6,7,8,9,10,11,12,13,14]] 15 ?_;refine R7.cd ?_ (fun T xs wr hA=>?_) ?_
  rotate_left
  ·have e0:=hA.pq 0;simp only[gsa,gsz] at e0;clear hA;go_simp<;>(try with_reducible rfl)
  refine R7.cd ?_ (fun T xs wr hA=>?_) ?_
  rotate_left
  ·have e4:=hA.pq 4;simp only[gsa,gsc,gsz] at e4;have hBq:wr.heap[ke]?=_:=(hA.bl _ hlt_e (fun q h=>absurd h (Nat.not_lt_zero _))).trans HBe.out;obtain⟨q0,q1,q2,q3,q4,q5,q6,q7⟩:=cl8 hBq;clear hBq;clear hA;go_simp<;>(try with_reducible rfl)
  refine R7.cd ?_ (fun T xs wr hA=>?_) ?_
  rotate_left
  ·have e2:=hA.pq 2;simp only[gsa,gsc,gsz] at e2;clear hA;go_simp<;>(try with_reducible rfl)
  refine R7.cd ?_ (fun T xs wr hA=>?_) ?_
  rotate_left
  ·have e17:=tr_ (hA.tq 2 17) (hA.fq 2)
   (try simp (disch:=decide) only [R7.mi] at e17)
   clear hA;go_simp<;>(try with_reducible rfl)
  refine R7.cd ?_ (fun T xs wr hA=>?_) ?_
  rotate_left
  ·have e18:=tr_ (hA.tq 3 18) (hA.fq 3)
   (try simp (disch:=decide) only [R7.mi] at e18)
   have hBq:wr.heap[kt]?=_:=(hA.bl _ hlt_t (fun q h=>absurd h (Nat.not_lt_zero _))).trans HBt.out;obtain⟨q0,q1,q2⟩:=cl3 hBq;clear hBq;clear hA;go_simp<;>(try with_reducible rfl)
  refine R7.cd ?_ (fun T xs wr hA=>?_) ?_
  rotate_left
  ·have e19:=tr_ (hA.tq 4 19) (hA.fq 4)
   (try simp (disch:=decide) only [R7.mi] at e19)
   clear hA;go_simp<;>(try with_reducible rfl)
  refine R7.cd ?_ (fun T xs wr hA=>?_) ?_
  rotate_left
  ·have e20:=tr_ (hA.tq 5 20) (hA.fq 5)
   (try simp (disch:=decide) only [R7.mi] at e20)
   clear hA;go_simp<;>(try with_reducible rfl)
  refine R7.Chain.det ?_ (by rfl) (fun T xs wr hA=>?_) ?_
  rotate_left 1
  ·have e21:=tr_ (hA.tq 6 21) (hA.fq 6)
   (try simp (disch:=decide) only [R7.mi] at e21)
   have e2:=hA.pq 2;simp only[gsa,gsc,gsz] at e2;clear hA;refine⟨((Rely.wanted_at rfl (by rfl) e21).trans (by rfl)),?_⟩;go_simp<;>(try with_reducible rfl)
  refine R7.Chain.det ?_ (by rfl) (fun T xs wr hA=>?_) ?_
  rotate_left 1
  ·have e21:=tr_ (hA.tq 6 21) (hA.fq 6);have e22:=tr_ (hA.tq 7 22) (hA.fq 7)
   (try simp (disch:=decide) only [R7.mi] at e21 e22)
   clear hA;refine⟨((Rely.wanted_at rfl (by rfl) e21).trans (by rfl)),?_⟩;go_simp<;>(try with_reducible rfl)
  refine R7.Chain.det ?_ (by rfl) (fun T xs wr hA=>?_) ?_
  rotate_left 1
  ·have e21:=tr_ (hA.tq 6 21) (hA.fq 6);have e23:=tr_ (hA.tq 8 23) (hA.fq 8)
   (try simp (disch:=decide) only [R7.mi] at e21 e23)
   have hBq:wr.heap[kt]?=_:=(hA.bl _ hlt_t (fun q h=>absurd h (Nat.not_lt_zero _))).trans HBt.out;obtain⟨q0,q1,q2⟩:=cl3 hBq;clear hBq;clear hA;refine⟨((Rely.wanted_at rfl (by rfl) e21).trans (by rfl)),?_⟩;go_simp<;>(try with_reducible rfl)
  refine R7.Chain.det ?_ (by rfl) (fun T xs wr hA=>?_) ?_
  rotate_left 1
  ·have e21:=tr_ (hA.tq 6 21) (hA.fq 6)
   (try simp (disch:=decide) only [R7.mi] at e21)
   have e2:=hA.pq 2;simp only[gsa,gsc,gsz] at e2;clear hA;refine⟨((Rely.wanted_at rfl (by rfl) e21).trans (by rfl)),?_⟩;go_simp<;>(try with_reducible rfl)
  refine R7.Chain.det ?_ (by rfl) (fun T xs wr hA=>?_) ?_
  rotate_left 1
  ·have e21:=tr_ (hA.tq 6 21) (hA.fq 6);have e25:=tr_ (hA.tq 10 25) (hA.fq 10)
   (try simp (disch:=decide) only [R7.mi] at e21 e25)
   clear hA;refine⟨((Rely.wanted_at rfl (by rfl) e21).trans (by rfl)),?_⟩;go_simp<;>(try with_reducible rfl)
  refine R7.Chain.det ?_ (by rfl) (fun T xs wr hA=>?_) ?_
  rotate_left 1
  ·have e21:=tr_ (hA.tq 6 21) (hA.fq 6);have e26:=tr_ (hA.tq 11 26) (hA.fq 11)
   (try simp (disch:=decide) only [R7.mi] at e21 e26)
   have hBq:wr.heap[kt]?=_:=(hA.bl _ hlt_t (fun q h=>absurd h (Nat.not_lt_zero _))).trans HBt.out;obtain⟨q0,q1,q2⟩:=cl3 hBq;clear hBq;clear hA;refine⟨((Rely.wanted_at rfl (by rfl) e21).trans (by rfl)),?_⟩;go_simp<;>(try with_reducible rfl)
  refine R7.Chain.det ?_ (by rfl) (fun T xs wr hA=>?_) ?_
  rotate_left 1
  ·have e21:=tr_ (hA.tq 6 21) (hA.fq 6);have e24:=tr_ (hA.tq 9 24) (hA.fq 9);have e27:=tr_ (hA.tq 12 27) (hA.fq 12)
   (try simp (disch:=decide) only [R7.mi] at e21 e24 e27)
   clear hA;refine⟨((Rely.wanted_at rfl (by rfl) e21).trans (by rfl)),?_⟩;go_simp<;>(try with_reducible rfl)
  refine R7.cd ?_ (fun T xs wr hA=>?_) ?_
  rotate_left
  ·have e21:=tr_ (hA.tq 6 21) (hA.fq 6);have e28:=tr_ (hA.tq 13 28) (hA.fq 13)
   (try simp (disch:=decide) only [R7.mi] at e21 e28)
   clear hA;go_simp<;>(try with_reducible rfl)
  refine R7.Chain.done (fun xs w4 hL=>?_);obtain⟨⟨hbe,hbl⟩,hf,-,-⟩:=hL;have f0:xs 0=_:=hf 0 (by decide);have f1:xs 1=_:=hf 1 (by decide);have f2:xs 2=_:=hf 2 (by decide);have f3:xs 3=_:=hf 3 (by decide);have f4:xs 4=_:=hf 4 (by decide);have f5:xs 5=_:=hf 5 (by decide);have f6:xs 6=_:=hf 6 (by decide);have f7:xs 7=_:=hf 7 (by decide);have f8:xs 8=_:=hf 8 (by decide);have f9:xs 9=_:=hf 9 (by decide);have f10:xs 10=_:=hf 10 (by decide);have f11:xs 11=_:=hf 11 (by decide);have f12:xs 12=_:=hf 12 (by decide);have f13:xs 13=_:=hf 13 (by decide);have f14:xs 14=_:=hf 14 (by decide)
  (try simp (disch:=decide) only [R7.mi] at f0 f1 f2 f3 f4 f5 f6 f7 f8 f9 f10 f11 f12 f13 f14)
  have hb:Below w3.heap.size w3 w4:=R7.b0_ hbe;clear hbe hbl hf;refine R7.rest_list (by decide) (by kernel_rfl) ?_;simp only[R7.fill,t1_,t2_,t3_,t4_,t5_,t6_,t7_,f0,f1,f2,f3,f4,f5,f6,f7,f8,f9,f10,f11,f12,f13,f14];clear hlt_g hlt_e hlt_t f0 f1 f2 f3 f4 f5 f6 f7 f8 f9 f10 f11 f12 f13 f14;replace HBg:=kB hb HBg;replace HBt:=kB hb HBt;replace HBe:=kB hb HBe;replace HC:=h_ (HC.out.below hb);replace HF:=fb_ HF hb;clear hb;go_wp2_with fail
  refine (need_p HC.out ⟨xk,⟨nm.toArray⟩,xot,xb,xao,xn,xq,xko,xkn,xkc,(ln:Nat),(cl:Nat)⟩ ln cl rfl rfl (((t1:Nat):Int)==((t2:Nat):Int)) 4).mono ?_;rintro e w5 ⟨rfl,⟨ev,hC⟩,hF⟩;replace HBt:=kF hF HBt;replace HBe:=kF hF HBe;replace HF:=h_ (HF.out.trans hF);replace HC:=h_ hC;replace HBg:=h_ hC.blk;clear hC hF;obtain⟨y0,y1,y2⟩:=cl3 HBt.out;go_wp2_with fail
  go_ret
  rw[nbeq] at HC;exact⟨rfl,⟨_,HC.out⟩,HF.out⟩
 obtain⟨xk,xnm,xot,xb,xao,xn,xq,xko,xkn,xkc,xln,xcl⟩:=x;simp only at e0 e1 e2;subst e0 e1 e2;simp only[xv];have q0:(((t0:Nat):Int)==1)=false:=by rw[nbeq1];simpa using h0
 have H0:=h_ h0;clear h0;have HC:=h_ h;have HBg:=h_ h.blk;have HF:Hid (Fc w w kg bs):=h_ (Fc.refl _ _ _);clear h;have HBt:=h_ hT;clear hT;go_enter Tryz.func79,Tryz.ntmps79
 go_upto_region 1 with fail
 obtain⟨w1,ke,hw,hkk,hb,hs1,HBe⟩:=newb w #[.int .i64 xk,.string ⟨nm.toArray⟩,.string xot,.bool xb,.slice xao xn xq,.slice xko xkn xkc,.int .i64 (ln:Nat),.int .i64 (cl:Nat)] 48;have hge:=lk_ hkk HBg;have hse:bs<ke:=by rw[hkk];exact HC.out.sm.lt
 have hee:w.heap.size<=ke:=by rw[hkk];exact HF.out.size
 have ht_e:=lk_ hkk HBt;rw[hw,<-hkk];replace HBg:=kB hb HBg;replace HBt:=kB hb HBt;replace HC:=h_ (HC.out.below hb);replace HF:=fb_ HF hb;clear hw hb hkk hs1;obtain⟨c0,c1,c2,c3,c4,c5,c6,c7⟩:=cl8 HBe.out;obtain⟨g0,g1,g2,g3⟩:=cl4 HBg.out;obtain⟨y0,y1,y2⟩:=cl3 HBt.out;refine wp_region_still_tail 7 (by kernel_rfl) (by kernel_rfl) ?_;simp only[List.take_succ_cons,List.take_zero,List.drop_succ_cons,List.drop_zero];refine wpStill_step (fun K hK=>?_);replace hK:=h_ hK;go_simp
 refine hK.out _ ?_;clear hK K;refine wpStill_step (fun K hK=>?_);replace hK:=h_ hK;go_simp
 refine hK.out _ ?_;clear hK K;refine wpStill_step (fun K hK=>?_);replace hK:=h_ hK;go_simp
 refine hK.out _ ?_;clear hK K;refine wpStill_step (fun K hK=>?_);replace hK:=h_ hK;go_simp
 refine hK.out _ ?_;clear hK K;refine wpStill_step (fun K hK=>?_);replace hK:=h_ hK;go_simp
 refine hK.out _ ?_;clear hK K;refine wpStill_step (fun K hK=>?_);replace hK:=h_ hK;go_simp
 refine hK.out _ ?_;clear hK K;refine wpStill_step (fun K hK=>?_);replace hK:=h_ hK;go_simp
 refine hK.out _ ?_;clear hK K;refine wpStill_nil ?_;clear c0 c1 c2 c3 c4 c5 c6 c7 g0 g1 g2 g3 y0 y1 y2;obtain⟨w2,hw⟩:∃ x,x=w1.drew:=⟨_,rfl⟩
 have hb:Below w1.heap.size w1 w2:=by rw[hw];exact (Below.refl _ _).drew
 change wpList _ _ _ _ _ w1.drew;rw[<-hw];replace HBg:=kB hb HBg;replace HBt:=kB hb HBt;replace HBe:=kB hb HBe;replace HC:=h_ (HC.out.below hb);replace HF:=fb_ HF hb;clear hw hb;obtain⟨c0,c1,c2,c3,c4,c5,c6,c7⟩:=cl8 HBe.out;obtain⟨g0,g1,g2,g3⟩:=cl4 HBg.out;obtain⟨y0,y1,y2⟩:=cl3 HBt.out;go_wp2_with fail
 refine (need_p HC.out ⟨xk,⟨nm.toArray⟩,xot,xb,xao,xn,xq,xko,xkn,xkc,(ln:Nat),(cl:Nat)⟩ ln cl rfl rfl (!rf) 1).mono ?_;rintro e w3 ⟨rfl,⟨ev,hC⟩,hF⟩;clear c0 c1 c2 c3 c4 c5 c6 c7 g0 g1 g2 g3 y0 y1 y2;replace HBt:=kF hF HBt;replace HBe:=kF hF HBe;replace HF:=h_ (HF.out.trans hF);replace HC:=h_ hC;replace HBg:=h_ hC.blk;clear hC hF;go_upto_region 2 with fail
 have hlt_g:=lt_of_block HBg.out;have hlt_e:=lt_of_block HBe.out;have hlt_t:=lt_of_block HBt.out;refine R7.r0 [[],[],[],[2],[2,3],[2,3,4],[2,3,4,5],[2,3,4,5,6],[2,3,4,5,6,7],[2,3,4,5,6,7,8],[2,3,4,5,6],[2,3,4,5,6,10],[2,3,4,5,6,10,11],[2,3,4,5,6,7,8,9,10,11,12],[2,3,4,5,6,7,8,9,10,11,12,13],[0,1,2,3,4,5,6,7,8,9,10,11,12,13,14]] 15 ?_;refine R7.cd ?_ (fun T xs wr hA=>?_) ?_
 rotate_left
 ·have e0:=hA.pq 0;simp only[gsa,gsz] at e0;clear hA;go_simp<;>(try with_reducible rfl)
 refine R7.cd ?_ (fun T xs wr hA=>?_) ?_
 rotate_left
 ·have e4:=hA.pq 4;simp only[gsa,gsc,gsz] at e4;have hBq:wr.heap[ke]?=_:=(hA.bl _ hlt_e (fun q h=>absurd h (Nat.not_lt_zero _))).trans HBe.out;obtain⟨q0,q1,q2,q3,q4,q5,q6,q7⟩:=cl8 hBq;clear hBq;clear hA;go_simp<;>(try with_reducible rfl)
 refine R7.cd ?_ (fun T xs wr hA=>?_) ?_
 rotate_left
 ·have e2:=hA.pq 2;simp only[gsa,gsc,gsz] at e2;clear hA;go_simp<;>(try with_reducible rfl)
 refine R7.cd ?_ (fun T xs wr hA=>?_) ?_
 rotate_left
 ·have e17:=tr_ (hA.tq 2 17) (hA.fq 2)
  (try simp (disch:=decide) only [R7.mi] at e17)
  clear hA;go_simp<;>(try with_reducible rfl)
 refine R7.cd ?_ (fun T xs wr hA=>?_) ?_
 rotate_left
 ·have e18:=tr_ (hA.tq 3 18) (hA.fq 3)
  (try simp (disch:=decide) only [R7.mi] at e18)
  have hBq:wr.heap[kt]?=_:=(hA.bl _ hlt_t (fun q h=>absurd h (Nat.not_lt_zero _))).trans HBt.out;obtain⟨q0,q1,q2⟩:=cl3 hBq;clear hBq;clear hA;go_simp<;>(try with_reducible rfl)
 refine R7.cd ?_ (fun T xs wr hA=>?_) ?_
 rotate_left
 ·have e19:=tr_ (hA.tq 4 19) (hA.fq 4)
  (try simp (disch:=decide) only [R7.mi] at e19)
  clear hA;go_simp<;>(try with_reducible rfl)
 refine R7.cd ?_ (fun T xs wr hA=>?_) ?_
 rotate_left
 ·have e20:=tr_ (hA.tq 5 20) (hA.fq 5)
  (try simp (disch:=decide) only [R7.mi] at e20)
  clear hA;go_simp<;>(try with_reducible rfl)
 refine R7.Chain.skip (by rfl) (fun T xs wr hA=>?_) ?_
 ·have e21:=tr_ (hA.tq 6 21) (hA.fq 6)
  (try simp (disch:=decide) only [R7.mi] at e21)
  exact ((Rely.wanted_at rfl (by rfl) e21).trans (by rfl))
 refine R7.Chain.skip (by rfl) (fun T xs wr hA=>?_) ?_
 ·have e21:=tr_ (hA.tq 6 21) (hA.fq 6)
  (try simp (disch:=decide) only [R7.mi] at e21)
  exact ((Rely.wanted_at rfl (by rfl) e21).trans (by rfl))
 refine R7.Chain.skip (by rfl) (fun T xs wr hA=>?_) ?_
 ·have e21:=tr_ (hA.tq 6 21) (hA.fq 6)
  (try simp (disch:=decide) only [R7.mi] at e21)
  exact ((Rely.wanted_at rfl (by rfl) e21).trans (by rfl))
 refine R7.Chain.skip (by rfl) (fun T xs wr hA=>?_) ?_
 ·have e21:=tr_ (hA.tq 6 21) (hA.fq 6)
  (try simp (disch:=decide) only [R7.mi] at e21)
  exact ((Rely.wanted_at rfl (by rfl) e21).trans (by rfl))
 refine R7.Chain.skip (by rfl) (fun T xs wr hA=>?_) ?_
 ·have e21:=tr_ (hA.tq 6 21) (hA.fq 6)
  (try simp (disch:=decide) only [R7.mi] at e21)
  exact ((Rely.wanted_at rfl (by rfl) e21).trans (by rfl))
 refine R7.Chain.skip (by rfl) (fun T xs wr hA=>?_) ?_
 ·have e21:=tr_ (hA.tq 6 21) (hA.fq 6)
  (try simp (disch:=decide) only [R7.mi] at e21)
  exact ((Rely.wanted_at rfl (by rfl) e21).trans (by rfl))
 refine R7.Chain.skip (by rfl) (fun T xs wr hA=>?_) ?_
 ·have e21:=tr_ (hA.tq 6 21) (hA.fq 6)
  (try simp (disch:=decide) only [R7.mi] at e21)
  exact ((Rely.wanted_at rfl (by rfl) e21).trans (by rfl))
 refine R7.cd ?_ (fun T xs wr hA=>?_) ?_
 rotate_left
 ·have e21:=tr_ (hA.tq 6 21) (hA.fq 6)
  (try simp (disch:=decide) only [R7.mi] at e21)
  have e28:=hA.tm 13 28 (by rfl) (by rfl);have f28:xs 13=(undef):=hA.fa 13 (by rfl);rw[f28] at e28;clear f28;clear hA;go_simp<;>(try with_reducible rfl)
 refine R7.Chain.done (fun xs w4 hL=>?_);obtain⟨⟨hbe,hbl⟩,hf,-,-⟩:=hL;have f0:xs 0=_:=hf 0 (by decide);have f1:xs 1=_:=hf 1 (by decide);have f2:xs 2=_:=hf 2 (by decide);have f3:xs 3=_:=hf 3 (by decide);have f4:xs 4=_:=hf 4 (by decide);have f5:xs 5=_:=hf 5 (by decide);have f6:xs 6=_:=hf 6 (by decide);have f7:xs 7=(undef):=hf 7 (by decide);have f8:xs 8=(undef):=hf 8 (by decide);have f9:xs 9=(undef):=hf 9 (by decide);have f10:xs 10=(undef):=hf 10 (by decide);have f11:xs 11=(undef):=hf 11 (by decide);have f12:xs 12=(undef):=hf 12 (by decide);have f13:xs 13=(undef):=hf 13 (by decide);have f14:xs 14=_:=hf 14 (by decide)
 (try simp (disch:=decide) only [R7.mi] at f0 f1 f2 f3 f4 f5 f6 f14)
 have hb:Below w3.heap.size w3 w4:=R7.b0_ hbe;clear hbe hbl hf;refine R7.rest_list (by decide) (by kernel_rfl) ?_;simp only[R7.fill,t1_,t2_,t3_,t4_,t5_,t6_,t7_,f0,f1,f2,f3,f4,f5,f6,f7,f8,f9,f10,f11,f12,f13,f14];clear hlt_g hlt_e hlt_t f0 f1 f2 f3 f4 f5 f6 f7 f8 f9 f10 f11 f12 f13 f14;replace HBg:=kB hb HBg;replace HBt:=kB hb HBt;replace HBe:=kB hb HBe;replace HC:=h_ (HC.out.below hb);replace HF:=fb_ HF hb;clear hb;go_wp2_with fail
 refine (need_p HC.out ⟨xk,⟨nm.toArray⟩,xot,xb,xao,xn,xq,xko,xkn,xkc,(ln:Nat),(cl:Nat)⟩ ln cl rfl rfl false 4).mono ?_;rintro e w5 ⟨rfl,⟨ev,hC⟩,hF⟩;replace HBt:=kF hF HBt;replace HBe:=kF hF HBe;replace HF:=h_ (HF.out.trans hF);replace HC:=h_ hC;replace HBg:=h_ hC.blk;clear hC hF;obtain⟨y0,y1,y2⟩:=cl3 HBt.out;go_wp2_with fail
 go_ret
 have e:(kIf rf ln cl [t0,t1,t2] s).2=(s.need ln cl (!rf) 1).need ln cl false 4:=by
  have e0:([t0,t1,t2].getD 0 0==1)=false:=beq_eq_false_iff_ne.2 H0.out;unfold kIf;simp only[e0,Bool.false_and]
 refine⟨rfl,⟨ev,?_⟩,HF.out⟩;rw[e];exact HC.out
def LB (w:World) (v:Value) (L:List Nat):Prop:=∃ ao c,v=.slice ao L.length c/\(L.length<=c/\c<=maxLen)/\∀ i (h:i<L.length),∃ a,ao=some a/\w.cell? (a.add i)=some (iv L[i])
theorem LB.keep {w w':World} {v:Value} {L:List Nat} (h:LB w v L) (hk:∀ ao n c,v=.slice ao n c->∀ a,ao=some a->a.block<w.heap.size->w'.heap[a.block]?=w.heap[a.block]?):LB w' v L:=by
 obtain⟨ao,c,rfl,h1,h2⟩:=h;refine⟨ao,c,rfl,h1,fun i hi=>?_⟩;obtain⟨a,e,h3⟩:=h2 i hi;have hl:=cell_lt h3;rw[add_block] at hl;exact⟨a,e,by rw[cell_keep (w:=w) (by rw[add_block];exact hk _ _ _ rfl a e hl)];exact h3⟩
theorem lb_block {w:World} {k:Nat} {L:List Nat} {T:TypeId} (h:w.heap[k]?=some (.cells (L.map iv).toArray T (0,0))) (hl:L.length<=maxLen):LB w (.slice (some ⟨k,0,none⟩) L.length L.length) L:=
 ⟨some ⟨k,0,none⟩,L.length,rfl,⟨Nat.le_refl _,hl⟩,fun i hi=>⟨_,rfl,by rw[add_lit,Nat.zero_add];exact cell_at (v:=iv L[i]) h i (by simp[hi])⟩⟩
theorem lb_nil (w:World):LB w (.slice none 0 0) []:=⟨none,0,rfl,⟨Nat.le_refl _,Nat.zero_le _⟩,fun i hi=>absurd hi (Nat.not_lt_zero _)⟩
theorem take_succ_eq {L M:List Nat} {k:Nat} (h:L.take k=M.take k) (h1:k<L.length) (h2:k<M.length) (e:L[k]=M[k]):L.take (k+1)=M.take (k+1):=by
 rw[List.take_succ_eq_append_getElem h1,List.take_succ_eq_append_getElem h2,h,e]
theorem equal_s (w:World) (v u:Value) (L M:List Nat) (h1:LB w v L) (h2:LB w u M) :
  Calls Tryz.prog 92 #[v,u] w fun e w'=>e=.returned (.bool (decide (L=M)))/\Below w.heap.size w w':=by
 obtain⟨ao,c,rfl,h3,h4⟩:=h1;obtain⟨bo,d,rfl,h5,h6⟩:=h2
 by_cases hl:L.length=M.length
 ·have hne:(((L.length:Nat):Int) != ((M.length:Nat):Int))=false:=by rw[hl];exact bne_self_eq_false _
  have HL:=h_ hl;have HA:=h_ h4;have HB:=h_ h6;have hm:L.length<=9223372036854775807:=Nat.le_trans h3.1 h3.2;clear hl h4 h6;go_enter Tryz.func92,Tryz.ntmps92
  go_wp2_with fail
  clear hne
  go_loopw [13] (fun i wr=>∃ k:Nat,i=.int .i64 (k:Nat)/\k<=L.length/\Hid (L.take k=M.take k)/\Hid (Below w.heap.size w wr)) (fun i _=>L.length - (intOf i).toNat)
  case atStart=>exact⟨0,rfl,Nat.zero_le _,h_ rfl,h_ (Below.refl _ _)⟩
  case round =>
   obtain⟨k,rfl,hk,HT,HW⟩:=hrel
   by_cases hi:k<L.length
   ·have hi2:k<M.length:=by rw[<-HL.out];exact hi
    obtain⟨a,rfl,hca⟩:=HA.out k hi;obtain⟨b,rfl,hcb⟩:=HB.out k hi2;have qa:wr.cell? (a.add k)=some (.int .i64 (L[k]:Nat)):=by rw[HW.out.cell (cell_lt hca)];exact hca
    have qb:wr.cell? (b.add k)=some (.int .i64 (M[k]:Nat)):=by rw[HW.out.cell (cell_lt hcb)];exact hcb
    obtain⟨x,hx⟩:∃ x,x=L[k]:=⟨_,rfl⟩
    obtain⟨y,hy⟩:∃ y,y=M[k]:=⟨_,rfl⟩
    rw[<-hx] at qa;rw[<-hy] at qb;have HX:=h_ hx;have HY:=h_ hy;clear hca hcb hx hy
    by_cases he:x=y
    ·have hb:(((x:Nat):Int) != ((y:Nat):Int))=false:=by rw[he];exact bne_self_eq_false _
     have HE:=h_ he;clear he;go_wp2_with fail
     go_quiet (fail)
     go_wp2_with fail
     go_roundw
     case rel=>exact⟨k+1,by go_num,hi,h_ (take_succ_eq HT.out hi hi2 (by rw[<-HX.out,<-HY.out,HE.out])),h_ (HW.out.trans (below_drewN' _ _ _))⟩
     case measure=>simp[intOf];omega
    have hb:(((x:Nat):Int) != ((y:Nat):Int))=true:=by rw[bne_iff_ne];omega
    have HE:=h_ he;clear he;go_wp2_with fail
    go_quiet (fail)
    go_wp2_with fail
    go_ret
    refine⟨?_,HW.out.trans (below_drewN' _ _ _)⟩;rw[decide_eq_false (fun e=>HE.out (by rw[HX.out,HY.out];simp only[e]))];rfl
   go_wp2_with fail
   go_ret
   refine⟨?_,HW.out⟩;have e:=HT.out;rw[show k=L.length by omega,List.take_length,HL.out,List.take_length] at e;rw[decide_eq_true e];rfl
 have hne:(((L.length:Nat):Int) != ((M.length:Nat):Int))=true:=by rw[bne_iff_ne];omega
 have HL:=h_ hl;clear hl h4 h6;go_enter Tryz.func92,Tryz.ntmps92
 go_wp2_with fail
 go_ret
 refine⟨?_,Below.refl _ _⟩;rw[decide_eq_false (fun e=>HL.out (by rw[e]))];rfl
theorem signature_s (w:World):∀ (k:Nat),k<29->Calls Tryz.prog 93 #[.int .i64 (k:Nat)] w fun e w'=>∃ v,e=.returned (.tuple #[v,iv (sig k).2])/\LB w' v (sig k).1/\Below w.heap.size w w'
 | 0,_ | 1,_ | 2,_ | 3,_ | 4,_=>by
  go_enter Tryz.func93,Tryz.ntmps93
  go_wp2_with fail
  exact bodyPost_ret (results_tmp2 Tryz.results93 _ _ _) rfl ⟨_,rfl,lb_nil _,Below.refl _ _⟩
 | 5,_=>by
  go_enter Tryz.func93,Tryz.ntmps93
  go_wp2_with fail
  exact bodyPost_ret (results_tmp2 Tryz.results93 _ _ _) rfl ⟨_,rfl,lb_block (L:=[0]) (made_at w _ _ rfl) (by decide),(Below.refl _ _).alloc (Nat.le_refl _) _⟩
 | 6,_=>by
  go_enter Tryz.func93,Tryz.ntmps93
  go_wp2_with fail
  exact bodyPost_ret (results_tmp2 Tryz.results93 _ _ _) rfl ⟨_,rfl,lb_block (L:=[1]) (made_at w _ _ rfl) (by decide),(Below.refl _ _).alloc (Nat.le_refl _) _⟩
 | 7,_ | 8,_ | 9,_=>by
  go_enter Tryz.func93,Tryz.ntmps93
  go_wp2_with fail
  exact bodyPost_ret (results_tmp2 Tryz.results93 _ _ _) rfl ⟨_,rfl,lb_block (L:=[2]) (made_at w _ _ rfl) (by decide),(Below.refl _ _).alloc (Nat.le_refl _) _⟩
 | 10,_ | 11,_ | 12,_ | 13,_ | 14,_=>by
  go_enter Tryz.func93,Tryz.ntmps93
  go_wp2_with fail
  exact bodyPost_ret (results_tmp2 Tryz.results93 _ _ _) rfl ⟨_,rfl,lb_block (L:=[0,0]) (made_at w _ _ rfl) (by decide),(Below.refl _ _).alloc (Nat.le_refl _) _⟩
 | 15,_ | 16,_=>by
  go_enter Tryz.func93,Tryz.ntmps93
  go_wp2_with fail
  exact bodyPost_ret (results_tmp2 Tryz.results93 _ _ _) rfl ⟨_,rfl,lb_nil _,Below.refl _ _⟩
 | 17,_ | 18,_ | 19,_ | 20,_=>by
  go_enter Tryz.func93,Tryz.ntmps93
  go_wp2_with fail
  exact bodyPost_ret (results_tmp2 Tryz.results93 _ _ _) rfl ⟨_,rfl,lb_block (L:=[0,0]) (made_at w _ _ rfl) (by decide),(Below.refl _ _).alloc (Nat.le_refl _) _⟩
 | 21,_ | 22,_=>by
  go_enter Tryz.func93,Tryz.ntmps93
  go_wp2_with fail
  exact bodyPost_ret (results_tmp2 Tryz.results93 _ _ _) rfl ⟨_,rfl,lb_block (L:=[1,1]) (made_at w _ _ rfl) (by decide),(Below.refl _ _).alloc (Nat.le_refl _) _⟩
 | 23,_=>by
  go_enter Tryz.func93,Tryz.ntmps93
  go_wp2_with fail
  exact bodyPost_ret (results_tmp2 Tryz.results93 _ _ _) rfl ⟨_,rfl,lb_block (L:=[0,2]) (made_at w _ _ rfl) (by decide),(Below.refl _ _).alloc (Nat.le_refl _) _⟩
 | 24,_ | 25,_ | 26,_ | 27,_ | 28,_=>by
  go_enter Tryz.func93,Tryz.ntmps93
  go_wp2_with fail
  exact bodyPost_ret (results_tmp2 Tryz.results93 _ _ _) rfl ⟨_,rfl,lb_nil _,Below.refl _ _⟩
 | k+29,h=>absurd h (by omega)
theorem gi_numS {w:World} {ao:Option Addr} {n c z m:Nat} (h:Sl w .u32 (.slice ao n c) (dig L32 z)) (hz:z<L32 ^ m):GI w (.agg #[.bool false,.slice ao n c]) (z:Nat) m:=by
 have:CI w (.agg #[.bool (decide ((z:Int)<0)),.slice ao n c]) (z:Nat) m:=⟨.slice ao n c,rfl,h,hz⟩
 rw[show decide ((z:Int)<0)=false from decide_eq_false (by omega)] at this;exact this.gi
theorem isPositive_s (x:X) (u:U) (w:World) (S:Nat->Prop) (h:Um w S x u) (hB:Bnd u) :
  Calls Tryz.prog 94 #[xv x] w fun e w'=>e=.returned (.bool (posU u))/\Below w.heap.size w w':=by
 obtain⟨k,nm,ot,z,ln,cl,ks⟩:=u;rw[Um] at h;rw[Bnd] at hB;obtain⟨⟨hk,ha⟩,⟨b1,b2,m,hm,hz⟩,⟨b4,b5⟩,hks⟩:=hB;obtain⟨⟨e1,e2,e3,e4,e5,e6⟩,⟨h2,h3⟩,⟨h4,h5,h6⟩,h7⟩:=h;obtain⟨xk,xnm,xot,xb,xao,xn,xq,xko,xkn,xkc,xln,xcl⟩:=x;simp only at e1 e2 e3 e4 e5 e6 h2;subst e1 e2 e3 e4 e5 e6;have HGI:=h_ (gi_numS h2 hz);have HM:Hid (m<=1000000):=h_ (by omega);clear h2 h3 h4 h5 h6 h7 hks hz hm b1 b2 b4 b5 ha;simp only[xv]
 by_cases hk0:k=0
 ·subst hk0;have hp:posU (.node 0 nm ot z ln cl ks)=decide (0<z):=by unfold posU;rfl
  rw[hp];clear hp hk;simp only[show (((0:Nat):Int))=0 from rfl];go_enter Tryz.func94,Tryz.ntmps94
  go_upto_region 1 with fail
  obtain⟨w1,ke,hw,hkk,hb,hs1,HBe⟩:=newb w #[.int .i64 0,.string ⟨nm.toArray⟩,.string ⟨ot.toArray⟩,.bool false,.slice xao xn xq,.slice xko xkn xkc,.int .i64 (ln:Nat),.int .i64 (cl:Nat)] 48;rw[hw,<-hkk];have HW:=h_ hb;have HG1:=h_ (HGI.out.below hb);clear hw hb hkk hs1;have c0:=cell_at (v:=.int .i64 0) HBe.out 0 rfl;have c3:=cell_at (v:=.bool false) HBe.out 3 rfl;have c4:=cell_at (v:=.slice xao xn xq) HBe.out 4 rfl;go_wp2_with fail
  refine (wsign_any _ _ m w1 HG1.out HM.out).mono ?_;rintro e w2 ⟨rfl,hb⟩;have HW2:=bw_ HW hb;obtain⟨sg,hsg⟩:∃ s,s=sgnZ (z:Nat):=⟨_,rfl⟩
  have HSG:=h_ hsg;rw[<-hsg];clear hsg hb c0 c3 c4;go_wp2_with fail
  go_ret
  refine⟨?_,HW2.out⟩;have:decide (0<sg)=decide (0<z):=by rw[HSG.out];unfold sgnZ;by_cases h0:0<z<;>simp[h0]<;>omega
  rw[<-this];rfl
 have hp:posU (.node k nm ot z ln cl ks)=false:=by show (k==0 && decide (0<z))=false;rw[beq_eq_false_iff_ne.2 hk0];rfl
 have q0:(((k:Nat):Int)==0)=false:=by rw[beq_eq_false_iff_ne];omega
 rw[hp];clear hp hk hk0;go_enter Tryz.func94,Tryz.ntmps94
 go_upto_region 1 with fail
 obtain⟨w1,ke,hw,hkk,hb,hs1,HBe⟩:=newb w #[.int .i64 (k:Nat),.string ⟨nm.toArray⟩,.string ⟨ot.toArray⟩,.bool false,.slice xao xn xq,.slice xko xkn xkc,.int .i64 (ln:Nat),.int .i64 (cl:Nat)] 48;rw[hw,<-hkk];have HW:=h_ hb;clear hw hb hkk hs1;have c0:=cell_at (v:=.int .i64 (k:Nat)) HBe.out 0 rfl;go_wp2_with fail
 go_ret
 exact⟨rfl,HW.out⟩
theorem ps_getD (ks:List U) (h:1<ks.length):ks.getD 1 u0=ks[1]:=by rw[List.getD_eq_getElem?_getD,List.getElem?_eq_getElem h];rfl
theorem ar13 {k:Nat} (h:k=13\/k=14):ar k=2:=by rcases h with rfl | rfl<;>rfl
theorem operation_s {w0 w:World} {kg bf bs:Nat} {Gv:Bs->Option Value} {s:Ks} {rf:Bool} {ev:Value} (h:Ck w0 w kg bf bs Gv s rf ev) (x:X) (k:Nat) (nm ot:Bs) (z ln cl:Nat) (ks:List U) (S:Nat->Prop) (hu:Um w0 S x (.node k nm ot z ln cl ks)) (hb:Bnd (.node k nm ot z ln cl ks)) (kt:Nat) (ts:List Nat) (hT:w.heap[kt]?=some (.cells (ts.map iv).toArray 55 (0,0))) (hts:ts.length<=maxLen) (n1:kt≠kg) (n2:kt≠bs) :
  Calls Tryz.prog 80 #[.pointer (some ⟨kg,0,none⟩),xv x,.slice (some ⟨kt,0,none⟩) ts.length ts.length] w fun e w'=>e=.returned (iv (kOp rf k ln cl (posU (ks.getD 1 u0)) ts s).1)/\CkP w0 w kg bf bs Gv ((kOp rf k ln cl (posU (ks.getD 1 u0)) ts s).2) rf w':=by
 rw[Um] at hu;obtain⟨⟨e1,e2,e3,e4,e5,e6⟩,⟨h2,h3⟩,⟨h4,h5,h6⟩,h7⟩:=hu;obtain⟨xk,xnm,xot,xb,xao,xn,xq,xko,xkn,xkc,xln,xcl⟩:=x;simp only at e1 e2 e3 e4 e5 e6 h2 h3 h4 h5 h6 h7;have HK:=h_ (fun j (hj:j<ks.length)=>ums_get 0 j h7 hj);have HBN:=h_ hb;rw[Bnd] at hb;have hk29:=hb.1.1;have HAR:=h_ hb.1.2;have HKS:=h_ (fun j (hj:j<ks.length)=>bnds_mem hb.2.2.2 (List.getElem_mem hj));have hkl:ks.length<=9223372036854775807:=by rw[<-h4];exact Nat.le_trans h5.1 h5.2
 have HTS:=h_ hts;clear h7 hb hts h2 h3 h5 h6;subst e1 e2 e3 e4 e5 e6;subst h4;simp only[xv];have HC:=h_ h;have HBg:=h_ h.blk;have HF:Hid (Fc w w kg bs):=h_ (Fc.refl _ _ _);clear h;have HBt:=h_ hT;clear hT;go_enter Tryz.func80,Tryz.ntmps80
 go_upto_region 1 with fail
 obtain⟨w1,ke,hw,hkk,hb,hs1,HBe⟩:=newb w #[.int .i64 (k:Nat),.string ⟨nm.toArray⟩,.string ⟨ot.toArray⟩,.bool false,.slice xao xn xq,.slice xko ks.length xkc,.int .i64 (ln:Nat),.int .i64 (cl:Nat)] 48;have hge:=lk_ hkk HBg;have hse:bs<ke:=by rw[hkk];exact HC.out.sm.lt
 have hee:w.heap.size<=ke:=by rw[hkk];exact HF.out.size
 have ht_e:=lk_ hkk HBt;rw[hw,<-hkk];replace HBg:=kB hb HBg;replace HBt:=kB hb HBt;replace HC:=h_ (HC.out.below hb);replace HF:=fb_ HF hb;clear hw hb hkk hs1;have c0:=cell_at (v:=.int .i64 (k:Nat)) HBe.out 0 rfl;go_wp2_with fail
 refine (signature_s w1 k hk29).mono ?_;rintro e w2 ⟨vs,rfl,hL,hb⟩;clear c0;replace HBg:=kB hb HBg;replace HBt:=kB hb HBt;replace HBe:=kB hb HBe;replace HC:=h_ (HC.out.below hb);replace HF:=fb_ HF hb;have HL:=h_ hL;clear hL hb;obtain⟨so,hso⟩:∃ s,s=(sig k):=⟨_,rfl⟩
 rw[<-hso] at HL;rw[<-hso];have HSO:=h_ hso;clear hso;go_upto_region 2 with fail
 have hlt_e:=lt_of_block HBe.out;refine R7.r0 [[],[],[],[],[2,3],[0,1,2,3,4]] 5 ?_;refine R7.cd ?_ (fun T xs wr hA=>?_) ?_
 rotate_left
 ·have e0:=hA.pq 0;simp only[gsa,gsz] at e0;clear hA;go_simp<;>(try with_reducible rfl)
 refine R7.cd ?_ (fun T xs wr hA=>?_) ?_
 rotate_left
 ·have e4:=hA.pq 4;simp only[gsa,gsc,gsz] at e4;have hBq:wr.heap[ke]?=_:=(hA.bl _ hlt_e (fun q h=>absurd h (Nat.not_lt_zero _))).trans HBe.out;obtain⟨q0,q1,q2,q3,q4,q5,q6,q7⟩:=cl8 hBq;clear hBq;clear hA;go_simp<;>(try with_reducible rfl)
 refine R7.cd ?_ (fun T xs wr hA=>?_) ?_
 rotate_left
 ·have e2:=hA.pq 2;simp only[gsa,gsc,gsz] at e2;clear hA;go_simp<;>(try with_reducible rfl)
 refine R7.cd ?_ (fun T xs wr hA=>?_) ?_
 rotate_left
 ·have e7:=hA.pq 7;simp only[gsa,gsc,gsz] at e7;clear hA;go_simp<;>(try with_reducible rfl)
 refine R7.Chain.call (fun xs v w=>v=.bool (decide (ts=so.1))) (fun _ _ _ _ h _=>h) (fun _ _ _ _ _ h _ _=>h) (by rfl) (fun T xs wr hA=>?_) ?_
 ·have hsw:=(hA.be 0 (Nat.zero_le _) (fun _ _=>Nat.zero_le _)).size;have e17:=tr_ (hA.tq 2 17) (hA.fq 2);have e18:=tr_ (hA.tq 3 18) (hA.fq 3)
  (try simp (disch:=decide) only [R7.mi] at e17 e18)
  have hbw:=undrew (hA.be w2.heap.size (Nat.le_refl _) (fun q h=>absurd h (Nat.not_lt_zero _)));have hl1:=lb_block (w:=wr) ((hbw.block _ (lt_of_block HBt.out)).trans HBt.out) HTS.out;have hl2:=HL.out.keep (w':=wr) (fun _ _ _ _ a _ ha=>hbw.block _ ha);have HL1:=h_ hl1;have HL2:=h_ hl2;clear hl1 hl2 hbw;clear hA;refine⟨(by rfl),fun K hK=>?_⟩;go_simp
  refine (equal_s wr _ _ ts so.1 HL1.out HL2.out).mono ?_;rintro e w' ⟨rfl,hb⟩;exact hK.out _ _ rfl hb
 refine R7.Chain.done (fun xs w3 hL=>?_);obtain⟨⟨hbe,hbl⟩,hf,-,-⟩:=hL;have f0:xs 0=_:=hf 0 (by decide);have f1:xs 1=_:=hf 1 (by decide);have f2:xs 2=_:=hf 2 (by decide);have f3:xs 3=_:=hf 3 (by decide);have f4:xs 4=(.bool (decide (ts=so.1))):=hf 4 (by decide)
 (try simp (disch:=decide) only [R7.mi] at f0 f1 f2 f3)
 have hb:Below w2.heap.size w2 w3:=R7.b0_ hbe;clear hbe hbl hf;refine R7.rest_list (by decide) (by kernel_rfl) ?_;simp only[R7.fill,t1_,t2_,t3_,t4_,t5_,t6_,t7_,f0,f1,f2,f3,f4];clear hlt_e f0 f1 f2 f3 f4;replace HBg:=kB hb HBg;replace HBt:=kB hb HBt;replace HBe:=kB hb HBe;replace HC:=h_ (HC.out.below hb);replace HF:=fb_ HF hb;clear hb;go_wp2_with fail
 refine (need_p HC.out ⟨(k:Nat),⟨nm.toArray⟩,⟨ot.toArray⟩,false,xao,xn,xq,xko,ks.length,xkc,(ln:Nat),(cl:Nat)⟩ ln cl rfl rfl (decide (ts=so.1)) 4).mono ?_;rintro e w4 ⟨rfl,⟨ev,hC⟩,hF⟩;replace HBt:=kF hF HBt;replace HBe:=kF hF HBe;replace HF:=h_ (HF.out.trans hF);replace HC:=h_ hC;replace HBg:=h_ hC.blk;clear hC hF;obtain⟨s2,hs2⟩:∃ x,x=s.need ln cl (decide (ts=so.1)) 4:=⟨_,rfl⟩
 rw[<-hs2] at HC;have HS2:=h_ hs2;clear hs2
 by_cases h8:k=8
 ·have e:(kOp rf k ln cl (posU (ks.getD 1 u0)) ts s).2=s2.need ln cl rf 1:=by
   unfold kOp;simp only[<-HSO.out,<-HS2.out];rw[if_pos (.inl h8)]
  have HE:=h_ e;clear e;have HKK:=h_ h8;have q8:(((k:Nat):Int)==8)=true:=by rw[beq_iff_eq];omega
  clear h8;have c0:=cell_at (v:=.int .i64 (k:Nat)) HBe.out 0 rfl;go_upto_region 6 with fail
  clear q8;have hlt_g:=lt_of_block HBg.out;have hlt_e:=lt_of_block HBe.out;refine R7.r0 [[],[],[],[2],[2,3],[2,3,4],[0,1,2,3,4,5]] 6 ?_;refine R7.cd ?_ (fun T xs wr hA=>?_) ?_
  rotate_left
  ·have e0:=hA.pq 0;simp only[gsa,gsz] at e0;clear hA;go_simp<;>(try with_reducible rfl)
  refine R7.cd ?_ (fun T xs wr hA=>?_) ?_
  rotate_left
  ·have e4:=hA.pq 4;simp only[gsa,gsc,gsz] at e4;have hBq:wr.heap[ke]?=_:=(hA.bl _ hlt_e (fun q h=>absurd h (Nat.not_lt_zero _))).trans HBe.out;obtain⟨q0,q1,q2,q3,q4,q5,q6,q7⟩:=cl8 hBq;clear hBq;clear hA;go_simp<;>(try with_reducible rfl)
  refine R7.cd ?_ (fun T xs wr hA=>?_) ?_
  rotate_left
  ·have e0:=hA.pq 0;simp only[gsa,gsz] at e0;clear hA;go_simp<;>(try with_reducible rfl)
  refine R7.cd ?_ (fun T xs wr hA=>?_) ?_
  rotate_left
  ·have e28:=tr_ (hA.tq 2 28) (hA.fq 2)
   (try simp (disch:=decide) only [R7.mi] at e28)
   clear hA;go_simp<;>(try with_reducible rfl)
  refine R7.cd ?_ (fun T xs wr hA=>?_) ?_
  rotate_left
  ·have e29:=tr_ (hA.tq 3 29) (hA.fq 3)
   (try simp (disch:=decide) only [R7.mi] at e29)
   clear hA;go_simp<;>(try with_reducible rfl)
  refine R7.cd ?_ (fun T xs wr hA=>?_) ?_
  rotate_left
  ·have e30:=tr_ (hA.tq 4 30) (hA.fq 4)
   (try simp (disch:=decide) only [R7.mi] at e30)
   have hBq:wr.heap[kg]?=_:=(hA.bl _ hlt_g (fun q h=>absurd h (Nat.not_lt_zero _))).trans HBg.out;obtain⟨q0,q1,q2,q3⟩:=cl4 hBq;clear hBq;clear hA;go_simp<;>(try with_reducible rfl)
  refine R7.Chain.done (fun xs w5 hL=>?_);obtain⟨⟨hbe,hbl⟩,hf,-,-⟩:=hL;have f0:xs 0=_:=hf 0 (by decide);have f1:xs 1=_:=hf 1 (by decide);have f2:xs 2=_:=hf 2 (by decide);have f3:xs 3=_:=hf 3 (by decide);have f4:xs 4=_:=hf 4 (by decide);have f5:xs 5=_:=hf 5 (by decide)
  (try simp (disch:=decide) only [R7.mi] at f0 f1 f2 f3 f4 f5)
  have hb:Below w4.heap.size w4 w5:=R7.b0_ hbe;clear hbe hbl hf;refine R7.rest_list (by decide) (by kernel_rfl) ?_;simp only[R7.fill,t1_,t2_,t3_,t4_,t5_,t6_,t7_,f0,f1,f2,f3,f4,f5];clear hlt_g hlt_e f0 f1 f2 f3 f4 f5;clear c0;replace HBg:=kB hb HBg;replace HBt:=kB hb HBt;replace HBe:=kB hb HBe;replace HC:=h_ (HC.out.below hb);replace HF:=fb_ HF hb;clear hb;go_wp2_with fail
  refine (need_p HC.out ⟨(k:Nat),⟨nm.toArray⟩,⟨ot.toArray⟩,false,xao,xn,xq,xko,ks.length,xkc,(ln:Nat),(cl:Nat)⟩ ln cl rfl rfl rf 1).mono ?_;rintro e w6 ⟨rfl,⟨ev,hC⟩,hF⟩;replace HBt:=kF hF HBt;replace HBe:=kF hF HBe;replace HF:=h_ (HF.out.trans hF);replace HC:=h_ hC;replace HBg:=h_ hC.blk;clear hC hF;go_wp2_with fail
  go_ret
  refine⟨?_,⟨ev,?_⟩,HF.out⟩
  ·rw[HSO.out];rfl
  rw[HE.out];exact HC.out
 by_cases h9:k=9
 ·have e:(kOp rf k ln cl (posU (ks.getD 1 u0)) ts s).2=s2.need ln cl rf 1:=by
   unfold kOp;simp only[<-HSO.out,<-HS2.out];rw[if_pos (.inr h9)]
  have HE:=h_ e;clear e;have HKK:=h_ h9;have q8:(((k:Nat):Int)==8)=false:=by rw[beq_eq_false_iff_ne];omega
  have q9:(((k:Nat):Int)==9)=true:=by rw[beq_iff_eq];omega
  clear h9;clear h8;have c0:=cell_at (v:=.int .i64 (k:Nat)) HBe.out 0 rfl;go_upto_region 6 with fail
  clear q8 q9;have hlt_g:=lt_of_block HBg.out;have hlt_e:=lt_of_block HBe.out;refine R7.r0 [[],[],[],[2],[2,3],[2,3,4],[0,1,2,3,4,5]] 6 ?_;refine R7.cd ?_ (fun T xs wr hA=>?_) ?_
  rotate_left
  ·have e0:=hA.pq 0;simp only[gsa,gsz] at e0;clear hA;go_simp<;>(try with_reducible rfl)
  refine R7.cd ?_ (fun T xs wr hA=>?_) ?_
  rotate_left
  ·have e4:=hA.pq 4;simp only[gsa,gsc,gsz] at e4;have hBq:wr.heap[ke]?=_:=(hA.bl _ hlt_e (fun q h=>absurd h (Nat.not_lt_zero _))).trans HBe.out;obtain⟨q0,q1,q2,q3,q4,q5,q6,q7⟩:=cl8 hBq;clear hBq;clear hA;go_simp<;>(try with_reducible rfl)
  refine R7.cd ?_ (fun T xs wr hA=>?_) ?_
  rotate_left
  ·have e0:=hA.pq 0;simp only[gsa,gsz] at e0;clear hA;go_simp<;>(try with_reducible rfl)
  refine R7.cd ?_ (fun T xs wr hA=>?_) ?_
  rotate_left
  ·have e28:=tr_ (hA.tq 2 28) (hA.fq 2)
   (try simp (disch:=decide) only [R7.mi] at e28)
   clear hA;go_simp<;>(try with_reducible rfl)
  refine R7.cd ?_ (fun T xs wr hA=>?_) ?_
  rotate_left
  ·have e29:=tr_ (hA.tq 3 29) (hA.fq 3)
   (try simp (disch:=decide) only [R7.mi] at e29)
   clear hA;go_simp<;>(try with_reducible rfl)
  refine R7.cd ?_ (fun T xs wr hA=>?_) ?_
  rotate_left
  ·have e30:=tr_ (hA.tq 4 30) (hA.fq 4)
   (try simp (disch:=decide) only [R7.mi] at e30)
   have hBq:wr.heap[kg]?=_:=(hA.bl _ hlt_g (fun q h=>absurd h (Nat.not_lt_zero _))).trans HBg.out;obtain⟨q0,q1,q2,q3⟩:=cl4 hBq;clear hBq;clear hA;go_simp<;>(try with_reducible rfl)
  refine R7.Chain.done (fun xs w5 hL=>?_);obtain⟨⟨hbe,hbl⟩,hf,-,-⟩:=hL;have f0:xs 0=_:=hf 0 (by decide);have f1:xs 1=_:=hf 1 (by decide);have f2:xs 2=_:=hf 2 (by decide);have f3:xs 3=_:=hf 3 (by decide);have f4:xs 4=_:=hf 4 (by decide);have f5:xs 5=_:=hf 5 (by decide)
  (try simp (disch:=decide) only [R7.mi] at f0 f1 f2 f3 f4 f5)
  have hb:Below w4.heap.size w4 w5:=R7.b0_ hbe;clear hbe hbl hf;refine R7.rest_list (by decide) (by kernel_rfl) ?_;simp only[R7.fill,t1_,t2_,t3_,t4_,t5_,t6_,t7_,f0,f1,f2,f3,f4,f5];clear hlt_g hlt_e f0 f1 f2 f3 f4 f5;clear c0;replace HBg:=kB hb HBg;replace HBt:=kB hb HBt;replace HBe:=kB hb HBe;replace HC:=h_ (HC.out.below hb);replace HF:=fb_ HF hb;clear hb;go_wp2_with fail
  refine (need_p HC.out ⟨(k:Nat),⟨nm.toArray⟩,⟨ot.toArray⟩,false,xao,xn,xq,xko,ks.length,xkc,(ln:Nat),(cl:Nat)⟩ ln cl rfl rfl rf 1).mono ?_;rintro e w6 ⟨rfl,⟨ev,hC⟩,hF⟩;replace HBt:=kF hF HBt;replace HBe:=kF hF HBe;replace HF:=h_ (HF.out.trans hF);replace HC:=h_ hC;replace HBg:=h_ hC.blk;clear hC hF;go_wp2_with fail
  go_ret
  refine⟨?_,⟨ev,?_⟩,HF.out⟩
  ·rw[HSO.out];rfl
  rw[HE.out];exact HC.out
 by_cases h13:k=13
 ·have hk1:1<ks.length:=by rcases HAR.out with h | h;omega;rw[h,ar13 (.inl h13)];omega
  have e:(kOp rf k ln cl (posU (ks.getD 1 u0)) ts s).2=s2.need ln cl (posU ks[1]) 1:=by
   unfold kOp;simp only[<-HSO.out,<-HS2.out];rw[if_neg (by omega),if_pos (.inl h13),ps_getD ks hk1]
  have HE:=h_ e;clear e;have q8:(((k:Nat):Int)==8)=false:=by rw[beq_eq_false_iff_ne];omega
  have q9:(((k:Nat):Int)==9)=false:=by rw[beq_eq_false_iff_ne];omega
  have q13:(((k:Nat):Int)==13)=true:=by rw[beq_iff_eq];omega
  clear h8 h9 h13;have c0:=cell_at (v:=.int .i64 (k:Nat)) HBe.out 0 rfl;go_upto_region 9 with fail
  clear q8 q9 q13;obtain⟨y,⟨a,ha,hy⟩,hU⟩:=HK.out 1 hk1;subst ha;have HY:=h_ hy;have HU:=h_ hU;clear hy hU;have hlt_e:=lt_of_block HBe.out;refine R7.r0 [[],[],[],[2],[2,3],[2,3,4],[2,3,4,5],[0,1,2,3,4,5,6]] 7 ?_;refine R7.cd ?_ (fun T xs wr hA=>?_) ?_
  rotate_left
  ·have e0:=hA.pq 0;simp only[gsa,gsz] at e0;clear hA;go_simp<;>(try with_reducible rfl)
  refine R7.cd ?_ (fun T xs wr hA=>?_) ?_
  rotate_left
  ·have e4:=hA.pq 4;simp only[gsa,gsc,gsz] at e4;have hBq:wr.heap[ke]?=_:=(hA.bl _ hlt_e (fun q h=>absurd h (Nat.not_lt_zero _))).trans HBe.out;obtain⟨q0,q1,q2,q3,q4,q5,q6,q7⟩:=cl8 hBq;clear hBq;clear hA;go_simp<;>(try with_reducible rfl)
  refine R7.cd ?_ (fun T xs wr hA=>?_) ?_
  rotate_left
  ·have e4:=hA.pq 4;simp only[gsa,gsc,gsz] at e4;clear hA;go_simp<;>(try with_reducible rfl)
  refine R7.cd ?_ (fun T xs wr hA=>?_) ?_
  rotate_left
  ·have e38:=tr_ (hA.tq 2 38) (hA.fq 2)
   (try simp (disch:=decide) only [R7.mi] at e38)
   have hBq:wr.heap[ke]?=_:=(hA.bl _ hlt_e (fun q h=>absurd h (Nat.not_lt_zero _))).trans HBe.out;obtain⟨q0,q1,q2,q3,q4,q5,q6,q7⟩:=cl8 hBq;clear hBq;clear hA;go_simp<;>(try with_reducible rfl)
  refine R7.Chain.call (fun xs v w=>v=.pointer (some ⟨a.block,a.off+8,none⟩)) (fun _ _ _ _ h _=>h) (fun _ _ _ _ _ h _ _=>h) (by rfl) (fun T xs wr hA=>?_) ?_
  ·have hsw:=(hA.be 0 (Nat.zero_le _) (fun _ _=>Nat.zero_le _)).size;have e39:=tr_ (hA.tq 3 39) (hA.fq 3)
   (try simp (disch:=decide) only [R7.mi] at e39)
   clear hA;clear hlt_e hge hse hee ht_e n1 n2;have hI:(1:Int)<((ks.length:Nat):Int):=by omega
   have hA:=hk1;clear hA;refine⟨(by rfl),fun K hK=>?_⟩;go_simp
   exact hK.out _ _ rfl (Below.refl _ _)
  refine R7.cd ?_ (fun T xs wr hA=>?_) ?_
  rotate_left
  ·have e40:=hA.tm 4 40 (by rfl) (by rfl);have f40:xs 4=(.pointer (some ⟨a.block,a.off+8,none⟩)):=hA.fa 4 (by rfl);rw[f40] at e40;clear f40;have hbw:=undrew (hA.be w0.heap.size HC.out.bw.size (fun q h=>absurd h (Nat.not_lt_zero _)));have hbw0:=HC.out.bw.trans hbw;obtain⟨z0,z1,z2,z3,z4,z5,z6,z7⟩:=cells8 (w:=wr) (p:=⟨a.block,a.off+8,none⟩) (y:=y) (fun j v hv=>by have:=HY.out j v hv;rw[show (⟨a.block,a.off+8,none⟩:Addr).add j=(a.add ((0+1)*8)).add j from rfl,hbw0.cell (cell_lt this)];exact this);clear hbw hbw0;clear hA;go_simp<;>(try with_reducible rfl)
  refine R7.Chain.call (fun xs v w=>v=.bool (posU ks[1])) (fun _ _ _ _ h _=>h) (fun _ _ _ _ _ h _ _=>h) (by rfl) (fun T xs wr hA=>?_) ?_
  ·have hsw:=(hA.be 0 (Nat.zero_le _) (fun _ _=>Nat.zero_le _)).size;have e41:=tr_ (hA.tq 5 41) (hA.fq 5)
   (try simp (disch:=decide) only [R7.mi] at e41)
   have hbw:=undrew (hA.be w0.heap.size HC.out.bw.size (fun q h=>absurd h (Nat.not_lt_zero _)));have hu:=HU.out.lt.keep (w':=wr) (fun g hg=>(HC.out.bw.trans hbw).block g hg.2);have HUW:=h_ hu;clear hu hbw;clear hA;refine⟨(by rfl),fun K hK=>?_⟩;go_simp
   refine (isPositive_s y ks[1] wr _ HUW.out (HKS.out 1 hk1)).mono ?_;rintro e w' ⟨rfl,hb⟩;exact hK.out _ _ rfl hb
  refine R7.Chain.done (fun xs w5 hL=>?_);obtain⟨⟨hbe,hbl⟩,hf,-,-⟩:=hL;have f0:xs 0=_:=hf 0 (by decide);have f1:xs 1=_:=hf 1 (by decide);have f2:xs 2=_:=hf 2 (by decide);have f3:xs 3=_:=hf 3 (by decide);have f4:xs 4=(.pointer (some ⟨a.block,a.off+8,none⟩)):=hf 4 (by decide);have f5:xs 5=_:=hf 5 (by decide);have f6:xs 6=(.bool (posU ks[1])):=hf 6 (by decide)
  (try simp (disch:=decide) only [R7.mi] at f0 f1 f2 f3 f5)
  have hb:Below w4.heap.size w4 w5:=R7.b0_ hbe;clear hbe hbl hf;refine R7.rest_list (by decide) (by kernel_rfl) ?_;simp only[R7.fill,t1_,t2_,t3_,t4_,t5_,t6_,t7_,f0,f1,f2,f3,f4,f5,f6];clear hlt_e f0 f1 f2 f3 f4 f5 f6;clear c0;replace HBg:=kB hb HBg;replace HBt:=kB hb HBt;replace HBe:=kB hb HBe;replace HC:=h_ (HC.out.below hb);replace HF:=fb_ HF hb;clear hb;go_wp2_with fail
  refine (need_p HC.out ⟨(k:Nat),⟨nm.toArray⟩,⟨ot.toArray⟩,false,xao,xn,xq,some a,ks.length,xkc,(ln:Nat),(cl:Nat)⟩ ln cl rfl rfl (posU ks[1]) 1).mono ?_;rintro e w6 ⟨rfl,⟨ev,hC⟩,hF⟩;replace HBt:=kF hF HBt;replace HBe:=kF hF HBe;replace HF:=h_ (HF.out.trans hF);replace HC:=h_ hC;replace HBg:=h_ hC.blk;clear hC hF;go_wp2_with fail
  go_ret
  refine⟨?_,⟨ev,?_⟩,HF.out⟩
  ·rw[HSO.out];rfl
  rw[HE.out];exact HC.out
 by_cases h14:k=14
 ·have hk1:1<ks.length:=by rcases HAR.out with h | h;omega;rw[h,ar13 (.inr h14)];omega
  have e:(kOp rf k ln cl (posU (ks.getD 1 u0)) ts s).2=s2.need ln cl (posU ks[1]) 1:=by
   unfold kOp;simp only[<-HSO.out,<-HS2.out];rw[if_neg (by omega),if_pos (.inr h14),ps_getD ks hk1]
  have HE:=h_ e;clear e;have q8:(((k:Nat):Int)==8)=false:=by rw[beq_eq_false_iff_ne];omega
  have q9:(((k:Nat):Int)==9)=false:=by rw[beq_eq_false_iff_ne];omega
  have q13:(((k:Nat):Int)==13)=false:=by rw[beq_eq_false_iff_ne];omega
  have q14:(((k:Nat):Int)==14)=true:=by rw[beq_iff_eq];omega
  clear h8 h9 h13 h14;have c0:=cell_at (v:=.int .i64 (k:Nat)) HBe.out 0 rfl;go_upto_region 9 with fail
  clear q8 q9 q13 q14;obtain⟨y,⟨a,ha,hy⟩,hU⟩:=HK.out 1 hk1;subst ha;have HY:=h_ hy;have HU:=h_ hU;clear hy hU;have hlt_e:=lt_of_block HBe.out;refine R7.r0 [[],[],[],[2],[2,3],[2,3,4],[2,3,4,5],[0,1,2,3,4,5,6]] 7 ?_;refine R7.cd ?_ (fun T xs wr hA=>?_) ?_
  rotate_left
  ·have e0:=hA.pq 0;simp only[gsa,gsz] at e0;clear hA;go_simp<;>(try with_reducible rfl)
  refine R7.cd ?_ (fun T xs wr hA=>?_) ?_
  rotate_left
  ·have e4:=hA.pq 4;simp only[gsa,gsc,gsz] at e4;have hBq:wr.heap[ke]?=_:=(hA.bl _ hlt_e (fun q h=>absurd h (Nat.not_lt_zero _))).trans HBe.out;obtain⟨q0,q1,q2,q3,q4,q5,q6,q7⟩:=cl8 hBq;clear hBq;clear hA;go_simp<;>(try with_reducible rfl)
  refine R7.cd ?_ (fun T xs wr hA=>?_) ?_
  rotate_left
  ·have e4:=hA.pq 4;simp only[gsa,gsc,gsz] at e4;clear hA;go_simp<;>(try with_reducible rfl)
  refine R7.cd ?_ (fun T xs wr hA=>?_) ?_
  rotate_left
  ·have e38:=tr_ (hA.tq 2 38) (hA.fq 2)
   (try simp (disch:=decide) only [R7.mi] at e38)
   have hBq:wr.heap[ke]?=_:=(hA.bl _ hlt_e (fun q h=>absurd h (Nat.not_lt_zero _))).trans HBe.out;obtain⟨q0,q1,q2,q3,q4,q5,q6,q7⟩:=cl8 hBq;clear hBq;clear hA;go_simp<;>(try with_reducible rfl)
  refine R7.Chain.call (fun xs v w=>v=.pointer (some ⟨a.block,a.off+8,none⟩)) (fun _ _ _ _ h _=>h) (fun _ _ _ _ _ h _ _=>h) (by rfl) (fun T xs wr hA=>?_) ?_
  ·have hsw:=(hA.be 0 (Nat.zero_le _) (fun _ _=>Nat.zero_le _)).size;have e39:=tr_ (hA.tq 3 39) (hA.fq 3)
   (try simp (disch:=decide) only [R7.mi] at e39)
   clear hA;clear hlt_e hge hse hee ht_e n1 n2;have hI:(1:Int)<((ks.length:Nat):Int):=by omega
   have hA:=hk1;clear hA;refine⟨(by rfl),fun K hK=>?_⟩;go_simp
   exact hK.out _ _ rfl (Below.refl _ _)
  refine R7.cd ?_ (fun T xs wr hA=>?_) ?_
  rotate_left
  ·have e40:=hA.tm 4 40 (by rfl) (by rfl);have f40:xs 4=(.pointer (some ⟨a.block,a.off+8,none⟩)):=hA.fa 4 (by rfl);rw[f40] at e40;clear f40;have hbw:=undrew (hA.be w0.heap.size HC.out.bw.size (fun q h=>absurd h (Nat.not_lt_zero _)));have hbw0:=HC.out.bw.trans hbw;obtain⟨z0,z1,z2,z3,z4,z5,z6,z7⟩:=cells8 (w:=wr) (p:=⟨a.block,a.off+8,none⟩) (y:=y) (fun j v hv=>by have:=HY.out j v hv;rw[show (⟨a.block,a.off+8,none⟩:Addr).add j=(a.add ((0+1)*8)).add j from rfl,hbw0.cell (cell_lt this)];exact this);clear hbw hbw0;clear hA;go_simp<;>(try with_reducible rfl)
  refine R7.Chain.call (fun xs v w=>v=.bool (posU ks[1])) (fun _ _ _ _ h _=>h) (fun _ _ _ _ _ h _ _=>h) (by rfl) (fun T xs wr hA=>?_) ?_
  ·have hsw:=(hA.be 0 (Nat.zero_le _) (fun _ _=>Nat.zero_le _)).size;have e41:=tr_ (hA.tq 5 41) (hA.fq 5)
   (try simp (disch:=decide) only [R7.mi] at e41)
   have hbw:=undrew (hA.be w0.heap.size HC.out.bw.size (fun q h=>absurd h (Nat.not_lt_zero _)));have hu:=HU.out.lt.keep (w':=wr) (fun g hg=>(HC.out.bw.trans hbw).block g hg.2);have HUW:=h_ hu;clear hu hbw;clear hA;refine⟨(by rfl),fun K hK=>?_⟩;go_simp
   refine (isPositive_s y ks[1] wr _ HUW.out (HKS.out 1 hk1)).mono ?_;rintro e w' ⟨rfl,hb⟩;exact hK.out _ _ rfl hb
  refine R7.Chain.done (fun xs w5 hL=>?_);obtain⟨⟨hbe,hbl⟩,hf,-,-⟩:=hL;have f0:xs 0=_:=hf 0 (by decide);have f1:xs 1=_:=hf 1 (by decide);have f2:xs 2=_:=hf 2 (by decide);have f3:xs 3=_:=hf 3 (by decide);have f4:xs 4=(.pointer (some ⟨a.block,a.off+8,none⟩)):=hf 4 (by decide);have f5:xs 5=_:=hf 5 (by decide);have f6:xs 6=(.bool (posU ks[1])):=hf 6 (by decide)
  (try simp (disch:=decide) only [R7.mi] at f0 f1 f2 f3 f5)
  have hb:Below w4.heap.size w4 w5:=R7.b0_ hbe;clear hbe hbl hf;refine R7.rest_list (by decide) (by kernel_rfl) ?_;simp only[R7.fill,t1_,t2_,t3_,t4_,t5_,t6_,t7_,f0,f1,f2,f3,f4,f5,f6];clear hlt_e f0 f1 f2 f3 f4 f5 f6;clear c0;replace HBg:=kB hb HBg;replace HBt:=kB hb HBt;replace HBe:=kB hb HBe;replace HC:=h_ (HC.out.below hb);replace HF:=fb_ HF hb;clear hb;go_wp2_with fail
  refine (need_p HC.out ⟨(k:Nat),⟨nm.toArray⟩,⟨ot.toArray⟩,false,xao,xn,xq,some a,ks.length,xkc,(ln:Nat),(cl:Nat)⟩ ln cl rfl rfl (posU ks[1]) 1).mono ?_;rintro e w6 ⟨rfl,⟨ev,hC⟩,hF⟩;replace HBt:=kF hF HBt;replace HBe:=kF hF HBe;replace HF:=h_ (HF.out.trans hF);replace HC:=h_ hC;replace HBg:=h_ hC.blk;clear hC hF;go_wp2_with fail
  go_ret
  refine⟨?_,⟨ev,?_⟩,HF.out⟩
  ·rw[HSO.out];rfl
  rw[HE.out];exact HC.out
 have e:(kOp rf k ln cl (posU (ks.getD 1 u0)) ts s).2=s2:=by
  unfold kOp;simp only[<-HSO.out,<-HS2.out];rw[if_neg (by omega),if_neg (by omega)]
 have HE:=h_ e;clear e;have q8:(((k:Nat):Int)==8)=false:=by rw[beq_eq_false_iff_ne];omega
 have q9:(((k:Nat):Int)==9)=false:=by rw[beq_eq_false_iff_ne];omega
 have q13:(((k:Nat):Int)==13)=false:=by rw[beq_eq_false_iff_ne];omega
 have q14:(((k:Nat):Int)==14)=false:=by rw[beq_eq_false_iff_ne];omega
 clear h8 h9 h13 h14;have c0:=cell_at (v:=.int .i64 (k:Nat)) HBe.out 0 rfl;go_wp2_with fail
 go_ret
 refine⟨?_,⟨ev,?_⟩,HF.out⟩
 ·rw[HSO.out];rfl
 rw[HE.out];exact HC.out
def BaseOk (F:Fs) (Gv:Bs->Option Value) (rf:Bool) (w0:World) (u:U):Prop:=
 ∀ (x:X) (S:Nat->Prop) (w:World) (kg bf bs:Nat) (s:Ks) (ev:Value) (n:Nat),Um w0 S x u->Bnd u->Ck w0 w kg bf bs Gv s rf ev->Dom s.sc n->n+2*ud u<=1000000000000 ->
  Calls Tryz.prog 50 #[.pointer (some ⟨kg,0,none⟩),xv x] w fun e w'=>e=.returned (iv (kEx F rf u s).1)/\CkP w0 w kg bf bs Gv (kEx F rf u s).2 rf w'
theorem kf_kid (F:Fs) (rf:Bool):∀ (ks:List U) (j:Nat) (h:j<ks.length),kf (kExs F rf ks) j=kEx F rf ks[j]
 | u::us,0,_=>by rw[kExs];rfl
 | u::us,j+1,h=>by rw[kExs];exact kf_kid F rf us j (by simpa using h)
theorem ud_kid {ks:List U} {j:Nat} (h:j<ks.length):ud ks[j]<=uds ks:=uds_mem (List.getElem_mem h)
theorem addr_add0 (a:Addr):a.add 0=a:=by unfold Addr.add;simp
theorem big_ok:1000000000000<maxLen:=by decide
theorem assert_s {w0 w:World} {kg bf bs:Nat} {Gv:Bs->Option Value} {s:Ks} {rf:Bool} {ev:Value} (h:Ck w0 w kg bf bs Gv s rf ev) (x:X) (k:Nat) (nm ot:Bs) (z ln cl:Nat) (ks:List U) (S:Nat->Prop) (hu:Um w0 S x (.node k nm ot z ln cl ks)) (hb:Bnd (.node k nm ot z ln cl ks)) (F:Fs) (hK:∀ j (h:j<ks.length),BaseOk F Gv rf w0 ks[j]) (n:Nat) (hd:Dom s.sc n) (hn:n+2*(uds ks+1)<=1000000000000) (hk:k=28) :
  Calls Tryz.prog 76 #[.pointer (some ⟨kg,0,none⟩),xv x] w fun e w'=>e=.returned (iv (kAssert rf ln cl (kExs F rf ks) s).1)/\CkP w0 w kg bf bs Gv ((kAssert rf ln cl (kExs F rf ks) s).2) rf w':=by
 rw[Um] at hu;obtain⟨⟨e1,e2,e3,e4,e5,e6⟩,⟨h2,h3⟩,⟨h4,h5,h6⟩,h7⟩:=hu;obtain⟨xk,xnm,xot,xb,xao,xn,xq,xko,xkn,xkc,xln,xcl⟩:=x;simp only at e1 e2 e3 e4 e5 e6 h2 h3 h4 h5 h6 h7;have HK:=h_ (fun j (hj:j<ks.length)=>ums_get 0 j h7 hj);rw[Bnd] at hb;have HNM:Hid (nm.length<=3000):=h_ hb.2.1.1;have HOT:Hid (ot.length<=3000):=h_ hb.2.1.2.1;have hlen:ks.length=2:=by rcases hb.1.2 with h | h;omega;rw[h,hk];rfl
 have HKS:=h_ (fun j (hj:j<ks.length)=>bnds_mem hb.2.2.2 (List.getElem_mem hj));have HL:=h_ hlen;have HKB:=h_ hK;have HD:=h_ hd;have HNN:=h_ hn;obtain⟨y0,⟨a,ha,hy⟩,hU⟩:=HK.out 0 (by omega);subst ha;have HKK:=h_ hk;clear h7 hb h2 h3 h5 h6 hK hd hn hy hU hlen hk;subst e1 e2 e3 e4 e5 e6;subst h4;simp only[xv];have HC:=h_ h;have HBg:=h_ h.blk;have HF:Hid (Fc w w kg bs):=h_ (Fc.refl _ _ _);clear h;go_enter Tryz.func76,Tryz.ntmps76
 go_upto_region 1 with fail
 obtain⟨w1,ke,hw,hkk,hb,hs1,HBe⟩:=newb w #[.int .i64 (k:Nat),.string ⟨nm.toArray⟩,.string ⟨ot.toArray⟩,.bool false,.slice xao xn xq,.slice (some a) ks.length xkc,.int .i64 (ln:Nat),.int .i64 (cl:Nat)] 48;have hge:=lk_ hkk HBg;have hse:bs<ke:=by rw[hkk];exact HC.out.sm.lt
 have hee:w.heap.size<=ke:=by rw[hkk];exact HF.out.size
 rw[hw,<-hkk];replace HBg:=kB hb HBg;replace HC:=h_ (HC.out.below hb);replace HF:=fb_ HF hb;clear hw hb hkk hs1;have HKF0:=h_ (kf_kid F rf ks 0 (by rw[HL.out];decide));have HKF1:=h_ (kf_kid F rf ks 1 (by rw[HL.out];decide));obtain⟨y0,⟨a0,ha,hy⟩,hU⟩:=HK.out 0 (by rw[HL.out];decide);obtain rfl:a=a0:=by injection ha
 clear ha;have hbw0:=HC.out.bw;obtain⟨z0,z1,z2,z3,z4,z5,z6,z7⟩:=cells8 (w:=w1) (p:=a) (y:=y0) (fun q v hv=>by have:=hy q v hv;rw[show (a:Addr).add q=(a.add ((0+0)*8)).add q from (by rw[show (0+0)*8=0 from rfl,addr_add0]),hbw0.cell (cell_lt this)];exact this);have HU:=h_ hU;clear hy hU hbw0;obtain⟨c0,c1,c2,c3,c4,c5,c6,c7⟩:=cl8 HBe.out;have hI:(0:Int)<((ks.length:Nat):Int):=by rw[HL.out];decide
 go_wp2_with fail
 refine (HKB.out 0 (by rw[HL.out];decide) y0 S w1 kg bf bs s ev n HU.out (HKS.out 0 (by rw[HL.out];decide)) HC.out HD.out (by have:=ud_kid (ks:=ks) (j:=0) (by rw[HL.out];decide);have:=HNN.out;omega)).mono ?_;rintro e w2 ⟨rfl,⟨ev,hC⟩,hF⟩;clear c0 c1 c2 c3 c4 c5 c6 c7 z0 z1 z2 z3 z4 z5 z6 z7 hI;replace HBe:=kF hF HBe;replace HF:=h_ (HF.out.trans hF);replace HC:=h_ hC;replace HBg:=h_ hC.blk;clear hC hF;obtain⟨b0,hbb⟩:∃ x,x=(kEx F rf (ks[0]'(by rw[HL.out];decide)) s).1:=⟨_,rfl⟩
 obtain⟨s0,hss⟩:∃ x,x=(kEx F rf (ks[0]'(by rw[HL.out];decide)) s).2:=⟨_,rfl⟩
 rw[<-hbb];rw[<-hss] at HC;have HBB0:=h_ hbb;have HSS0:=h_ hss;clear hbb hss;clear HU;have HD0:Hid (Dom s0.sc n):=h_ (HD.out.sub (by rw[HSS0.out];exact kdm_b F rf _ s));go_upto_region 2 with fail
 have hlt_g:=lt_of_block HBg.out;have hlt_e:=lt_of_block HBe.out;refine R7.r0 [[],[],[],[2],[2,3],[2,3,4],[2,3,4,5],[0,1,2,3,4,5,6]] 7 ?_;refine R7.cd ?_ (fun T xs wr hA=>?_) ?_
 rotate_left
 ·have e0:=hA.pq 0;simp only[gsa,gsz] at e0;clear hA;go_simp<;>(try with_reducible rfl)
 refine R7.cd ?_ (fun T xs wr hA=>?_) ?_
 rotate_left
 ·have e3:=hA.pq 3;simp only[gsa,gsc,gsz] at e3;have hBq:wr.heap[ke]?=_:=(hA.bl _ hlt_e (fun q h=>absurd h (Nat.not_lt_zero _))).trans HBe.out;obtain⟨q0,q1,q2,q3,q4,q5,q6,q7⟩:=cl8 hBq;clear hBq;clear hA;go_simp<;>(try with_reducible rfl)
 refine R7.cd ?_ (fun T xs wr hA=>?_) ?_
 rotate_left
 ·have e0:=hA.pq 0;simp only[gsa,gsz] at e0;clear hA;go_simp<;>(try with_reducible rfl)
 refine R7.cd ?_ (fun T xs wr hA=>?_) ?_
 rotate_left
 ·have e14:=tr_ (hA.tq 2 14) (hA.fq 2)
  (try simp (disch:=decide) only [R7.mi] at e14)
  clear hA;go_simp<;>(try with_reducible rfl)
 refine R7.cd ?_ (fun T xs wr hA=>?_) ?_
 rotate_left
 ·have e15:=tr_ (hA.tq 3 15) (hA.fq 3)
  (try simp (disch:=decide) only [R7.mi] at e15)
  clear hA;go_simp<;>(try with_reducible rfl)
 refine R7.cd ?_ (fun T xs wr hA=>?_) ?_
 rotate_left
 ·have e16:=tr_ (hA.tq 4 16) (hA.fq 4)
  (try simp (disch:=decide) only [R7.mi] at e16)
  have hBq:wr.heap[kg]?=_:=(hA.bl _ hlt_g (fun q h=>absurd h (Nat.not_lt_zero _))).trans HBg.out;obtain⟨q0,q1,q2,q3⟩:=cl4 hBq;clear hBq;clear hA;go_simp<;>(try with_reducible rfl)
 refine R7.cd ?_ (fun T xs wr hA=>?_) ?_
 rotate_left
 ·have e17:=tr_ (hA.tq 5 17) (hA.fq 5)
  (try simp (disch:=decide) only [R7.mi] at e17)
  clear hA;go_simp<;>(try with_reducible rfl)
 refine R7.Chain.done (fun xs w3 hL=>?_);obtain⟨⟨hbe,hbl⟩,hf,-,-⟩:=hL;have f0:xs 0=_:=hf 0 (by decide);have f1:xs 1=_:=hf 1 (by decide);have f2:xs 2=_:=hf 2 (by decide);have f3:xs 3=_:=hf 3 (by decide);have f4:xs 4=_:=hf 4 (by decide);have f5:xs 5=_:=hf 5 (by decide);have f6:xs 6=_:=hf 6 (by decide)
 (try simp (disch:=decide) only [R7.mi] at f0 f1 f2 f3 f4 f5 f6)
 have hb:Below w2.heap.size w2 w3:=R7.b0_ hbe;clear hbe hbl hf;refine R7.rest_list (by decide) (by kernel_rfl) ?_;simp only[R7.fill,t1_,t2_,t3_,t4_,t5_,t6_,t7_,f0,f1,f2,f3,f4,f5,f6];clear hlt_g hlt_e f0 f1 f2 f3 f4 f5 f6;replace HBg:=kB hb HBg;replace HBe:=kB hb HBe;replace HC:=h_ (HC.out.below hb);replace HF:=fb_ HF hb;clear hb;go_wp2_with fail
 refine (need_p HC.out ⟨(k:Nat),⟨nm.toArray⟩,⟨ot.toArray⟩,false,xao,xn,xq,some a,ks.length,xkc,(ln:Nat),(cl:Nat)⟩ ln cl rfl rfl (!rf) 1).mono ?_;rintro e w4 ⟨rfl,⟨ev,hC⟩,hF⟩;replace HBe:=kF hF HBe;replace HF:=h_ (HF.out.trans hF);replace HC:=h_ hC;replace HBg:=h_ hC.blk;clear hC hF;go_upto_region 3 with fail
 obtain⟨c0,c1,c2,c3,c4,c5,c6,c7⟩:=cl8 HBe.out;unfold iv;go_wp2_with fail
 refine (need_p HC.out ⟨(k:Nat),⟨nm.toArray⟩,⟨ot.toArray⟩,false,xao,xn,xq,some a,ks.length,xkc,(ln:Nat),(cl:Nat)⟩ ln cl rfl rfl (((b0:Nat):Int)==1) 4).mono ?_;rintro e w5 ⟨rfl,⟨ev,hC⟩,hF⟩;clear c0 c1 c2 c3 c4 c5 c6 c7;replace HBe:=kF hF HBe;replace HF:=h_ (HF.out.trans hF);replace HC:=h_ hC;replace HBg:=h_ hC.blk;clear hC hF;rw[nbeq1] at HC;obtain⟨s2,hs2⟩:∃ x,x=(s0.need ln cl (!rf) 1).need ln cl (b0==1) 4:=⟨_,rfl⟩
 rw[<-hs2] at HC;have HS2:=h_ hs2;clear hs2;have HD2:Hid (Dom s2.sc n):=h_ (by rw[HS2.out,need_sc,need_sc];exact HD0.out);go_upto_region 4 with fail
 obtain⟨y1,⟨a1,ha,hy⟩,hU⟩:=HK.out 1 (by rw[HL.out];decide);obtain rfl:a=a1:=by injection ha
 clear ha;have hbw0:=HC.out.bw;obtain⟨z0,z1,z2,z3,z4,z5,z6,z7⟩:=cells8 (w:=w5) (p:=⟨a.block,a.off+8,none⟩) (y:=y1) (fun q v hv=>by have:=hy q v hv;rw[show (⟨a.block,a.off+8,none⟩:Addr).add q=(a.add ((0+1)*8)).add q from rfl,hbw0.cell (cell_lt this)];exact this);have HU:=h_ hU;clear hy hU hbw0;obtain⟨c0,c1,c2,c3,c4,c5,c6,c7⟩:=cl8 HBe.out;have hI:(1:Int)<((ks.length:Nat):Int):=by rw[HL.out];decide
 go_wp2_with fail
 refine (HKB.out 1 (by rw[HL.out];decide) y1 S w5 kg bf bs s2 ev n HU.out (HKS.out 1 (by rw[HL.out];decide)) HC.out HD2.out (by have:=ud_kid (ks:=ks) (j:=1) (by rw[HL.out];decide);have:=HNN.out;omega)).mono ?_;rintro e w6 ⟨rfl,⟨ev,hC⟩,hF⟩;clear c0 c1 c2 c3 c4 c5 c6 c7 z0 z1 z2 z3 z4 z5 z6 z7 hI;replace HBe:=kF hF HBe;replace HF:=h_ (HF.out.trans hF);replace HC:=h_ hC;replace HBg:=h_ hC.blk;clear hC hF;obtain⟨b1,hbb⟩:∃ x,x=(kEx F rf (ks[1]'(by rw[HL.out];decide)) s2).1:=⟨_,rfl⟩
 obtain⟨s1,hss⟩:∃ x,x=(kEx F rf (ks[1]'(by rw[HL.out];decide)) s2).2:=⟨_,rfl⟩
 rw[<-hbb];rw[<-hss] at HC;have HBB1:=h_ hbb;have HSS1:=h_ hss;clear hbb hss;clear HU;go_wp2_with fail
 go_ret
 have e:kAssert rf ln cl (kExs F rf ks) s=(b1,s1):=by
  unfold kAssert;simp only[HKF0.out,HKF1.out,<-HBB0.out,<-HSS0.out,<-HS2.out];rw[HBB1.out,HSS1.out]
 rw[e];exact⟨rfl,⟨ev,HC.out⟩,HF.out⟩
theorem addM_sc (m:Sc) (n:Bs) (v:Nat):addM (scV m) n (iv v)=scV (if (m n).isNone then m.put n v else m):=by
 unfold addM;rw[scV_some]
 cases h:m n with
 | none=>simp only[Option.isSome_none,Option.isNone_none,Bool.false_eq_true,if_false,if_true];rw[scV_put]
 | some x=>simp only[Option.isSome_some,Option.isNone_some,Bool.false_eq_true,if_false,if_true]
theorem scV_none (m:Sc) (n:Bs):(scV m n).isNone=(m n).isNone:=by unfold scV;cases m n<;>rfl
theorem Dom.add {m:Sc} {n:Nat} (h:Dom m n) (x:Bs) (v:Nat):Dom (if (m x).isNone then m.put x v else m) (n+1):=by
 split
 ·exact h.put x v
 exact h.mono (Nat.le_succ n)
theorem nm_ok {l:Bs} (h:l.length<=3000):l.length<=maxLen:=Nat.le_trans h (by decide)
theorem let_s {w0 w:World} {kg bf bs:Nat} {Gv:Bs->Option Value} {s:Ks} {rf:Bool} {ev:Value} (h:Ck w0 w kg bf bs Gv s rf ev) (x:X) (k:Nat) (nm ot:Bs) (z ln cl:Nat) (ks:List U) (S:Nat->Prop) (hu:Um w0 S x (.node k nm ot z ln cl ks)) (hb:Bnd (.node k nm ot z ln cl ks)) (F:Fs) (hK:∀ j (h:j<ks.length),BaseOk F Gv rf w0 ks[j]) (n:Nat) (hd:Dom s.sc n) (hn:n+2*(uds ks+1)<=1000000000000) (hk:k=26) :
  Calls Tryz.prog 74 #[.pointer (some ⟨kg,0,none⟩),xv x] w fun e w'=>e=.returned (iv (kLet rf nm ln cl (kExs F rf ks) s).1)/\CkP w0 w kg bf bs Gv ((kLet rf nm ln cl (kExs F rf ks) s).2) rf w':=by
 rw[Um] at hu;obtain⟨⟨e1,e2,e3,e4,e5,e6⟩,⟨h2,h3⟩,⟨h4,h5,h6⟩,h7⟩:=hu;obtain⟨xk,xnm,xot,xb,xao,xn,xq,xko,xkn,xkc,xln,xcl⟩:=x;simp only at e1 e2 e3 e4 e5 e6 h2 h3 h4 h5 h6 h7;have HK:=h_ (fun j (hj:j<ks.length)=>ums_get 0 j h7 hj);rw[Bnd] at hb;have HNM:Hid (nm.length<=3000):=h_ hb.2.1.1;have HOT:Hid (ot.length<=3000):=h_ hb.2.1.2.1;have hlen:ks.length=2:=by rcases hb.1.2 with h | h;omega;rw[h,hk];rfl
 have HKS:=h_ (fun j (hj:j<ks.length)=>bnds_mem hb.2.2.2 (List.getElem_mem hj));have HL:=h_ hlen;have HKB:=h_ hK;have HD:=h_ hd;have HNN:=h_ hn;obtain⟨y0,⟨a,ha,hy⟩,hU⟩:=HK.out 0 (by omega);subst ha;have HKK:=h_ hk;clear h7 hb h2 h3 h5 h6 hK hd hn hy hU hlen hk;subst e1 e2 e3 e4 e5 e6;subst h4;simp only[xv];have HC:=h_ h;have HBg:=h_ h.blk;have HF:Hid (Fc w w kg bs):=h_ (Fc.refl _ _ _);clear h;have hgs:kg≠bs:=HC.out.gs;have HGS:=h_ hgs;clear hgs;go_enter Tryz.func74,Tryz.ntmps74
 go_upto_region 1 with fail
 obtain⟨w1,ke,hw,hkk,hb,hs1,HBe⟩:=newb w #[.int .i64 (k:Nat),.string ⟨nm.toArray⟩,.string ⟨ot.toArray⟩,.bool false,.slice xao xn xq,.slice (some a) ks.length xkc,.int .i64 (ln:Nat),.int .i64 (cl:Nat)] 48;have hge:=lk_ hkk HBg;have hse:bs<ke:=by rw[hkk];exact HC.out.sm.lt
 have hee:w.heap.size<=ke:=by rw[hkk];exact HF.out.size
 rw[hw,<-hkk];replace HBg:=kB hb HBg;replace HC:=h_ (HC.out.below hb);replace HF:=fb_ HF hb;clear hw hb hkk hs1;have HKF0:=h_ (kf_kid F rf ks 0 (by rw[HL.out];decide));have HKF1:=h_ (kf_kid F rf ks 1 (by rw[HL.out];decide));obtain⟨y0,⟨a0,ha,hy⟩,hU⟩:=HK.out 0 (by rw[HL.out];decide);obtain rfl:a=a0:=by injection ha
 clear ha;have hbw0:=HC.out.bw;obtain⟨z0,z1,z2,z3,z4,z5,z6,z7⟩:=cells8 (w:=w1) (p:=a) (y:=y0) (fun q v hv=>by have:=hy q v hv;rw[show (a:Addr).add q=(a.add ((0+0)*8)).add q from (by rw[show (0+0)*8=0 from rfl,addr_add0]),hbw0.cell (cell_lt this)];exact this);have HU:=h_ hU;clear hy hU hbw0;obtain⟨c0,c1,c2,c3,c4,c5,c6,c7⟩:=cl8 HBe.out;have hI:(0:Int)<((ks.length:Nat):Int):=by rw[HL.out];decide
 go_wp2_with fail
 refine (HKB.out 0 (by rw[HL.out];decide) y0 S w1 kg bf bs s ev n HU.out (HKS.out 0 (by rw[HL.out];decide)) HC.out HD.out (by have:=ud_kid (ks:=ks) (j:=0) (by rw[HL.out];decide);have:=HNN.out;omega)).mono ?_;rintro e w2 ⟨rfl,⟨ev,hC⟩,hF⟩;clear c0 c1 c2 c3 c4 c5 c6 c7 z0 z1 z2 z3 z4 z5 z6 z7 hI;replace HBe:=kF hF HBe;replace HF:=h_ (HF.out.trans hF);replace HC:=h_ hC;replace HBg:=h_ hC.blk;clear hC hF;obtain⟨b0,hbb⟩:∃ x,x=(kEx F rf (ks[0]'(by rw[HL.out];decide)) s).1:=⟨_,rfl⟩
 obtain⟨s0,hss⟩:∃ x,x=(kEx F rf (ks[0]'(by rw[HL.out];decide)) s).2:=⟨_,rfl⟩
 rw[<-hbb];rw[<-hss] at HC;have HBB0:=h_ hbb;have HSS0:=h_ hss;clear hbb hss;clear HU;have HD0:Hid (Dom s0.sc n):=h_ (HD.out.sub (by rw[HSS0.out];exact kdm_b F rf _ s));go_upto_region 2 with fail
 have hlt_g:=lt_of_block HBg.out;have hlt_e:=lt_of_block HBe.out;refine R7.r0 [[],[],[],[2],[2,3],[2,3,4],[2,3,4,5],[0,1,2,3,4,5,6]] 7 ?_;refine R7.cd ?_ (fun T xs wr hA=>?_) ?_
 rotate_left
 ·have e0:=hA.pq 0;simp only[gsa,gsz] at e0;clear hA;go_simp<;>(try with_reducible rfl)
 refine R7.cd ?_ (fun T xs wr hA=>?_) ?_
 rotate_left
 ·have e3:=hA.pq 3;simp only[gsa,gsc,gsz] at e3;have hBq:wr.heap[ke]?=_:=(hA.bl _ hlt_e (fun q h=>absurd h (Nat.not_lt_zero _))).trans HBe.out;obtain⟨q0,q1,q2,q3,q4,q5,q6,q7⟩:=cl8 hBq;clear hBq;clear hA;go_simp<;>(try with_reducible rfl)
 refine R7.cd ?_ (fun T xs wr hA=>?_) ?_
 rotate_left
 ·have e0:=hA.pq 0;simp only[gsa,gsz] at e0;clear hA;go_simp<;>(try with_reducible rfl)
 refine R7.cd ?_ (fun T xs wr hA=>?_) ?_
 rotate_left
 ·have e15:=tr_ (hA.tq 2 15) (hA.fq 2)
  (try simp (disch:=decide) only [R7.mi] at e15)
  clear hA;go_simp<;>(try with_reducible rfl)
 refine R7.cd ?_ (fun T xs wr hA=>?_) ?_
 rotate_left
 ·have e16:=tr_ (hA.tq 3 16) (hA.fq 3)
  (try simp (disch:=decide) only [R7.mi] at e16)
  clear hA;go_simp<;>(try with_reducible rfl)
 refine R7.cd ?_ (fun T xs wr hA=>?_) ?_
 rotate_left
 ·have e17:=tr_ (hA.tq 4 17) (hA.fq 4)
  (try simp (disch:=decide) only [R7.mi] at e17)
  have hBq:wr.heap[kg]?=_:=(hA.bl _ hlt_g (fun q h=>absurd h (Nat.not_lt_zero _))).trans HBg.out;obtain⟨q0,q1,q2,q3⟩:=cl4 hBq;clear hBq;clear hA;go_simp<;>(try with_reducible rfl)
 refine R7.cd ?_ (fun T xs wr hA=>?_) ?_
 rotate_left
 ·have e18:=tr_ (hA.tq 5 18) (hA.fq 5)
  (try simp (disch:=decide) only [R7.mi] at e18)
  clear hA;go_simp<;>(try with_reducible rfl)
 refine R7.Chain.done (fun xs w3 hL=>?_);obtain⟨⟨hbe,hbl⟩,hf,-,-⟩:=hL;have f0:xs 0=_:=hf 0 (by decide);have f1:xs 1=_:=hf 1 (by decide);have f2:xs 2=_:=hf 2 (by decide);have f3:xs 3=_:=hf 3 (by decide);have f4:xs 4=_:=hf 4 (by decide);have f5:xs 5=_:=hf 5 (by decide);have f6:xs 6=_:=hf 6 (by decide)
 (try simp (disch:=decide) only [R7.mi] at f0 f1 f2 f3 f4 f5 f6)
 have hb:Below w2.heap.size w2 w3:=R7.b0_ hbe;clear hbe hbl hf;refine R7.rest_list (by decide) (by kernel_rfl) ?_;simp only[R7.fill,t1_,t2_,t3_,t4_,t5_,t6_,t7_,f0,f1,f2,f3,f4,f5,f6];clear hlt_g hlt_e f0 f1 f2 f3 f4 f5 f6;replace HBg:=kB hb HBg;replace HBe:=kB hb HBe;replace HC:=h_ (HC.out.below hb);replace HF:=fb_ HF hb;clear hb;go_wp2_with fail
 refine (need_p HC.out ⟨(k:Nat),⟨nm.toArray⟩,⟨ot.toArray⟩,false,xao,xn,xq,some a,ks.length,xkc,(ln:Nat),(cl:Nat)⟩ ln cl rfl rfl (!rf) 1).mono ?_;rintro e w4 ⟨rfl,⟨ev,hC⟩,hF⟩;replace HBe:=kF hF HBe;replace HF:=h_ (HF.out.trans hF);replace HC:=h_ hC;replace HBg:=h_ hC.blk;clear hC hF;obtain⟨sA,hsA⟩:∃ x,x=s0.need ln cl (!rf) 1:=⟨_,rfl⟩
 rw[<-hsA] at HC;have HSA:=h_ hsA;clear hsA;have HDA:Hid (Dom sA.sc n):=h_ (by rw[HSA.out,need_sc];exact HD0.out);go_upto_region 3 with fail
 have hgs:=HGS.out;have hlt_g:=lt_of_block HBg.out;have hlt_e:=lt_of_block HBe.out;have hog:Hid (∀ q,q<1->(fun q=>bs) q<w4.heap.size):=h_ (fun q _=>by show bs<_;exact HC.out.sm.lt);refine R7.region (by kernel_rfl) [[],[],[],[2],[2,3],[2,3,4],[],[6],[],[2,3,4,5,6,7,8],[0,1,2,3,4,5,6,7,8,9]] [] [(9,1000)] (fun q=>bs) 1 10 (by kernel_rfl) (by kernel_rfl) (by rfl) hog.out (fun q q' h h' hn=>absurd hn (by omega)) ?_;refine R7.cd ?_ (fun T xs wr hA=>?_) ?_
 rotate_left
 ·have e0:=hA.pq 0;simp only[gsa,gsz] at e0;clear hA;go_simp<;>(try with_reducible rfl)
 refine R7.cd ?_ (fun T xs wr hA=>?_) ?_
 rotate_left
 ·have e3:=hA.pq 3;simp only[gsa,gsc,gsz] at e3;have hBq:wr.heap[ke]?=_:=(hA.bl _ hlt_e (fun q _=>by show bs≠ke;omega)).trans HBe.out;obtain⟨q0,q1,q2,q3,q4,q5,q6,q7⟩:=cl8 hBq;clear hBq;clear hA;go_simp<;>(try with_reducible rfl)
 refine R7.cd ?_ (fun T xs wr hA=>?_) ?_
 rotate_left
 ·have e0:=hA.pq 0;simp only[gsa,gsz] at e0;clear hA;go_simp<;>(try with_reducible rfl)
 refine R7.cd ?_ (fun T xs wr hA=>?_) ?_
 rotate_left
 ·have e23:=tr_ (hA.tq 2 23) (hA.fq 2)
  (try simp (disch:=decide) only [R7.mi] at e23)
  clear hA;go_simp<;>(try with_reducible rfl)
 refine R7.cd ?_ (fun T xs wr hA=>?_) ?_
 rotate_left
 ·have e24:=tr_ (hA.tq 3 24) (hA.fq 3)
  (try simp (disch:=decide) only [R7.mi] at e24)
  clear hA;go_simp<;>(try with_reducible rfl)
 refine R7.cd ?_ (fun T xs wr hA=>?_) ?_
 rotate_left
 ·have e25:=tr_ (hA.tq 4 25) (hA.fq 4)
  (try simp (disch:=decide) only [R7.mi] at e25)
  have hBq:wr.heap[kg]?=_:=(hA.bl _ hlt_g (fun q _=>by show bs≠kg;omega)).trans HBg.out;obtain⟨q0,q1,q2,q3⟩:=cl4 hBq;clear hBq;clear hA;go_simp<;>(try with_reducible rfl)
 refine R7.cd ?_ (fun T xs wr hA=>?_) ?_
 rotate_left
 ·have e3:=hA.pq 3;simp only[gsa,gsc,gsz] at e3;clear hA;go_simp<;>(try with_reducible rfl)
 refine R7.cd ?_ (fun T xs wr hA=>?_) ?_
 rotate_left
 ·have e27:=tr_ (hA.tq 6 27) (hA.fq 6)
  (try simp (disch:=decide) only [R7.mi] at e27)
  have hBq:wr.heap[ke]?=_:=(hA.bl _ hlt_e (fun q _=>by show bs≠ke;omega)).trans HBe.out;obtain⟨q0,q1,q2,q3,q4,q5,q6,q7⟩:=cl8 hBq;clear hBq;clear hA;go_simp<;>(try with_reducible rfl)
 refine R7.cd ?_ (fun T xs wr hA=>?_) ?_
 rotate_left
 ·have e5:=hA.pq 5;simp only[gsa,gsc,gsz] at e5;clear hA;go_simp<;>(try with_reducible rfl)
 refine R7.Chain.callOld 0 (fun xs v w=>v=.bool (scV sA.sc nm).isNone/\MapIs Tryz.prog 9 w bs (addM (scV sA.sc) nm (iv b0))) (fun _ _ _ _ ⟨h1,h2⟩ hb=>⟨h1,h2.keep (hb.block _ h2.lt)⟩) (fun _ _ _ _ q' _ hq hne _=>absurd rfl hne) (by rfl) (by rfl) (by decide) (R7.own_one (by rfl)) (fun T xs wr hA hold=>?_) ?_
 ·have hsw:=(hA.be 0 (Nat.zero_le _) (fun _ _=>Nat.zero_le _)).size;have e26:=tr_ (hA.tq 5 26) (hA.fq 5);have e28:=tr_ (hA.tq 7 28) (hA.fq 7);have e29:=tr_ (hA.tq 8 29) (hA.fq 8)
  (try simp (disch:=decide) only [R7.mi] at e26 e28 e29)
  have HMW:=h_ (HC.out.sm.keep hold);clear hA;refine⟨(by rfl),fun K hK=>?_⟩;go_simp
  refine (addB_p bs (scV sA.sc) nm b0 wr HMW.out (nm_ok HNM.out) (domV HDA.out) (Nat.lt_of_le_of_lt (by have:=HNN.out;omega) big_ok)).mono ?_;rintro e w' ⟨rfl,hm,hg⟩;exact hK.out _ _ ⟨rfl,hm⟩ (R7.Priv.of hg)
 refine R7.Chain.done (fun xs w5 hL=>?_);obtain⟨⟨hbe,hbl⟩,hf,-,-⟩:=hL;have f0:xs 0=_:=hf 0 (by decide);have f1:xs 1=_:=hf 1 (by decide);have f2:xs 2=_:=hf 2 (by decide);have f3:xs 3=_:=hf 3 (by decide);have f4:xs 4=_:=hf 4 (by decide);have f5:xs 5=_:=hf 5 (by decide);have f6:xs 6=_:=hf 6 (by decide);have f7:xs 7=_:=hf 7 (by decide);have f8:xs 8=_:=hf 8 (by decide);have F9:(xs 9)=.bool (scV sA.sc nm).isNone/\MapIs Tryz.prog 9 w5 bs (addM (scV sA.sc) nm (iv b0)):=hf 9 (by decide)
 (try simp (disch:=decide) only [R7.mi] at f0 f1 f2 f3 f4 f5 f6 f7 f8)
 have hb0:Below 0 w4 w5:=undrew (hbe 0 (Nat.zero_le _) (fun _ _=>Nat.zero_le _));have hgr:∀ j,j<w4.heap.size->(∀ q,q<1->(fun q=>bs) q≠j)->w5.heap[j]?=w4.heap[j]?:=hbl;clear hbe hbl hf;obtain⟨hv,hm⟩:=F9;have hg:w4.grownBy w5 (some bs):=⟨hb0.os,hb0.tape,hb0.output,hb0.size,fun k hk hn=>hgr k hk (fun q _ e=>hn (by rw[<-e]))⟩
 rw[scV_none] at hv;refine R7.rest_list (by decide) (by kernel_rfl) ?_;simp only[R7.fill,t1_,t2_,t3_,t4_,t5_,t6_,t7_,f0,f1,f2,f3,f4,f5,f6,f7,f8];simp only[hv];rw[addM_sc] at hm;clear hog hv hb0 hgr hgs hlt_e hlt_g f0 f1 f2 f3 f4 f5 f6 f7 f8;replace HBg:=kG hg HBg HGS.out;replace HBe:=kG hg HBe;replace HF:=h_ (HF.out.trans (Fc.of_b hg kg));replace HC:=h_ (HC.out.turn hg hm);clear hg hm;obtain⟨sB,hsB⟩:∃ x:Ks,x=⟨if (sA.sc nm).isNone then sA.sc.put nm b0 else sA.sc,sA.er⟩:=⟨_,rfl⟩
 rw[<-hsB] at HC;have HSB:=h_ hsB;clear hsB;have HDB:Hid (Dom sB.sc (n+1)):=h_ (by rw[HSB.out];exact HDA.out.add nm b0);go_wp2_with fail
 refine (need_p HC.out ⟨(k:Nat),⟨nm.toArray⟩,⟨ot.toArray⟩,false,xao,xn,xq,some a,ks.length,xkc,(ln:Nat),(cl:Nat)⟩ ln cl rfl rfl (sA.sc nm).isNone 3).mono ?_;rintro e w6 ⟨rfl,⟨ev,hC⟩,hF⟩;replace HBe:=kF hF HBe;replace HF:=h_ (HF.out.trans hF);replace HC:=h_ hC;replace HBg:=h_ hC.blk;clear hC hF;obtain⟨sD,hsD⟩:∃ x:Ks,x=sB.need ln cl (sA.sc nm).isNone 3:=⟨_,rfl⟩
 rw[<-hsD] at HC;have HSD:=h_ hsD;clear hsD;have HDD:Hid (Dom sD.sc (n+1)):=h_ (by rw[HSD.out,need_sc];exact HDB.out);go_upto_region 4 with fail
 obtain⟨y1,⟨a1,ha,hy⟩,hU⟩:=HK.out 1 (by rw[HL.out];decide);obtain rfl:a=a1:=by injection ha
 clear ha;have hbw0:=HC.out.bw;obtain⟨z0,z1,z2,z3,z4,z5,z6,z7⟩:=cells8 (w:=w6) (p:=⟨a.block,a.off+8,none⟩) (y:=y1) (fun q v hv=>by have:=hy q v hv;rw[show (⟨a.block,a.off+8,none⟩:Addr).add q=(a.add ((0+1)*8)).add q from rfl,hbw0.cell (cell_lt this)];exact this);have HU:=h_ hU;clear hy hU hbw0;obtain⟨c0,c1,c2,c3,c4,c5,c6,c7⟩:=cl8 HBe.out;have hI:(1:Int)<((ks.length:Nat):Int):=by rw[HL.out];decide
 go_wp2_with fail
 refine (HKB.out 1 (by rw[HL.out];decide) y1 S w6 kg bf bs sD ev (n+1) HU.out (HKS.out 1 (by rw[HL.out];decide)) HC.out HDD.out (by have:=ud_kid (ks:=ks) (j:=1) (by rw[HL.out];decide);have:=HNN.out;omega)).mono ?_;rintro e w7 ⟨rfl,⟨ev,hC⟩,hF⟩;clear c0 c1 c2 c3 c4 c5 c6 c7 z0 z1 z2 z3 z4 z5 z6 z7 hI;replace HBe:=kF hF HBe;replace HF:=h_ (HF.out.trans hF);replace HC:=h_ hC;replace HBg:=h_ hC.blk;clear hC hF;obtain⟨b1,hbb⟩:∃ x,x=(kEx F rf (ks[1]'(by rw[HL.out];decide)) sD).1:=⟨_,rfl⟩
 obtain⟨s1,hss⟩:∃ x,x=(kEx F rf (ks[1]'(by rw[HL.out];decide)) sD).2:=⟨_,rfl⟩
 rw[<-hbb];rw[<-hss] at HC;have HBB1:=h_ hbb;have HSS1:=h_ hss;clear hbb hss;clear HU;go_upto_region 5 with fail
 have hlt_g:=lt_of_block HBg.out;have hlt_e:=lt_of_block HBe.out;refine R7.r0 [[],[0],[0,1],[0,1,2],[],[4],[0,1,2,3,4,5]] 6 ?_;refine R7.cd ?_ (fun T xs wr hA=>?_) ?_
 rotate_left
 ·have e0:=hA.pq 0;simp only[gsa,gsz] at e0;clear hA;go_simp<;>(try with_reducible rfl)
 refine R7.cd ?_ (fun T xs wr hA=>?_) ?_
 rotate_left
 ·have e38:=tr_ (hA.tq 0 38) (hA.fq 0)
  (try simp (disch:=decide) only [R7.mi] at e38)
  clear hA;go_simp<;>(try with_reducible rfl)
 refine R7.cd ?_ (fun T xs wr hA=>?_) ?_
 rotate_left
 ·have e39:=tr_ (hA.tq 1 39) (hA.fq 1)
  (try simp (disch:=decide) only [R7.mi] at e39)
  clear hA;go_simp<;>(try with_reducible rfl)
 refine R7.cd ?_ (fun T xs wr hA=>?_) ?_
 rotate_left
 ·have e40:=tr_ (hA.tq 2 40) (hA.fq 2)
  (try simp (disch:=decide) only [R7.mi] at e40)
  have hBq:wr.heap[kg]?=_:=(hA.bl _ hlt_g (fun q h=>absurd h (Nat.not_lt_zero _))).trans HBg.out;obtain⟨q0,q1,q2,q3⟩:=cl4 hBq;clear hBq;clear hA;go_simp<;>(try with_reducible rfl)
 refine R7.cd ?_ (fun T xs wr hA=>?_) ?_
 rotate_left
 ·have e3:=hA.pq 3;simp only[gsa,gsc,gsz] at e3;clear hA;go_simp<;>(try with_reducible rfl)
 refine R7.cd ?_ (fun T xs wr hA=>?_) ?_
 rotate_left
 ·have e42:=tr_ (hA.tq 4 42) (hA.fq 4)
  (try simp (disch:=decide) only [R7.mi] at e42)
  have hBq:wr.heap[ke]?=_:=(hA.bl _ hlt_e (fun q h=>absurd h (Nat.not_lt_zero _))).trans HBe.out;obtain⟨q0,q1,q2,q3,q4,q5,q6,q7⟩:=cl8 hBq;clear hBq;clear hA;go_simp<;>(try with_reducible rfl)
 refine R7.Chain.done (fun xs w8 hL=>?_);obtain⟨⟨hbe,hbl⟩,hf,-,-⟩:=hL;have f0:xs 0=_:=hf 0 (by decide);have f1:xs 1=_:=hf 1 (by decide);have f2:xs 2=_:=hf 2 (by decide);have f3:xs 3=_:=hf 3 (by decide);have f4:xs 4=_:=hf 4 (by decide);have f5:xs 5=_:=hf 5 (by decide)
 (try simp (disch:=decide) only [R7.mi] at f0 f1 f2 f3 f4 f5)
 have hb:Below w7.heap.size w7 w8:=R7.b0_ hbe;clear hbe hbl hf;refine R7.rest_list (by decide) (by kernel_rfl) ?_;simp only[R7.fill,t1_,t2_,t3_,t4_,t5_,t6_,t7_,f0,f1,f2,f3,f4,f5];clear hlt_g hlt_e f0 f1 f2 f3 f4 f5;replace HBg:=kB hb HBg;replace HBe:=kB hb HBe;replace HC:=h_ (HC.out.below hb);replace HF:=fb_ HF hb;clear hb;go_wp2_with (first | (at_delete;refine wp_drop _ rfl _ _ 74 9 rfl 55 Tryz.underlying9 Tryz.underlying74 bs (scV s1.sc) rfl HC.out.sm nm rfl (nm_ok HNM.out) ?_;intro wz hmz hgz) | fail)
 rw[<-scV_del] at hmz;replace HBg:=kG hgz HBg HGS.out;replace HBe:=kG hgz HBe;replace HF:=h_ (HF.out.trans (Fc.of_b hgz kg));replace HC:=h_ (HC.out.turn hgz hmz);clear hmz hgz;go_wp2_with fail
 go_ret
 have e:kLet rf nm ln cl (kExs F rf ks) s=(b1,⟨s1.sc.del nm,s1.er⟩):=by
  have e3:(if (sA.sc nm).isNone then (⟨sA.sc.put nm b0,sA.er⟩:Ks) else sA)=sB:=by rw[HSB.out];split<;>rfl
  unfold kLet;simp only[HKF0.out,HKF1.out,<-HBB0.out,<-HSS0.out,<-HSA.out];rw[e3];simp only[<-HSD.out];rw[HBB1.out,HSS1.out]
 rw[e];exact⟨rfl,⟨ev,HC.out⟩,HF.out⟩
theorem complete_s {w0 w:World} {kg bf bs:Nat} {Gv:Bs->Option Value} {s:Ks} {rf:Bool} {ev:Value} (h:Ck w0 w kg bf bs Gv s rf ev) (x:X) (u:U) (S:Nat->Prop) (hu:Um w0 S x u) (hb:Bnd u) (F:Fs) (hK:BaseOk F Gv rf w0 u) (n:Nat) (hd:Dom s.sc n) (hn:n+2*ud u<=1000000000000) (hA:ArT w0) :
  Calls Tryz.prog 25 #[.pointer (some ⟨kg,0,none⟩),xv x] w fun e w'=>e=.returned (iv (kEx F rf u s).1)/\CkP w0 w kg bf bs Gv ((kEx F rf u s).2) rf w':=by
 have HU:=h_ hu;have HBU:=h_ hb;have HKB:=h_ hK;have HD:=h_ hd;have HNN:=h_ hn;have HA:=h_ hA;obtain⟨xk,xnm,xot,xb,xao,xn,xq,xko,xkn,xkc,xln,xcl⟩:=x;clear hu hb hK hd hn hA;simp only[xv];have HC:=h_ h;have HBg:=h_ h.blk;have HF:Hid (Fc w w kg bs):=h_ (Fc.refl _ _ _);clear h;go_enter Tryz.func25,Tryz.ntmps25
 go_upto_region 1 with fail
 obtain⟨w1,ke,hw,hkk,hb,hs1,HBe⟩:=newb w #[.int .i64 xk,.string xnm,.string xot,.bool xb,.slice xao xn xq,.slice xko xkn xkc,.int .i64 xln,.int .i64 xcl] 48;have hge:=lk_ hkk HBg;have hse:bs<ke:=by rw[hkk];exact HC.out.sm.lt
 have hee:w.heap.size<=ke:=by rw[hkk];exact HF.out.size
 rw[hw,<-hkk];replace HBg:=kB hb HBg;replace HC:=h_ (HC.out.below hb);replace HF:=fb_ HF hb;clear hw hb hkk hs1;obtain⟨c0,c1,c2,c3,c4,c5,c6,c7⟩:=cl8 HBe.out;go_wp2_with fail
 refine (right_p (ud u) (by have:=HNN.out;omega) ⟨xk,xnm,xot,xb,xao,xn,xq,xko,xkn,xkc,xln,xcl⟩ u w1 S (HA.out.below HC.out.bw) (HU.out.below HC.out.bw) HBU.out (Nat.le_refl _)).mono ?_;rintro e w2 ⟨rfl,hb⟩;clear c0 c1 c2 c3 c4 c5 c6 c7;replace HBg:=kB hb HBg;replace HBe:=kB hb HBe;replace HC:=h_ (HC.out.below hb);replace HF:=fb_ HF hb;clear hb;obtain⟨c0,c1,c2,c3,c4,c5,c6,c7⟩:=cl8 HBe.out;go_wp2_with fail
 refine (HKB.out ⟨xk,xnm,xot,xb,xao,xn,xq,xko,xkn,xkc,xln,xcl⟩ S w2 kg bf bs s ev n HU.out HBU.out HC.out HD.out HNN.out).mono ?_;rintro e w3 ⟨rfl,⟨ev,hC⟩,hF⟩;clear c0 c1 c2 c3 c4 c5 c6 c7;replace HBe:=kF hF HBe;replace HF:=h_ (HF.out.trans hF);replace HC:=h_ hC;replace HBg:=h_ hC.blk;clear hC hF;go_wp2_with fail
 go_ret
 exact⟨rfl,⟨ev,HC.out⟩,HF.out⟩
end Go.Proofs.YtpclhpfcbjgokaaGreatDoor
namespace Go.Proofs.YtpclhpfcbjgokaaGreatDoor
open Go.RowKit Go.Maps Go.MapKept Go.ChangeMaps Go.WideShapes Go.WideMaps
open Go.WideElems (Fit rd rg pl rd_val rd_key rg_of elemAt)
set_option maxRecDepth 100000
set_option linter.unusedVariables false
theorem find_born {es:Array MapEntry} {j:Nat} {e0:MapEntry} (hj:es[j]?=some e0) (hn:(es.toList.map (·.born)).Nodup):es.findIdx? (fun e=>(e.born:Int)==(e0.born:Int))=some j:=by
 obtain⟨hl,he⟩:=Array.getElem?_eq_some_iff.1 hj;rw[Array.findIdx?_eq_some_iff_getElem];refine⟨hl,by rw[he];exact beq_self_eq_true _,fun i hi h=>?_⟩;have hb:es[i].born=e0.born:=by have:=beq_iff_eq.1 h;omega
 have hnd:=List.pairwise_iff_getElem.1 hn i j (by simp;omega) (by simpa using hl) hi;simp only[List.getElem_map,Array.getElem_toList] at hnd;exact hnd (by rw[hb,he])
theorem MapIs.entry {P:Program} {k:TypeId} {w:World} {b:Nat} {m:Bs->Option Value} {t e:TypeId} (h:MapIs P k w b m) (hk:P.underlying k=some .string) (ht:P.underlying t=some (.map k e)) {n:Nat} (hd:DomV m n) (hn:n<maxLen) {s:Bs} (hs:s.length<=maxLen) {z:Value} (hz:∀ w,(zeroValue e).run P w=.ok z w) :
  ∃ w1 v0 st,(Instr.mapEntry t (.map (some b)) (bsv s)).run P w=.ok (.tuple #[v0,.int .i64 st]) w1/\w.grownBy w1 (some b) /\
   ∀ (w2:World) (u:Value),w2.heap[b]?=w1.heap[b]? -> ∃ w3,(Instr.entryStore t (.map (some b)) (.int .i64 st) u).run P w2=.ok () w3/\MapIs P k w3 b (fun x=>if x=s then some u else m x)/\w2.grownBy w3 (some b):=by
 have hup:=fun u=>h.update hk ht hd hn hs u
 obtain⟨n',D,⟨es,clock,hb,F,hsz,hD⟩,h3⟩:=h;have K:=string_keyed hk;have hkey:=key_bs hk hs;have hgr:∀ (w2:World) (o:Obj),w2.grownBy (setBlock w2 b o) (some b):=fun w2 o=>⟨rfl,rfl,rfl,by simp[setBlock],fun i _ hi=>by simp only[setBlock];rw[Array.getElem?_setIfInBounds_ne (fun e=>hi (by rw[e]))]⟩
 rcases K.find w hkey es.toList F.keys with ⟨h1,h2⟩ | ⟨j,e0,h1,h2,h4⟩
 ·refine⟨setBlock w b (.map (es.push ⟨bsv s,z,clock⟩) (clock+1)),z,clock,?_,hgr _ _,fun w2 u hw2=>?_⟩
  ·simp[Instr.mapEntry,run_underlying ht,MapKept.run_getObj_map hb,K.check w false hkey,h1,hz,MapKept.run_setObj_map _ hb,Result.andThen,setBlock,goInt]
  have hb2:w2.heap[b]?=some (.map (es.push ⟨bsv s,z,clock⟩) (clock+1)):=hw2.trans (heap_setBlock_same hb _);obtain⟨w',hrun,hM,-⟩:=hup u
  have e1:(Instr.mapUpdate t (.map (some b)) (bsv s) u).run P w=.ok () (setBlock w b (.map (es.push ⟨bsv s,u,clock⟩) (clock+1))):=by
   simp[Instr.mapUpdate,run_underlying ht,MapKept.run_getObj_map hb,K.check w false hkey,h1,MapKept.run_setObj_map _ hb,Result.andThen,setBlock]
  rw[e1] at hrun;injection hrun with _ hrun
  have hf:(es.push ⟨bsv s,z,clock⟩).findIdx? (fun e=>(e.born:Int)==(clock:Int))=some es.size:=
   find_born (e0:=⟨bsv s,z,clock⟩) (by simp) (stamped_push F.stamped h2).2.1
  have hm2:(es.push ⟨bsv s,z,clock⟩).modify es.size (fun e=>{ e with val:=u })=es.push ⟨bsv s,u,clock⟩:=by
   apply Array.ext_getElem?
   intro i;rw[Array.getElem?_modify,Array.getElem?_push,Array.getElem?_push]
   by_cases hi:i=es.size
   ·subst hi;simp
   simp[hi,show ¬ es.size=i from fun e=>hi e.symm]
  refine⟨setBlock w2 b (.map (es.push ⟨bsv s,u,clock⟩) (clock+1)),?_,hM.keep ((heap_setBlock_same hb2 _).trans (by rw[<-hrun];exact (heap_setBlock_same hb _).symm)),hgr _ _⟩
  simp[Instr.entryStore,MapKept.run_getObj_map hb2,asInt,asIntOf,hf,hm2,MapKept.run_setObj_map _ hb2,Result.andThen,setBlock]
 have hj:es[j]?=some e0:=by simpa using h2
 refine⟨setBlock w b (.map (es.modify j (fun e'=>{ e' with key:=bsv s })) clock),e0.val,e0.born,?_,hgr _ _,fun w2 u hw2=>?_⟩
 ·simp[Instr.mapEntry,run_underlying ht,MapKept.run_getObj_map hb,K.check w false hkey,h1,hj,h4,K.stays w hkey,MapKept.run_setObj_map _ hb,Result.andThen,setBlock,goInt]
 have hb2:w2.heap[b]?=some (.map (es.modify j (fun e'=>{ e' with key:=bsv s })) clock):=hw2.trans (heap_setBlock_same hb _);obtain⟨w',hrun,hM,-⟩:=hup u
 have e1:(Instr.mapUpdate t (.map (some b)) (bsv s) u).run P w=.ok () (setBlock w b (.map (es.modify j (fun e'=>{ e' with key:=bsv s,val:=u })) clock)):=by
  simp[Instr.mapUpdate,run_underlying ht,MapKept.run_getObj_map hb,K.check w false hkey,h1,hj,h4,K.stays w hkey,MapKept.run_setObj_map _ hb,Result.andThen,setBlock]
 rw[e1] at hrun;injection hrun with _ hrun;have hkeyf:∀ e',es[j]?=some e'->({ e' with key:=bsv s }:MapEntry).key=e'.key:=fun e' he'=>by rw[hj] at he';cases he';exact h4.symm
 have hf:(es.modify j (fun e'=>{ e' with key:=bsv s })).findIdx? (fun e=>(e.born:Int)==(e0.born:Int))=some j:=
  find_born (e0:={ e0 with key:=bsv s }) (by rw[Array.getElem?_modify,if_pos rfl,hj];rfl) (stamped_modify F.stamped j (fun e'=>{ e' with key:=bsv s }) (fun _ _=>rfl) (fun e' _ he'=>hkeyf e' he')).2.1
 have hm2:(es.modify j (fun e'=>{ e' with key:=bsv s })).modify j (fun e=>{ e with val:=u })=es.modify j (fun e'=>{ e' with key:=bsv s,val:=u }):=by
  apply Array.ext_getElem?
  intro i;rw[Array.getElem?_modify,Array.getElem?_modify,Array.getElem?_modify]
  by_cases hi:j=i
  ·rw[if_pos hi,if_pos hi,if_pos hi];cases es[i]?<;>rfl
  rw[if_neg hi,if_neg hi,if_neg hi]
 refine⟨setBlock w2 b (.map (es.modify j (fun e'=>{ e' with key:=bsv s,val:=u })) clock),?_,hM.keep ((heap_setBlock_same hb2 _).trans (by rw[<-hrun];exact (heap_setBlock_same hb _).symm)),hgr _ _⟩
 simp[Instr.entryStore,MapKept.run_getObj_map hb2,asInt,asIntOf,hf,hm2,MapKept.run_setObj_map _ hb2,Result.andThen,setBlock]
end Go.Proofs.YtpclhpfcbjgokaaGreatDoor
namespace Go.Proofs.YtpclhpfcbjgokaaGreatDoor
open Go.RowKit
set_option maxRecDepth 100000
set_option linter.unusedVariables false
namespace Rel11
open R7
section
variable {P:Program} {ops:List Oper} {D:List (List Nat)} {m:Nat} {t0:Array Value} {ds:List Deferred} {Q:Exit->Act->World->Prop}
structure InT (ops:List Oper) (D:List (List Nat)) (t0:Array Value) (val:Nat->Value) (j:Nat) (T:Array Value):Prop where
 tm:∀ i d,(dep D j).contains i=true->dstOf ops i=some d->T[d]?=some (val i)
 pre:∀ t,R7.pre ops D j t=true->T[t]?=t0[t]?
def chainOk (D:List (List Nat)) (cs:List Nat) (m:Nat):Bool:=(List.range cs.length).all fun b=>decide (cs.getD b 0<m) && (List.range b).all fun a=>(dep D (cs.getD b 0)).contains (cs.getD a 0)
theorem chain_at {D:List (List Nat)} {cs:List Nat} {m:Nat} (h:chainOk D cs m=true) {b c:Nat} (hb:cs[b]?=some c):c<m/\∀ a e,a<b->cs[a]?=some e->(dep D c).contains e=true:=by
 have hl:=(List.getElem?_eq_some_iff.1 hb).1;unfold chainOk at h;have h1:=List.all_eq_true.1 h b (List.mem_range.2 hl);rw[Bool.and_eq_true,decide_eq_true_eq] at h1;have e1:cs.getD b 0=c:=by rw[List.getD_eq_getElem?_getD,hb];rfl
 rw[e1] at h1;refine⟨h1.1,fun a e ha he=>?_⟩;have h2:=List.all_eq_true.1 h1.2 a (List.mem_range.2 ha)
 rwa [show cs.getD a 0=e by rw[List.getD_eq_getElem?_getD,he];rfl] at h2
def J (ops:List Oper) (t0:Array Value) (m:Nat) (cs:List Nat) (val:Nat->Value) (Wd:Nat->World->Prop) (d:Nat->Bool) (T:Array Value) (wc:World):Prop:=
 ((∀ j t,d j=true->dstOf ops j=some t->T[t]?=some (val j))/\(∀ t,(∀ j,d j=true->dstOf ops j≠some t)->T[t]?=t0[t]?)/\T.size=t0.size)/\(∀ j,d j=true->j<m)/\∃ s,(∀ i c,cs[i]?=some c->(d c=true ↔ i<s))/\s<=cs.length/\Wd s wc
theorem dst_uniq {size:Nat} (hok:ok ops D m size=true) {i j t:Nat} (hi:dstOf ops i=some t) (hj:dstOf ops j=some t):i=j:=by
 have key:∀ {i j:Nat},i<j->dstOf ops i=some t->dstOf ops j=some t->False:=by
  intro i j hlt hi hj;unfold dstOf at hj
  cases ho:ops[j]? with
  | none=>rw[ho] at hj;cases hj
  | some o =>
   rw[ho] at hj;exact ((ok_at hok ho).2.2.2 t hj).2 i hlt hi
 rcases Nat.lt_trichotomy i j with h | h | h
 ·exact (key h hi hj).elim
 ·exact h
 exact (key h hj hi).elim
theorem slots_put {size:Nat} (hok:ok ops D m size=true) (hsz:t0.size=size) {val:Nat->Value} {d:Nat->Bool} {T:Array Value} {i:Nat} {o:Oper} (ho:ops[i]?=some o) (hdi:d i=false)
  (h:(∀ j t,d j=true->dstOf ops j=some t->T[t]?=some (val j))/\(∀ t,(∀ j,d j=true->dstOf ops j≠some t)->T[t]?=t0[t]?)/\T.size=t0.size) :
  ∃ T',((⟨T,ds⟩:Act).put o.dst (val i))=⟨T',ds⟩/\(∀ j t,Rel9.upd d i j=true->dstOf ops j=some t->T'[t]?=some (val j))/\(∀ t,(∀ j,Rel9.upd d i j=true->dstOf ops j≠some t)->T'[t]?=t0[t]?)/\T'.size=t0.size:=by
 obtain⟨h1,h2,h3⟩:=h;have hu:∀ j,Rel9.upd d i j=true ↔ j=i\/d j=true:=fun j=>by unfold Rel9.upd;simp
 cases hd:o.dst with
 | none =>
  have hn:∀ t,dstOf ops i≠some t:=fun t=>by unfold dstOf;rw[ho];simp[hd]
  refine⟨T,rfl,fun j t hj ht=>?_,fun t ht=>h2 t fun j hj=>ht j ((hu j).2 (.inr hj)),h3⟩;rcases (hu j).1 hj with rfl | hj
  ·exact absurd ht (hn t)
  exact h1 j t hj ht
 | some q =>
  have hiq:dstOf ops i=some q:=by unfold dstOf;rw[ho];exact hd
  have hlt:q<T.size:=by rw[h3,hsz];exact ((ok_at hok ho).2.2.2 q hd).1
  refine⟨T.setIfInBounds q (val i),rfl,fun j t hj ht=>?_,fun t ht=>?_,by simpa using h3⟩
  ·by_cases e:j=i
   ·subst e;rw[hiq] at ht;injection ht with ht;subst ht
    simp[hlt]
   rcases (hu j).1 hj with h | hj
   ·exact absurd h e
   have hne:q≠t:=fun x=>e (dst_uniq hok ht (x ▸ hiq))
   rw[Array.getElem?_setIfInBounds_ne hne];exact h1 j t hj ht
  have hne:q≠t:=fun x=>ht i ((hu i).2 (.inl rfl)) (x ▸ hiq)
  rw[Array.getElem?_setIfInBounds_ne hne];exact h2 t fun j hj=>ht j ((hu j).2 (.inr hj))
theorem region {id:Nat} {w:World} (hm:P.follows .mixedOrders=true) (D:List (List Nat)) (m:Nat) (hok:ok ops D m t0.size=true) (hin:inOrder ops m=true) (cs:List Nat) (hcs:chainOk D cs m=true) (val:Nat->Value) (Wd:Nat->World->Prop) (h0:Wd 0 w.drew)
  (hq:∀ j o,ops[j]?=some o->j<m->cs.contains j=false->o.guard=none/\∀ s wc T,Wd s wc->InT ops D t0 val j T->∀ K:Act->World->Prop,Hid (K ((⟨T,ds⟩:Act).put o.dst (val j)) wc)->o.wp P ⟨T,ds⟩ wc K Q)
  (hc:∀ i j o,cs[i]?=some j->ops[j]?=some o->o.guard=none/\∀ wc T,Wd i wc->InT ops D t0 val j T->∀ K:Act->World->Prop,Hid (∀ w',Wd (i+1) w'->K ((⟨T,ds⟩:Act).put o.dst (val j)) w')->o.wp P ⟨T,ds⟩ wc K Q)
  (hrest:∀ w',Wd cs.length w'->wpList P ops.toArray Q (ops.drop m) ⟨R7.fill (ops.take m) val 0 t0,ds⟩ w'):(Code.region id ops.toArray true).wp P Q ⟨t0,ds⟩ w:=by
 have hml:=ok_len hok;refine Rel9.region hm D m hok hin (J ops t0 m cs val Wd) ?_ ?_ ?_
 ·exact⟨⟨fun j t h=>Bool.noConfusion h,fun t _=>rfl,rfl⟩,(fun j h=>Bool.noConfusion h),0,(fun i c _=>⟨fun h=>Bool.noConfusion h,fun h=>absurd h (Nat.not_lt_zero _)⟩),Nat.zero_le _,h0⟩
 ·rintro d T wc i o ⟨hS,hlt,s,hst,hsl,hW⟩ ho hi hdi hdep hcl
  have hT:InT ops D t0 val i T:=by
   refine⟨fun j t hj ht=>hS.1 j t (hdep j hj) ht,fun t ht=>hS.2.1 t fun j hj hjt=>?_⟩
   have hjl:j<ops.length:=by
    unfold dstOf at hjt
    cases hx:ops[j]? with
    | none=>rw[hx] at hjt;cases hjt
    | some o'=>exact (List.getElem?_eq_some_iff.1 hx).1
   unfold R7.pre at ht;have:=List.all_eq_true.1 ht j (List.mem_range.2 hjl);simp only[Bool.or_eq_true,bne_iff_ne,beq_iff_eq] at this;rcases this with (h | h) | h
   ·exact h hjt
   ·rw[h,hdi] at hj;cases hj
   have:=hcl j i hj h;rw[hdi] at this;cases this
  obtain⟨T',hT',hS'⟩:=slots_put (ds:=ds) hok rfl ho hdi hS (val:=val)
  have hlt':∀ j,Rel9.upd d i j=true->j<m:=fun j hj=>by
   unfold Rel9.upd at hj;rw[Bool.or_eq_true,decide_eq_true_eq] at hj;rcases hj with rfl | hj
   ·exact hi
   exact hlt j hj
  cases hcc:cs.contains i with
  | false =>
   obtain⟨hg,hw⟩:=hq i o ho hi hcc;refine⟨hg,fun K hK=>hw s wc T hW hT K (h_ ?_)⟩;rw[hT'];refine hK.out T' wc ⟨hS',hlt',s,fun j c hjc=>?_,hsl,hW⟩
   have hne:c≠i:=fun e=>by
    subst e;rw[List.contains_iff_mem.2 (List.mem_of_getElem? hjc)] at hcc;cases hcc
   rw[<-hst j c hjc];unfold Rel9.upd
   simp[hne]
  | true =>
   obtain⟨a,ha⟩:=List.getElem?_of_mem (List.contains_iff_mem.1 hcc);have hal:=(List.getElem?_eq_some_iff.1 ha).1;have hA:=chain_at hcs ha;have h1:¬ a<s:=fun h=>by rw[(hst a i ha).2 h] at hdi;cases hdi
   have hsa:s=a:=by
    rcases Nat.lt_or_ge s a with h | h
    ·have hs:cs[s]?=some cs[s]:=List.getElem?_eq_getElem (by omega);have:=hdep _ (hA.2 s _ h hs);exact absurd ((hst s _ hs).1 this) (Nat.lt_irrefl _)
    omega
   subst hsa;obtain⟨hg,hw⟩:=hc s i o ha ho;refine⟨hg,fun K hK=>hw wc T hW hT K (h_ fun w' hw'=>?_)⟩;rw[hT'];refine hK.out T' w' ⟨hS',hlt',s+1,fun j c hjc=>?_,by omega,hw'⟩;have hu:Rel9.upd d i c=true ↔ c=i\/d c=true:=by unfold Rel9.upd;simp
   rw[hu,hst j c hjc]
   constructor
   ·rintro (rfl | h)
    ·rcases Nat.lt_trichotomy j s with h | h | h
     ·omega
     ·omega
     have:=(chain_at hcs hjc).2 s c h ha;exact absurd ((ok_at hok ho).2.1 c this).2.2 (Nat.lt_irrefl _)
    omega
   intro h;rcases Nat.lt_or_ge j s with h' | h'
   ·exact .inr h'
   have:j=s:=by omega
   subst this;rw[ha] at hjc;injection hjc with hjc;exact .inl hjc.symm
 rintro T wc ⟨⟨h1,h2,h3⟩,hlt,s,hst,hsl,hW⟩
 have hs:s=cs.length:=by
  rcases Nat.lt_or_ge s cs.length with h | h
  ·have hx:cs[s]?=some cs[s]:=List.getElem?_eq_getElem h;have:=(chain_at hcs hx).1;exact absurd ((hst s _ hx).1 (by simpa using this)) (Nat.lt_irrefl _)
  omega
 subst hs
 have hT:R7.fill (ops.take m) val 0 t0=T:=by
  have hd:∀ j t,dstOf (ops.take m) j=some t ↔ (j<m/\dstOf ops j=some t):=fun j t=>by
   unfold dstOf
   by_cases hj:j<m
   ·rw[List.getElem?_take_of_lt hj];simp[hj]
   rw[List.getElem?_eq_none (by rw[List.length_take];omega)];simp[hj]
  refine R7.fill_eq _ val 0 t0 T h3 (fun j t h=>?_) (fun t h=>h2 t fun j hj hjt=>h j ((hd j t).2 ⟨by simpa using hj,hjt⟩));obtain⟨hj,ht⟩:=(hd j t).1 h;rw[Nat.zero_add];exact h1 j t (by simpa using hj) ht
 rw[<-hT];exact hrest wc hW
end
end Rel11
end Go.Proofs.YtpclhpfcbjgokaaGreatDoor
