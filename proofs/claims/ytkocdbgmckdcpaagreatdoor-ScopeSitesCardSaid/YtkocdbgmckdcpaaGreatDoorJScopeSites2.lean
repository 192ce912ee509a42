/-
 Joined texts: LxB,LxC,LxD,PsA,PsB,PsC,PsD,PsF.
-/
import Derived.Laws.Rows
import Derived.Deep.RegionHeld3
import Derived.Deep.DrawnRows
import Derived.Deep.AppendLies
import Derived.OwnWalk
import Derived.Laws.OwnMore
import Derived.StillTailTactics
import Derived.Deep.MidRow
import Derived.Test.YtkocdbgmckdcpaaGreatDoorJScopeSites1
set_option maxHeartbeats 32000000
namespace Go.Proofs.YtkocdbgmckdcpaaGreatDoor
open Go.RowKit
set_option maxRecDepth 100000
def pl (l:Bs) (b:UInt8) (n:Nat):Nat:=if l[1]?=some b then 2 else n
theorem pair_any (l:Bs) (b:UInt8) (n:Nat) (bi ni:Int) (hb:bi=(b.toNat:Int)) (hn:ni=(n:Int)) (hl:l.length<=1000000000) (w:World) :
  Calls Tryz.prog 145 #[.string ⟨l.toArray⟩,.int .u8 bi,.int .i64 ni] w fun e w'=>e=.returned (.int .i64 (pl l b n:Nat))/\w'=w:=by
 have hsz:(⟨l.toArray⟩:ByteArray).size=l.length:=rfl;subst hb hn
 by_cases h1:1<l.length
 ·by_cases h2:(l[1]'h1)=b
  ·have H:=Lib.hid (show pl l b n=2 by unfold pl;rw[List.getElem?_eq_getElem h1,h2,if_pos rfl]);have h3:(((((⟨l.toArray⟩:ByteArray)[1]'h1).toNat:Int))==(b.toNat:Int))=true:=byte_yes (c:=(⟨l.toArray⟩:ByteArray)[1]'h1) b h2;clear h2;go_enter Tryz.func145,Tryz.ntmps145
   go_wp2
   go_ret
   exact⟨ret_i64 (by rw[H.out];rfl),rfl⟩
  have H:=Lib.hid (show pl l b n=n by unfold pl;rw[List.getElem?_eq_getElem h1,if_neg (fun e=>h2 (by injection e))]);have h3:(((((⟨l.toArray⟩:ByteArray)[1]'h1).toNat:Int))==(b.toNat:Int))=false:=byte_no (c:=(⟨l.toArray⟩:ByteArray)[1]'h1) b h2;clear h2;go_enter Tryz.func145,Tryz.ntmps145
  go_wp2
  go_ret
  exact⟨ret_i64 (by rw[H.out]),rfl⟩
 have H:=Lib.hid (show pl l b n=n by unfold pl;rw[List.getElem?_eq_none (by omega)];rfl);have h1':l.length<=1:=by omega
 clear h1;go_enter Tryz.func145,Tryz.ntmps145
 go_wp2
 go_ret
 exact⟨ret_i64 (by rw[H.out]),rfl⟩

theorem of_is {a:UInt8} (x:UInt8) (h:((a.toNat:Int)==(x.toNat:Int))=true):a=x:=by rw[byte_is] at h;simpa using h
theorem sgn_alone {a:UInt8} (r:Bs) (h:((a.toNat:Int)==40)=true\/((a.toNat:Int)==41)=true\/((a.toNat:Int)==123)=true\/((a.toNat:Int)==125)=true\/((a.toNat:Int)==44)=true\/((a.toNat:Int)==59)=true\/((a.toNat:Int)==61)=true\/((a.toNat:Int)==43)=true\/((a.toNat:Int)==42)=true\/((a.toNat:Int)==47)=true\/((a.toNat:Int)==37)=true):sgn (a::r)=1:=by
 have h':a=40\/a=41\/a=123\/a=125\/a=44\/a=59\/a=61\/a=43\/a=42\/a=47\/a=37:=by
  rcases h with h | h | h | h | h | h | h | h | h | h | h
  ·exact .inl (of_is 40 h)
  ·exact .inr (.inl (of_is 41 h))
  ·exact .inr (.inr (.inl (of_is 123 h)))
  ·exact .inr (.inr (.inr (.inl (of_is 125 h))))
  ·exact .inr (.inr (.inr (.inr (.inl (of_is 44 h)))))
  ·exact .inr (.inr (.inr (.inr (.inr (.inl (of_is 59 h))))))
  ·exact .inr (.inr (.inr (.inr (.inr (.inr (.inl (of_is 61 h)))))))
  ·exact .inr (.inr (.inr (.inr (.inr (.inr (.inr (.inl (of_is 43 h))))))))
  ·exact .inr (.inr (.inr (.inr (.inr (.inr (.inr (.inr (.inl (of_is 42 h)))))))))
  ·exact .inr (.inr (.inr (.inr (.inr (.inr (.inr (.inr (.inr (.inl (of_is 47 h))))))))))
  exact .inr (.inr (.inr (.inr (.inr (.inr (.inr (.inr (.inr (.inr ((of_is 37 h)))))))))))
 rcases h' with rfl | rfl | rfl | rfl | rfl | rfl | rfl | rfl | rfl | rfl | rfl<;>cases r<;>simp[sgn,pairB,sglB]
theorem sgn_none {a:UInt8} (r:Bs) (h:((a.toNat:Int)==91)=false/\((a.toNat:Int)==38)=false/\((a.toNat:Int)==58)=false/\((a.toNat:Int)==124)=false/\((a.toNat:Int)==45)=false/\((a.toNat:Int)==60)=false/\((a.toNat:Int)==62)=false/\((a.toNat:Int)==40)=false/\((a.toNat:Int)==41)=false/\((a.toNat:Int)==123)=false/\((a.toNat:Int)==125)=false/\((a.toNat:Int)==44)=false/\((a.toNat:Int)==59)=false/\((a.toNat:Int)==61)=false/\((a.toNat:Int)==43)=false/\((a.toNat:Int)==42)=false/\((a.toNat:Int)==47)=false/\((a.toNat:Int)==37)=false):sgn (a::r)=0:=by
 have hx:∀ x:UInt8,((a.toNat:Int)==(x.toNat:Int))=false->(a==x)=false:=fun x h=>by rwa [byte_is] at h
 obtain⟨h91,h38,h58,h124,h45,h60,h62,h40,h41,h123,h125,h44,h59,h61,h43,h42,h47,h37⟩:=h;replace h91:=hx 91 h91;replace h38:=hx 38 h38;replace h58:=hx 58 h58;replace h124:=hx 124 h124;replace h45:=hx 45 h45;replace h60:=hx 60 h60;replace h62:=hx 62 h62;replace h40:=hx 40 h40;replace h41:=hx 41 h41;replace h123:=hx 123 h123;replace h125:=hx 125 h125;replace h44:=hx 44 h44;replace h59:=hx 59 h59;replace h61:=hx 61 h61;replace h43:=hx 43 h43;replace h42:=hx 42 h42;replace h47:=hx 47 h47;replace h37:=hx 37 h37
 cases r<;>simp only[sgn,pairB,sglB,h91,h38,h58,h124,h45,h60,h62,h40,h41,h123,h125,h44,h59,h61,h43,h42,h47,h37]<;>simp
theorem sgn_p91 (r:Bs):pl (91::r) 93 0=sgn (91::r):=by
 cases r with
 | nil=>rfl
 | cons b r=>simp only[pl,sgn,pairB,sglB,gsc,gsz,Option.some.injEq];by_cases h:b=93<;>simp[h]
theorem sgn_p38 (r:Bs):pl (38::r) 38 0=sgn (38::r):=by
 cases r with
 | nil=>rfl
 | cons b r=>simp only[pl,sgn,pairB,sglB,gsc,gsz,Option.some.injEq];by_cases h:b=38<;>simp[h]
theorem sgn_p58 (r:Bs):pl (58::r) 58 1=sgn (58::r):=by
 cases r with
 | nil=>rfl
 | cons b r=>simp only[pl,sgn,pairB,sglB,gsc,gsz,Option.some.injEq];by_cases h:b=58<;>simp[h]
theorem sgn_p124 (r:Bs):pl (124::r) 124 1=sgn (124::r):=by
 cases r with
 | nil=>rfl
 | cons b r=>simp only[pl,sgn,pairB,sglB,gsc,gsz,Option.some.injEq];by_cases h:b=124<;>simp[h]
theorem sgn_p45 (r:Bs):pl (45::r) 62 1=sgn (45::r):=by
 cases r with
 | nil=>rfl
 | cons b r=>simp only[pl,sgn,pairB,sglB,gsc,gsz,Option.some.injEq];by_cases h:b=62<;>simp[h]
theorem sgn_p62 (r:Bs):pl (62::r) 61 1=sgn (62::r):=by
 cases r with
 | nil=>rfl
 | cons b r=>simp only[pl,sgn,pairB,sglB,gsc,gsz,Option.some.injEq];by_cases h:b=61<;>simp[h]
theorem sgn_p60 (r:Bs):sgn (60::r)=if Lib.hasPrefix (60::r) [60,62] then 2 else pl (60::r) 61 1:=by
 cases r with
 | nil=>rfl
 | cons b r =>
  simp only[pl,sgn,pairB,sglB,gsc,gsz,Option.some.injEq,Lib.hasPrefix,List.isPrefixOf]
  by_cases h:b=62
  ·simp[h]
  have h':¬ 62=b:=fun e=>h e.symm
  by_cases h2:b=61<;>simp[h,h',h2]
theorem sign_any (a:UInt8) (r:Bs) (hl:(a::r).length<=1000000000) (w:World) :
  Calls Tryz.prog 122 #[.string ⟨(a::r).toArray⟩] w fun e w'=>e=.returned (.int .i64 (sgn (a::r):Nat))/\w'=w:=by
 obtain⟨l,hL⟩:∃ l,l=a::r:=⟨_,rfl⟩
 rw[<-hL] at hl ⊢;have hp:0<l.length:=by rw[hL];simp
 have hsz:(⟨l.toArray⟩:ByteArray).size=l.length:=rfl;have h0:(⟨l.toArray⟩:ByteArray)[0]'hp=a:=by subst hL;rfl
 have HL:=Lib.hid hL;clear hL;go_enter Tryz.func122,Tryz.ntmps122
 go_wp2_with fail
 ·have e:a=91:=of_is 91 (by assumption);have HS:=Lib.hid (sgn_p91 r);refine (pair_any l 93 0 _ _ rfl rfl hl w).mono ?_;rintro e w' ⟨rfl,rfl⟩
  go_wp2
  go_ret
  exact⟨ret_i64 (by rw[HL.out,e];exact congrArg Nat.cast HS.out),rfl⟩
 ·have e:a=38:=of_is 38 (by assumption);have HS:=Lib.hid (sgn_p38 r);refine (pair_any l 38 0 _ _ rfl rfl hl w).mono ?_;rintro e w' ⟨rfl,rfl⟩
  go_wp2
  go_ret
  exact⟨ret_i64 (by rw[HL.out,e];exact congrArg Nat.cast HS.out),rfl⟩
 ·have e:a=58:=of_is 58 (by assumption);have HS:=Lib.hid (sgn_p58 r);refine (pair_any l 58 1 _ _ (by rw[e]) rfl hl w).mono ?_;rintro e w' ⟨rfl,rfl⟩
  go_wp2
  go_ret
  exact⟨ret_i64 (by rw[HL.out,e];exact congrArg Nat.cast HS.out),rfl⟩
 ·have e:a=124:=of_is 124 (by assumption);have HS:=Lib.hid (sgn_p124 r);refine (pair_any l 124 1 _ _ (by rw[e]) rfl hl w).mono ?_;rintro e w' ⟨rfl,rfl⟩
  go_wp2
  go_ret
  exact⟨ret_i64 (by rw[HL.out,e];exact congrArg Nat.cast HS.out),rfl⟩
 ·have e:a=45:=of_is 45 (by assumption);have HS:=Lib.hid (sgn_p45 r);refine (pair_any l 62 1 _ _ rfl rfl hl w).mono ?_;rintro e w' ⟨rfl,rfl⟩
  go_wp2
  go_ret
  exact⟨ret_i64 (by rw[HL.out,e];exact congrArg Nat.cast HS.out),rfl⟩
 ·have e:a=60:=of_is 60 (by assumption);have HS:=Lib.hid (sgn_p60 r);have HE:=Lib.hid e;clear e;refine (Tryz.strings_HasPrefix ⟨l.toArray⟩ ⟨#[60,62]⟩ w).mono ?_;rintro e w' ⟨rfl,rfl⟩;obtain⟨B,hB⟩:∃ B,B=Lib.hasPrefix (⟨l.toArray⟩:ByteArray).data.toList (⟨#[60,62]⟩:ByteArray).data.toList:=⟨_,rfl⟩
  rw[<-hB];have HB:=Lib.hid hB;clear hB
  cases B
  ·go_wp2_with fail
   refine (pair_any l 61 1 _ _ rfl rfl hl _).mono ?_;rintro e w' ⟨rfl,rfl⟩
   go_wp2
   go_ret
   exact⟨ret_i64 (by rw[HL.out,HE.out,HS.out,if_neg (by have:=HB.out;rw[HL.out,HE.out] at this;exact fun h=>Bool.noConfusion (h.symm.trans this.symm))]),rfl⟩
  go_wp2
  go_ret
  exact⟨ret_i64 (by rw[HL.out,HE.out,HS.out,if_pos (by have:=HB.out;rw[HL.out,HE.out] at this;exact this.symm)];rfl),rfl⟩
 ·have e:a=62:=of_is 62 (by assumption);have HS:=Lib.hid (sgn_p62 r);refine (pair_any l 61 1 _ _ rfl rfl hl w).mono ?_;rintro e w' ⟨rfl,rfl⟩
  go_wp2
  go_ret
  exact⟨ret_i64 (by rw[HL.out,e];exact congrArg Nat.cast HS.out),rfl⟩
 all_goals
  go_ret
  refine⟨ret_i64 ?_,rfl⟩;rw[HL.out]
  first
   | (rw[sgn_alone r (by simp only[*,true_or,or_true])];rfl)
   | (rw[sgn_none r ⟨by assumption,by assumption,by assumption,by assumption,by assumption,by assumption,by assumption,by assumption,by assumption,by assumption,by assumption,by assumption,by assumption,by assumption,by assumption,by assumption,by assumption,by assumption⟩];rfl)
theorem isW_mem {w:Bs} (h:w ∈ wds):isW w=true:=List.elem_eq_true_of_mem h
theorem isW_yes {l:Bs} (w:Bs) (hw:isW w=true) (h:(l==w)=true):isW l=true:=by
 rw[beq_iff_eq] at h;rw[h];exact hw
theorem isW_no {l:Bs} (h:(l==[102,117,110])=false/\(l==[113,117,97,108,105,102])=false/\(l==[108,101,116])=false/\(l==[105,110])=false/\(l==[105,102])=false/\(l==[116,104,101,110])=false/\(l==[101,108,115,101])=false/\(l==[109,97,116,99,104])=false/\(l==[119,105,116,104])=false/\(l==[97,115,115,101,114,116])=false/\(l==[110,111,116])=false/\(l==[116,114,117,101])=false/\(l==[102,97,108,115,101])=false/\(l==[105,110,116])=false/\(l==[98,111,111,108])=false/\(l==[108,105,115,116])=false/\(l==[108,101,110])=false/\(l==[104,100])=false/\(l==[116,108])=false/\(l==[118])=false):isW l=false:=by
 obtain⟨h0,h1,h2,h3,h4,h5,h6,h7,h8,h9,h10,h11,h12,h13,h14,h15,h16,h17,h18,h19⟩:=h;simp only[isW,wds,List.contains_cons,List.contains_nil,h0,h1,h2,h3,h4,h5,h6,h7,h8,h9,h10,h11,h12,h13,h14,h15,h16,h17,h18,h19];rfl
theorem isWord_any (l:Bs) (w:World) :
  Calls Tryz.prog 144 #[.string ⟨l.toArray⟩] w fun e w'=>e=.returned (.bool (isW l))/\w'=w:=by
 go_enter Tryz.func144,Tryz.ntmps144
 go_wp2_with fail
 all_goals first
  | exact absurd (Eq.trans (Eq.symm (show (l==[102,117,110])=true by assumption)) (show (l==[102,117,110])=false by assumption)) (by decide)
  | exact absurd (Eq.trans (Eq.symm (show (l==[113,117,97,108,105,102])=true by assumption)) (show (l==[113,117,97,108,105,102])=false by assumption)) (by decide)
  | exact absurd (Eq.trans (Eq.symm (show (l==[108,101,116])=true by assumption)) (show (l==[108,101,116])=false by assumption)) (by decide)
  | exact absurd (Eq.trans (Eq.symm (show (l==[105,110])=true by assumption)) (show (l==[105,110])=false by assumption)) (by decide)
  | exact absurd (Eq.trans (Eq.symm (show (l==[105,102])=true by assumption)) (show (l==[105,102])=false by assumption)) (by decide)
  | exact absurd (Eq.trans (Eq.symm (show (l==[116,104,101,110])=true by assumption)) (show (l==[116,104,101,110])=false by assumption)) (by decide)
  | exact absurd (Eq.trans (Eq.symm (show (l==[101,108,115,101])=true by assumption)) (show (l==[101,108,115,101])=false by assumption)) (by decide)
  | exact absurd (Eq.trans (Eq.symm (show (l==[109,97,116,99,104])=true by assumption)) (show (l==[109,97,116,99,104])=false by assumption)) (by decide)
  | exact absurd (Eq.trans (Eq.symm (show (l==[119,105,116,104])=true by assumption)) (show (l==[119,105,116,104])=false by assumption)) (by decide)
  | exact absurd (Eq.trans (Eq.symm (show (l==[97,115,115,101,114,116])=true by assumption)) (show (l==[97,115,115,101,114,116])=false by assumption)) (by decide)
  | exact absurd (Eq.trans (Eq.symm (show (l==[110,111,116])=true by assumption)) (show (l==[110,111,116])=false by assumption)) (by decide)
  | exact absurd (Eq.trans (Eq.symm (show (l==[116,114,117,101])=true by assumption)) (show (l==[116,114,117,101])=false by assumption)) (by decide)
  | exact absurd (Eq.trans (Eq.symm (show (l==[102,97,108,115,101])=true by assumption)) (show (l==[102,97,108,115,101])=false by assumption)) (by decide)
  | exact absurd (Eq.trans (Eq.symm (show (l==[105,110,116])=true by assumption)) (show (l==[105,110,116])=false by assumption)) (by decide)
  | exact absurd (Eq.trans (Eq.symm (show (l==[98,111,111,108])=true by assumption)) (show (l==[98,111,111,108])=false by assumption)) (by decide)
  | exact absurd (Eq.trans (Eq.symm (show (l==[108,105,115,116])=true by assumption)) (show (l==[108,105,115,116])=false by assumption)) (by decide)
  | exact absurd (Eq.trans (Eq.symm (show (l==[108,101,110])=true by assumption)) (show (l==[108,101,110])=false by assumption)) (by decide)
  | exact absurd (Eq.trans (Eq.symm (show (l==[104,100])=true by assumption)) (show (l==[104,100])=false by assumption)) (by decide)
  | exact absurd (Eq.trans (Eq.symm (show (l==[116,108])=true by assumption)) (show (l==[116,108])=false by assumption)) (by decide)
  | exact absurd (Eq.trans (Eq.symm (show (l==[118])=true by assumption)) (show (l==[118])=false by assumption)) (by decide)
  | (have H:(l==[102,117,110])=true:=(by assumption);go_ret;exact⟨ret_bool (isW_yes [102,117,110] (isW_mem (by simp[wds])) H).symm,rfl⟩)
  | (have H:(l==[113,117,97,108,105,102])=true:=(by assumption);go_ret;exact⟨ret_bool (isW_yes [113,117,97,108,105,102] (isW_mem (by simp[wds])) H).symm,rfl⟩)
  | (have H:(l==[108,101,116])=true:=(by assumption);go_ret;exact⟨ret_bool (isW_yes [108,101,116] (isW_mem (by simp[wds])) H).symm,rfl⟩)
  | (have H:(l==[105,110])=true:=(by assumption);go_ret;exact⟨ret_bool (isW_yes [105,110] (isW_mem (by simp[wds])) H).symm,rfl⟩)
  | (have H:(l==[105,102])=true:=(by assumption);go_ret;exact⟨ret_bool (isW_yes [105,102] (isW_mem (by simp[wds])) H).symm,rfl⟩)
  | (have H:(l==[116,104,101,110])=true:=(by assumption);go_ret;exact⟨ret_bool (isW_yes [116,104,101,110] (isW_mem (by simp[wds])) H).symm,rfl⟩)
  | (have H:(l==[101,108,115,101])=true:=(by assumption);go_ret;exact⟨ret_bool (isW_yes [101,108,115,101] (isW_mem (by simp[wds])) H).symm,rfl⟩)
  | (have H:(l==[109,97,116,99,104])=true:=(by assumption);go_ret;exact⟨ret_bool (isW_yes [109,97,116,99,104] (isW_mem (by simp[wds])) H).symm,rfl⟩)
  | (have H:(l==[119,105,116,104])=true:=(by assumption);go_ret;exact⟨ret_bool (isW_yes [119,105,116,104] (isW_mem (by simp[wds])) H).symm,rfl⟩)
  | (have H:(l==[97,115,115,101,114,116])=true:=(by assumption);go_ret;exact⟨ret_bool (isW_yes [97,115,115,101,114,116] (isW_mem (by simp[wds])) H).symm,rfl⟩)
  | (have H:(l==[110,111,116])=true:=(by assumption);go_ret;exact⟨ret_bool (isW_yes [110,111,116] (isW_mem (by simp[wds])) H).symm,rfl⟩)
  | (have H:(l==[116,114,117,101])=true:=(by assumption);go_ret;exact⟨ret_bool (isW_yes [116,114,117,101] (isW_mem (by simp[wds])) H).symm,rfl⟩)
  | (have H:(l==[102,97,108,115,101])=true:=(by assumption);go_ret;exact⟨ret_bool (isW_yes [102,97,108,115,101] (isW_mem (by simp[wds])) H).symm,rfl⟩)
  | (have H:(l==[105,110,116])=true:=(by assumption);go_ret;exact⟨ret_bool (isW_yes [105,110,116] (isW_mem (by simp[wds])) H).symm,rfl⟩)
  | (have H:(l==[98,111,111,108])=true:=(by assumption);go_ret;exact⟨ret_bool (isW_yes [98,111,111,108] (isW_mem (by simp[wds])) H).symm,rfl⟩)
  | (have H:(l==[108,105,115,116])=true:=(by assumption);go_ret;exact⟨ret_bool (isW_yes [108,105,115,116] (isW_mem (by simp[wds])) H).symm,rfl⟩)
  | (have H:(l==[108,101,110])=true:=(by assumption);go_ret;exact⟨ret_bool (isW_yes [108,101,110] (isW_mem (by simp[wds])) H).symm,rfl⟩)
  | (have H:(l==[104,100])=true:=(by assumption);go_ret;exact⟨ret_bool (isW_yes [104,100] (isW_mem (by simp[wds])) H).symm,rfl⟩)
  | (have H:(l==[116,108])=true:=(by assumption);go_ret;exact⟨ret_bool (isW_yes [116,108] (isW_mem (by simp[wds])) H).symm,rfl⟩)
  | (have H:(l==[118])=true:=(by assumption);go_ret;exact⟨ret_bool (isW_yes [118] (isW_mem (by simp[wds])) H).symm,rfl⟩)
  | (have H:=isW_no (l:=l) ⟨by assumption,by assumption,by assumption,by assumption,by assumption,by assumption,by assumption,by assumption,by assumption,by assumption,by assumption,by assumption,by assumption,by assumption,by assumption,by assumption,by assumption,by assumption,by assumption,by assumption⟩;go_ret;exact⟨ret_bool H.symm,rfl⟩)
def mres (m:Meas):Value:=match m with
 | .ok k n=>.tuple #[.int .i64 (k:Nat),.int .i64 (n:Nat),.nilIface]
 | .bad e=>.tuple #[.int .i64 0,.int .i64 0,.iface 77 (.int .i64 (e:Nat))]
theorem name_any (a:UInt8) (r:Bs) (ha:isL a=true) (hl:(a::r).length<=1000000000) (w:World) :
  Calls Tryz.prog 119 #[.string ⟨(a::r).toArray⟩] w fun e w'=>e=.returned (mres (meas (a::r)))/\w'=w:=by
 obtain⟨l,hL⟩:∃ l,l=a::r:=⟨_,rfl⟩
 have HM:=Lib.hid (show meas l=if 40<spn isLD l then .bad 2 else if isW (l.take (spn isLD l)) then .ok 3 (spn isLD l) else .ok 0 (spn isLD l) by rw[hL,meas_cons,if_pos ha]);rw[<-hL] at hl ⊢;clear hL ha;have hle:=spn_le isLD l;have hsz:(⟨l.toArray⟩:ByteArray).size=l.length:=rfl;obtain⟨n,hn⟩:∃ n,n=spn isLD l:=⟨_,rfl⟩
 have hs:=span_ld l w hl;rw[<-hn] at HM hle hs;have HS:=Lib.hid hs;clear hs hn
 by_cases h40:40<n
 ·have H2:=Lib.hid (show meas l=.bad 2 by rw[HM.out,if_pos h40]);go_enter Tryz.func119,Tryz.ntmps119
  go_wp2_with (go_at_call 142;refine HS.out.mono ?_;rintro e w' ⟨rfl,rfl⟩)
  go_ret3
  exact⟨by rw[H2.out];rfl,rfl⟩
 have h40':n<=40:=by omega
 have HT:=Lib.hid (extract_take l n)
 cases hw:isW (l.take n)
 ·have H2:=Lib.hid (show meas l=.ok 0 n by rw[HM.out,if_neg h40,hw];rfl);have HW:=Lib.hid hw;clear hw h40;go_enter Tryz.func119,Tryz.ntmps119
  go_wp2_with (first | (go_at_call 142;refine HS.out.mono ?_;rintro e w' ⟨rfl,rfl⟩) | (go_at_call 144;rw[HT.out];refine (isWord_any _ _).mono ?_;rw[HW.out];rintro e w' ⟨rfl,rfl⟩))
  go_ret3
  exact⟨by rw[H2.out];rfl,rfl⟩
 have H2:=Lib.hid (show meas l=.ok 3 n by rw[HM.out,if_neg h40,hw];rfl);have HW:=Lib.hid hw;clear hw h40;go_enter Tryz.func119,Tryz.ntmps119
 go_wp2_with (first | (go_at_call 142;refine HS.out.mono ?_;rintro e w' ⟨rfl,rfl⟩) | (go_at_call 144;rw[HT.out];refine (isWord_any _ _).mono ?_;rw[HW.out];rintro e w' ⟨rfl,rfl⟩))
 go_ret3
 exact⟨by rw[H2.out];rfl,rfl⟩
theorem lxNumber_any (a:UInt8) (r:Bs) (ha:isL a=false) (hd:isD a=true) (hl:(a::r).length<=1000000000) (w:World) :
  Calls Tryz.prog 121 #[.string ⟨(a::r).toArray⟩] w fun e w'=>e=.returned (mres (meas (a::r)))/\w'=w:=by
 obtain⟨l,hL⟩:∃ l,l=a::r:=⟨_,rfl⟩
 have HM:=Lib.hid (show meas l=if 1<spn isD l/\a=48 then .bad 1 else if 300<spn isD l then .bad 2 else .ok 1 (spn isD l) by rw[hL,meas_cons,if_neg (by rw[ha];decide),if_pos hd]);have hp:0<l.length:=by rw[hL];simp
 have h0:(⟨l.toArray⟩:ByteArray)[0]'hp=a:=by subst hL;rfl
 rw[<-hL] at hl ⊢;clear hL ha hd;have hsz:(⟨l.toArray⟩:ByteArray).size=l.length:=rfl;obtain⟨n,hn⟩:∃ n,n=spn isD l:=⟨_,rfl⟩
 have hs:=span_d l w hl;have hle:=spn_le isD l;rw[<-hn] at HM hs hle;have HS:=Lib.hid hs;clear hs hn
 by_cases h1:1<n
 ·by_cases h48:a=48
  ·have H2:=Lib.hid (show meas l=.bad 1 by rw[HM.out,if_pos ⟨h1,h48⟩]);have hx:((a.toNat:Int)==48)=true:=byte_yes 48 h48;clear h48;go_enter Tryz.func121,Tryz.ntmps121
   go_wp2_with (go_at_call 142;refine HS.out.mono ?_;rintro e w' ⟨rfl,rfl⟩)
   go_ret3
   exact⟨by rw[H2.out];rfl,rfl⟩
  have hx:((a.toNat:Int)==48)=false:=byte_no 48 h48
  by_cases h3:300<n
  ·have H2:=Lib.hid (show meas l=.bad 2 by rw[HM.out,if_neg (fun h=>h48 h.2),if_pos h3]);clear h48;go_enter Tryz.func121,Tryz.ntmps121
   go_wp2_with (go_at_call 142;refine HS.out.mono ?_;rintro e w' ⟨rfl,rfl⟩)
   go_ret3
   exact⟨by rw[H2.out];rfl,rfl⟩
  have h3':n<=300:=by omega
  have H2:=Lib.hid (show meas l=.ok 1 n by rw[HM.out,if_neg (fun h=>h48 h.2),if_neg h3]);clear h48 h3;go_enter Tryz.func121,Tryz.ntmps121
  go_wp2_with (go_at_call 142;refine HS.out.mono ?_;rintro e w' ⟨rfl,rfl⟩)
  go_ret3
  exact⟨by rw[H2.out];rfl,rfl⟩
 have h1':n<=1:=by omega
 have H2:=Lib.hid (show meas l=.ok 1 n by rw[HM.out,if_neg (fun h=>h1 h.1),if_neg (by omega)]);clear h1;go_enter Tryz.func121,Tryz.ntmps121
 go_wp2_with (go_at_call 142;refine HS.out.mono ?_;rintro e w' ⟨rfl,rfl⟩)
 go_ret3
 exact⟨by rw[H2.out];rfl,rfl⟩
theorem shape_mres (m:Meas):∃ a b c,mres m=.tuple #[a,b,c]:=by
 cases m<;>exact⟨_,_,_,rfl⟩
theorem measure_any (l:Bs) (hl:l.length<=1000000000) (w:World) :
  Calls Tryz.prog 98 #[.string ⟨l.toArray⟩] w fun e w'=>e=.returned (mres (meas l))/\w'=w:=by
 cases l with
 | nil =>
  go_enter Tryz.func98,Tryz.ntmps98
  go_wp2
  go_ret3
  exact⟨rfl,rfl⟩
 | cons a r =>
  have hnn:=name_any a r;have hdd:=lxNumber_any a r;have HG:=Lib.hid (sign_any a r hl w);have HM:=Lib.hid (meas_cons a r);obtain⟨l,hL⟩:∃ l,l=a::r:=⟨_,rfl⟩
  have hp:0<l.length:=by rw[hL];simp
  have h0:(⟨l.toArray⟩:ByteArray)[0]'hp=a:=by subst hL;rfl
  have he:(l==[])=false:=by rw[hL];rfl
  rw[<-hL] at hl hnn hdd HG HM ⊢;clear hL;have hsz:(⟨l.toArray⟩:ByteArray).size=l.length:=rfl
  cases ha:isL a
  ·cases hd:isD a
   ·have H2:=Lib.hid (show meas l=if 0<sgn l then .ok 2 (sgn l) else .bad 1 by rw[HM.out,if_neg (by rw[ha];decide),if_neg (by rw[hd];decide)]);obtain⟨n,hn⟩:∃ n,n=sgn l:=⟨_,rfl⟩
    have hle:=(sgn_le l).1;rw[<-hn] at HG H2 hle;have HA:=Lib.hid ha;have HD:=Lib.hid hd;clear hnn hdd ha hd hn HM
    by_cases h3:0<n
    ·have H3:=Lib.hid (show meas l=.ok 2 n by rw[H2.out,if_pos h3]);go_enter Tryz.func98,Tryz.ntmps98
     go_wp2_with (first
      | (go_at_call 118;refine (isLetter_any a _).mono ?_;rw[HA.out];rintro e w' ⟨rfl,rfl⟩)
      | (go_at_call 120;refine (isDigit_any a _).mono ?_;rw[HD.out];rintro e w' ⟨rfl,rfl⟩)
      | (go_at_call 122;refine HG.out.mono ?_;rintro e w' ⟨rfl,rfl⟩))
     go_ret3
     exact⟨by rw[H3.out];rfl,rfl⟩
    have hn0:n=0:=by omega
    subst hn0;have H3:=Lib.hid (show meas l=.bad 1 by rw[H2.out,if_neg h3]);clear h3;go_enter Tryz.func98,Tryz.ntmps98
    go_wp2_with (first
     | (go_at_call 118;refine (isLetter_any a _).mono ?_;rw[HA.out];rintro e w' ⟨rfl,rfl⟩)
     | (go_at_call 120;refine (isDigit_any a _).mono ?_;rw[HD.out];rintro e w' ⟨rfl,rfl⟩)
     | (go_at_call 122;refine HG.out.mono ?_;rintro e w' ⟨rfl,rfl⟩))
    go_ret3
    exact⟨by rw[H3.out];rfl,rfl⟩
   have HC:=Lib.hid (hdd ha hd hl w);obtain⟨x,y,z,hx⟩:=shape_mres (meas l);rw[hx] at HC ⊢;have HA:=Lib.hid ha;have HD:=Lib.hid hd;clear hnn hdd ha hd hx HM;go_enter Tryz.func98,Tryz.ntmps98
   go_wp2_with (first
    | (go_at_call 118;refine (isLetter_any a _).mono ?_;rw[HA.out];rintro e w' ⟨rfl,rfl⟩)
    | (go_at_call 120;refine (isDigit_any a _).mono ?_;rw[HD.out];rintro e w' ⟨rfl,rfl⟩)
    | (go_at_call 121;refine HC.out.mono ?_;rintro e w' ⟨rfl,rfl⟩))
   go_ret3
   exact⟨rfl,rfl⟩
  have HC:=Lib.hid (hnn ha hl w);obtain⟨x,y,z,hx⟩:=shape_mres (meas l);rw[hx] at HC ⊢;have HA:=Lib.hid ha;clear hnn hdd ha hx HM;go_enter Tryz.func98,Tryz.ntmps98
  go_wp2_with (first
   | (go_at_call 118;refine (isLetter_any a _).mono ?_;rw[HA.out];rintro e w' ⟨rfl,rfl⟩)
   | (go_at_call 119;refine HC.out.mono ?_;rintro e w' ⟨rfl,rfl⟩))
  go_ret3
  exact⟨rfl,rfl⟩
theorem lt_of_block {w:World} {g:Nat} {o:Obj} (h:w.heap[g]?=some o):g<w.heap.size:=(Array.getElem?_eq_some_iff.1 h).1
theorem grown_below {w w':World} {g B:Nat} (h:w.grownBy w' (some g)) (hB:B<=w.heap.size) (hg:B<=g):Below B w w':=
 ⟨h.os,h.tape,h.output,h.size,fun k hk=>h.block k (by omega) (fun e=>by injection e with e;omega)⟩
theorem below_grown {w w':World} (h:Below w.heap.size w w') (row:Option Nat):w.grownBy w' row:=⟨h.os,h.tape,h.output,h.size,fun k hk _=>h.block k hk⟩
theorem grown_tr {a b c:World} {row:Option Nat} (h:a.grownBy b row) (k:b.grownBy c row):a.grownBy c row:=
 ⟨k.os.trans h.os,k.tape.trans h.tape,k.output.trans h.output,Nat.le_trans h.size k.size,fun i hi hn=>(k.block i (Nat.lt_of_lt_of_le hi h.size) hn).trans (h.block i hi hn)⟩
theorem grown_set (w:World) (g i:Nat) (v:Value):w.grownBy (w.setCell ⟨g,i,none⟩ v) (some g):=
 ⟨rfl,rfl,rfl,by simp,fun k _ hn=>heap_setCell_other w _ k v (fun e=>hn (by rw[e]))⟩
def Rd (w:World) (g:Nat) (l:Bs) (p:Nat × Nat):Prop:=w.heap[g]?=some (.cells #[.string ⟨l.toArray⟩,.int .i64 (p.1:Nat),.int .i64 (p.2:Nat)] 129 (0,0))
theorem rd_nl {w:World} {g:Nat} {l:Bs} {q:Nat × Nat} (h:Rd w g l q) (x:Value):Rd (((w.setCell ⟨g,2,none⟩ x).setCell ⟨g,1,none⟩ (.int .i64 ((q.1:Int)+1))).setCell ⟨g,2,none⟩ (.int .i64 1)) g l (q.1+1,1):=by
 unfold Rd at *;rw[heap_setCell_same _ g 2 _ _ _ (heap_setCell_same _ g 1 _ _ _ (heap_setCell_same w g 2 _ _ x h))];rfl
theorem rd_no {w:World} {g:Nat} {l:Bs} {q:Nat × Nat} (h:Rd w g l q):Rd (w.setCell ⟨g,2,none⟩ (.int .i64 ((q.2:Int)+1))) g l (q.1,q.2+1):=by
 unfold Rd at *;rw[heap_setCell_same w g 2 _ _ _ h];rfl
theorem rd_rest {w:World} {g:Nat} {l:Bs} {q:Nat × Nat} (h:Rd w g l q) (k:Nat):Rd (w.setCell ⟨g,0,none⟩ (.string ((⟨l.toArray⟩:ByteArray).extract k l.length))) g (l.drop k) q:=by
 unfold Rd at *;rw[heap_setCell_same w g 0 _ _ _ h,extract_drop];rfl
theorem skip_any (g:Nat) (l:Bs) (p:Nat × Nat) (n:Nat) (w:World) (hR:Rd w g l p) (hn:n<=l.length) (hl:l.length<=20000) (h1:p.1<=1000000) (h2:p.2<=1000000) :
  Calls Tryz.prog 96 #[.pointer (some ⟨g,0,none⟩),.int .i64 (n:Nat)] w fun e w'=>e=.returned (.tuple #[])/\Rd w' g (l.drop n) (adv p (l.take n))/\w.grownBy w' (some g):=by
 have hsz:(⟨l.toArray⟩:ByteArray).size=l.length:=rfl;go_enter Tryz.func96,Tryz.ntmps96
 go_wp2
 go_loopw [6] (fun i wr=>∃ k:Nat,i=.int .i64 k/\k<=n/\Rd wr g l (adv p (l.take k))/\w.grownBy wr (some g)) (fun i _=>n - (intOf i).toNat)
 case atStart=>exact⟨0,rfl,Nat.zero_le _,hR,World.grownBy.refl _ _⟩
 case round =>
  obtain⟨k,rfl,hk,hRk,hg⟩:=hrel;obtain⟨q,hq⟩:∃ q,q=adv p (l.take k):=⟨_,rfl⟩
  rw[<-hq] at hRk;have HQ:=Lib.hid hq;have hb:=adv_bd p (l.take k);have hlt':(l.take k).length<=k:=List.length_take_le _ _;rw[<-hq] at hb;clear hq;have hq1:q.1<=1100000:=by omega
  have hq2:q.2<=1100000:=by omega
  clear hb hlt';have c0:=cell_at hRk 0 rfl;have c1:=cell_at hRk 1 rfl;have c2:=cell_at hRk 2 rfl;have f0:=froz_at hRk 0;have f1:=froz_at hRk 1;have f2:=froz_at hRk 2;have HR:=Lib.hid hRk;have HG:=Lib.hid hg;clear hRk hg
  by_cases hlt:k<n
  ·have hlt2:k<l.length:=by omega
   by_cases h10:l[k]=10
   ·have hx:((((⟨l.toArray⟩:ByteArray)[k]'hlt2).toNat:Int)==10)=true:=byte_yes (c:=(⟨l.toArray⟩:ByteArray)[k]'hlt2) 10 h10;have HS:=Lib.hid ((adv_take_succ p l k hlt2).trans (by rw[<-HQ.out,stepP_nl h10]));clear h10
    go_wp2
    go_roundw
    case rel =>
     refine⟨k+1,by go_num,by omega,?_,grown_tr (grown_tr (grown_tr HG.out (grown_set _ g 2 _)) (grown_set _ g 1 _)) (grown_set _ g 2 _)⟩;rw[HS.out];exact rd_nl HR.out _
    case measure=>simp[intOf];omega
   have hx:((((⟨l.toArray⟩:ByteArray)[k]'hlt2).toNat:Int)==10)=false:=byte_no (c:=(⟨l.toArray⟩:ByteArray)[k]'hlt2) 10 h10;have HS:=Lib.hid ((adv_take_succ p l k hlt2).trans (by rw[<-HQ.out,stepP_no h10]));clear h10
   go_wp2
   go_roundw
   case rel =>
    refine⟨k+1,by go_num,by omega,?_,grown_tr HG.out (grown_set _ g 2 _)⟩;rw[HS.out];exact rd_no HR.out
   case measure=>simp[intOf];omega
  have hkn:k=n:=by omega
  subst hkn
  go_wp2
  go_end0
  refine⟨rfl,?_,grown_tr HG.out (grown_set _ g 0 _)⟩;rw[<-HQ.out];exact rd_rest HR.out k
def AtB (w:World) (q:Nat) (p:Nat × Nat) (v:Value):Prop:=w.heap[q]?=some (.cells #[.int .i64 (p.1:Nat),.int .i64 (p.2:Nat),v] 116 (0,0))
theorem fault_any (g:Nat) (l:Bs) (p:Nat × Nat) (c:Int) (w:World) (hR:Rd w g l p) :
  Calls Tryz.prog 60 #[.pointer (some ⟨g,0,none⟩),.iface 77 (.int .i64 c)] w fun e w'=>∃ q,e=.returned (.iface 111 (.pointer (some ⟨q,0,none⟩)))/\AtB w' q p (.iface 77 (.int .i64 c))/\w.heap.size<=q/\Below w.heap.size w w':=by
 have c1:=cell_at hR 1 rfl;have c2:=cell_at hR 2 rfl;go_enter Tryz.func60,Tryz.ntmps60
 go_wp2
 go_region_held3 (fun w'=>w'.cell? ⟨g,1,none⟩=some (.int .i64 (p.1:Nat))/\w'.cell? ⟨g,2,none⟩=some (.int .i64 (p.2:Nat))) (go_keep) (fail)
 go_wp2
 go_ret
 exact⟨w.heap.size,rfl,made_at w _ _ rfl,Nat.le_refl _,((Below.refl _ _).alloc (Nat.le_refl _) _).drew⟩
theorem strSize (l:Bs):(⟨l.toArray⟩:ByteArray).size=l.length:=rfl
theorem clone_any (l:Bs) (hl:l.length<=1000000000) (w:World) :
  Calls Tryz.prog 99 #[.string ⟨l.toArray⟩] w fun e w'=>e=.returned (.string ⟨l.toArray⟩)/\Below w.heap.size w w':=by
 have H:=Lib.hid (Tryz.stringslite_Clone ⟨l.toArray⟩ w (by rw[strSize];omega));go_enter Tryz.func99,Tryz.ntmps99
 go_wp2_with fail
 refine H.out.mono ?_;rintro e w1 ⟨rfl,hb⟩
 go_wp2
 go_ret
 exact⟨rfl,hb⟩
theorem Rd.below {w w':World} {g:Nat} {l:Bs} {p:Nat × Nat} (h:Rd w g l p) (hb:Below w.heap.size w w'):Rd w' g l p:=by
 unfold Rd at *;rw[hb.block _ (lt_of_block h)];exact h
theorem Rd.lt {w:World} {g:Nat} {l:Bs} {p:Nat × Nat} (h:Rd w g l p):g<w.heap.size:=lt_of_block h
theorem alloc_grown (w:World) (o:Obj) (row:Option Nat):w.grownBy (w.alloc o) row:=below_grown ((Below.refl _ _).alloc (Nat.le_refl _) _) row
theorem Rd.alloc {w:World} {g:Nat} {l:Bs} {p:Nat × Nat} (h:Rd w g l p) (o:Obj):Rd (w.alloc o) g l p:=h.below ((Below.refl _ _).alloc (Nat.le_refl _) _)
theorem other4 (w:World) (g:Nat) (x y z u:Value) {k:Nat} (hk:k≠g) :
  ((((w.setCell ⟨g,0,none⟩ x).setCell ⟨g,1,none⟩ y).setCell ⟨g,2,none⟩ z).setCell ⟨g,3,none⟩ u).heap[k]?=w.heap[k]?:=by
 rw[heap_setCell_other _ _ k _ hk,heap_setCell_other _ _ k _ hk,heap_setCell_other _ _ k _ hk,heap_setCell_other _ _ k _ hk]
theorem grown4 (w:World) (g:Nat) (x y z u:Value):w.grownBy ((((w.setCell ⟨g,0,none⟩ x).setCell ⟨g,1,none⟩ y).setCell ⟨g,2,none⟩ z).setCell ⟨g,3,none⟩ u) (some g):=
 grown_tr (grown_tr (grown_tr (grown_set w g 0 x) (grown_set _ g 1 y)) (grown_set _ g 2 z)) (grown_set _ g 3 u)
theorem grown_new {a b c:World} {row:Option Nat} {t:Nat} (h:a.grownBy b row) (k:b.grownBy c (some t)) (ht:a.heap.size<=t):a.grownBy c row:=
 ⟨k.os.trans h.os,k.tape.trans h.tape,k.output.trans h.output,Nat.le_trans h.size k.size,fun i hi hn=>(k.block i (Nat.lt_of_lt_of_le hi h.size) (fun e=>by injection e with e;omega)).trans (h.block i hi hn)⟩
theorem h_ {p:Prop} (h:p):Hid p:=Lib.hid h
theorem kB {w w':World} {k:Nat} {o:Obj} (hb:Below w.heap.size w w') (h:Hid (w.heap[k]?=some o)):Hid (w'.heap[k]?=some o):=Lib.hid ((hb.block _ (lt_of_block h.out)).trans h.out)
theorem kG {w w':World} {g k:Nat} {o:Obj} (hg:w.grownBy w' (some g)) (h:Hid (w.heap[k]?=some o)) (hn:k≠g:=by omega):Hid (w'.heap[k]?=some o):=Lib.hid ((hg.block _ (lt_of_block h.out) (fun e=>hn (by injection e))).trans h.out)
theorem newb (w:World) (c:Array Value) (T:TypeId):∃ w' k,w.alloc (.cells c T)=w' ∧ k=w.heap.size ∧ Below w.heap.size w w' ∧ w'.heap.size=k+1 ∧ Hid (w'.heap[k]?=some (.cells c T (0,0))):=
  ⟨_,_,rfl,rfl,(Below.refl _ _).alloc (Nat.le_refl _) _,by simp,Lib.hid (made_at w _ _ rfl)⟩
theorem dB {we w w':World} {g:Nat} (h:Hid (we.grownBy w (some g))) (hb:Below w.heap.size w w'):Hid (we.grownBy w' (some g)):=Lib.hid (grown_tr h.out (below_grown hb _))
theorem dG {we w w':World} {g:Nat} (h:Hid (we.grownBy w (some g))) (hg:w.grownBy w' (some g)):Hid (we.grownBy w' (some g)):=Lib.hid (grown_tr h.out hg)
theorem dN {we w w':World} {g k:Nat} (h:Hid (we.grownBy w (some g))) (hg:w.grownBy w' (some k)) (hk:we.heap.size ≤ k):Hid (we.grownBy w' (some g)):=Lib.hid (grown_new h.out hg hk)
theorem lk_ {w:World} {j k:Nat} {o:Obj} (h:k=w.heap.size) (hb:Hid (w.heap[j]?=some o)):j<k:=by rw[h];exact lt_of_block hb.out
theorem bw_ {w a b:World} (h:Hid (Below w.heap.size w a)) (hb:Below a.heap.size a b):Hid (Below w.heap.size w b):=h_ (h.out.trans (hb.mono h.out.size))
theorem tr_ {α:Type _} {a:Option α} {x y:α} (h:a=some x) (e:x=y):a=some y:=h.trans (congrArg some e)
theorem Um.offk {w:World} {S:Nat → Prop} {x:X} {u:U} {k:Nat} (h:Um w S x u) (hk:k=w.heap.size):Um w (fun b=>S b ∧ b≠k) x u:=h.off.mono (fun b h=>⟨h.1,fun e=>h.2 (by rw[e,hk])⟩)
theorem cl2 {w:World} {g:Nat} {T:TypeId} {a0 a1:Value} (h:w.heap[g]?=some (.cells #[a0,a1] T (0,0))):w.cell? ⟨g,0,none⟩=some a0 ∧ w.cell? ⟨g,1,none⟩=some a1:=
  ⟨cell_at h 0 rfl,cell_at h 1 rfl⟩
theorem cl3 {w:World} {g:Nat} {T:TypeId} {a0 a1 a2:Value} (h:w.heap[g]?=some (.cells #[a0,a1,a2] T (0,0))):w.cell? ⟨g,0,none⟩=some a0 ∧ w.cell? ⟨g,1,none⟩=some a1 ∧ w.cell? ⟨g,2,none⟩=some a2:=
  ⟨cell_at h 0 rfl,cell_at h 1 rfl,cell_at h 2 rfl⟩
theorem cl4 {w:World} {g:Nat} {T:TypeId} {a0 a1 a2 a3:Value} (h:w.heap[g]?=some (.cells #[a0,a1,a2,a3] T (0,0))):w.cell? ⟨g,0,none⟩=some a0 ∧ w.cell? ⟨g,1,none⟩=some a1 ∧ w.cell? ⟨g,2,none⟩=some a2 ∧ w.cell? ⟨g,3,none⟩=some a3:=
  ⟨cell_at h 0 rfl,cell_at h 1 rfl,cell_at h 2 rfl,cell_at h 3 rfl⟩
theorem cl5 {w:World} {g:Nat} {T:TypeId} {a0 a1 a2 a3 a4:Value} (h:w.heap[g]?=some (.cells #[a0,a1,a2,a3,a4] T (0,0))):w.cell? ⟨g,0,none⟩=some a0 ∧ w.cell? ⟨g,1,none⟩=some a1 ∧ w.cell? ⟨g,2,none⟩=some a2 ∧ w.cell? ⟨g,3,none⟩=some a3 ∧ w.cell? ⟨g,4,none⟩=some a4:=
  ⟨cell_at h 0 rfl,cell_at h 1 rfl,cell_at h 2 rfl,cell_at h 3 rfl,cell_at h 4 rfl⟩
theorem cl8 {w:World} {g:Nat} {T:TypeId} {a0 a1 a2 a3 a4 a5 a6 a7:Value} (h:w.heap[g]?=some (.cells #[a0,a1,a2,a3,a4,a5,a6,a7] T (0,0))):w.cell? ⟨g,0,none⟩=some a0 ∧ w.cell? ⟨g,1,none⟩=some a1 ∧ w.cell? ⟨g,2,none⟩=some a2 ∧ w.cell? ⟨g,3,none⟩=some a3 ∧ w.cell? ⟨g,4,none⟩=some a4 ∧ w.cell? ⟨g,5,none⟩=some a5 ∧ w.cell? ⟨g,6,none⟩=some a6 ∧ w.cell? ⟨g,7,none⟩=some a7:=
  ⟨cell_at h 0 rfl,cell_at h 1 rfl,cell_at h 2 rfl,cell_at h 3 rfl,cell_at h 4 rfl,cell_at h 5 rfl,cell_at h 6 rfl,cell_at h 7 rfl⟩
theorem cl12 {w:World} {g:Nat} {T:TypeId} {a0 a1 a2 a3 a4 a5 a6 a7 a8 a9 a10 a11:Value} (h:w.heap[g]?=some (.cells #[a0,a1,a2,a3,a4,a5,a6,a7,a8,a9,a10,a11] T (0,0))):w.cell? ⟨g,0,none⟩=some a0 ∧ w.cell? ⟨g,1,none⟩=some a1 ∧ w.cell? ⟨g,2,none⟩=some a2 ∧ w.cell? ⟨g,3,none⟩=some a3 ∧ w.cell? ⟨g,4,none⟩=some a4 ∧ w.cell? ⟨g,5,none⟩=some a5 ∧ w.cell? ⟨g,6,none⟩=some a6 ∧ w.cell? ⟨g,7,none⟩=some a7 ∧ w.cell? ⟨g,8,none⟩=some a8 ∧ w.cell? ⟨g,9,none⟩=some a9 ∧ w.cell? ⟨g,10,none⟩=some a10 ∧ w.cell? ⟨g,11,none⟩=some a11:=
  ⟨cell_at h 0 rfl,cell_at h 1 rfl,cell_at h 2 rfl,cell_at h 3 rfl,cell_at h 4 rfl,cell_at h 5 rfl,cell_at h 6 rfl,cell_at h 7 rfl,cell_at h 8 rfl,cell_at h 9 rfl,cell_at h 10 rfl,cell_at h 11 rfl⟩
theorem cl13 {w:World} {g:Nat} {T:TypeId} {a0 a1 a2 a3 a4 a5 a6 a7 a8 a9 a10 a11 a12:Value} (h:w.heap[g]?=some (.cells #[a0,a1,a2,a3,a4,a5,a6,a7,a8,a9,a10,a11,a12] T (0,0))):w.cell? ⟨g,0,none⟩=some a0 ∧ w.cell? ⟨g,1,none⟩=some a1 ∧ w.cell? ⟨g,2,none⟩=some a2 ∧ w.cell? ⟨g,3,none⟩=some a3 ∧ w.cell? ⟨g,4,none⟩=some a4 ∧ w.cell? ⟨g,5,none⟩=some a5 ∧ w.cell? ⟨g,6,none⟩=some a6 ∧ w.cell? ⟨g,7,none⟩=some a7 ∧ w.cell? ⟨g,8,none⟩=some a8 ∧ w.cell? ⟨g,9,none⟩=some a9 ∧ w.cell? ⟨g,10,none⟩=some a10 ∧ w.cell? ⟨g,11,none⟩=some a11 ∧ w.cell? ⟨g,12,none⟩=some a12:=
  ⟨cell_at h 0 rfl,cell_at h 1 rfl,cell_at h 2 rfl,cell_at h 3 rfl,cell_at h 4 rfl,cell_at h 5 rfl,cell_at h 6 rfl,cell_at h 7 rfl,cell_at h 8 rfl,cell_at h 9 rfl,cell_at h 10 rfl,cell_at h 11 rfl,cell_at h 12 rfl⟩
theorem cl25 {w:World} {g:Nat} {T:TypeId} {a0 a1 a2 a3 a4 a5 a6 a7 a8 a9 a10 a11 a12 a13 a14 a15 a16 a17 a18 a19 a20 a21 a22 a23 a24:Value} (h:w.heap[g]?=some (.cells #[a0,a1,a2,a3,a4,a5,a6,a7,a8,a9,a10,a11,a12,a13,a14,a15,a16,a17,a18,a19,a20,a21,a22,a23,a24] T (0,0))):w.cell? ⟨g,0,none⟩=some a0 ∧ w.cell? ⟨g,1,none⟩=some a1 ∧ w.cell? ⟨g,2,none⟩=some a2 ∧ w.cell? ⟨g,3,none⟩=some a3 ∧ w.cell? ⟨g,4,none⟩=some a4 ∧ w.cell? ⟨g,5,none⟩=some a5 ∧ w.cell? ⟨g,6,none⟩=some a6 ∧ w.cell? ⟨g,7,none⟩=some a7 ∧ w.cell? ⟨g,8,none⟩=some a8 ∧ w.cell? ⟨g,9,none⟩=some a9 ∧ w.cell? ⟨g,10,none⟩=some a10 ∧ w.cell? ⟨g,11,none⟩=some a11 ∧ w.cell? ⟨g,12,none⟩=some a12 ∧ w.cell? ⟨g,13,none⟩=some a13 ∧ w.cell? ⟨g,14,none⟩=some a14 ∧ w.cell? ⟨g,15,none⟩=some a15 ∧ w.cell? ⟨g,16,none⟩=some a16 ∧ w.cell? ⟨g,17,none⟩=some a17 ∧ w.cell? ⟨g,18,none⟩=some a18 ∧ w.cell? ⟨g,19,none⟩=some a19 ∧ w.cell? ⟨g,20,none⟩=some a20 ∧ w.cell? ⟨g,21,none⟩=some a21 ∧ w.cell? ⟨g,22,none⟩=some a22 ∧ w.cell? ⟨g,23,none⟩=some a23 ∧ w.cell? ⟨g,24,none⟩=some a24:=
  ⟨cell_at h 0 rfl,cell_at h 1 rfl,cell_at h 2 rfl,cell_at h 3 rfl,cell_at h 4 rfl,cell_at h 5 rfl,cell_at h 6 rfl,cell_at h 7 rfl,cell_at h 8 rfl,cell_at h 9 rfl,cell_at h 10 rfl,cell_at h 11 rfl,cell_at h 12 rfl,cell_at h 13 rfl,cell_at h 14 rfl,cell_at h 15 rfl,cell_at h 16 rfl,cell_at h 17 rfl,cell_at h 18 rfl,cell_at h 19 rfl,cell_at h 20 rfl,cell_at h 21 rfl,cell_at h 22 rfl,cell_at h 23 rfl,cell_at h 24 rfl⟩
theorem fr2 {w:World} {g:Nat} {c:Array Value} {T:TypeId} (h:w.heap[g]?=some (.cells c T (0,0))):w.frozen? ⟨g,0,none⟩=false ∧ w.frozen? ⟨g,1,none⟩=false:=
  ⟨froz_at h 0,froz_at h 1⟩
theorem fr4 {w:World} {g:Nat} {c:Array Value} {T:TypeId} (h:w.heap[g]?=some (.cells c T (0,0))):w.frozen? ⟨g,0,none⟩=false ∧ w.frozen? ⟨g,1,none⟩=false ∧ w.frozen? ⟨g,2,none⟩=false ∧ w.frozen? ⟨g,3,none⟩=false:=
  ⟨froz_at h 0,froz_at h 1,froz_at h 2,froz_at h 3⟩
theorem fr5 {w:World} {g:Nat} {c:Array Value} {T:TypeId} (h:w.heap[g]?=some (.cells c T (0,0))):w.frozen? ⟨g,0,none⟩=false ∧ w.frozen? ⟨g,1,none⟩=false ∧ w.frozen? ⟨g,2,none⟩=false ∧ w.frozen? ⟨g,3,none⟩=false ∧ w.frozen? ⟨g,4,none⟩=false:=
  ⟨froz_at h 0,froz_at h 1,froz_at h 2,froz_at h 3,froz_at h 4⟩
theorem fr8 {w:World} {g:Nat} {c:Array Value} {T:TypeId} (h:w.heap[g]?=some (.cells c T (0,0))):w.frozen? ⟨g,0,none⟩=false ∧ w.frozen? ⟨g,1,none⟩=false ∧ w.frozen? ⟨g,2,none⟩=false ∧ w.frozen? ⟨g,3,none⟩=false ∧ w.frozen? ⟨g,4,none⟩=false ∧ w.frozen? ⟨g,5,none⟩=false ∧ w.frozen? ⟨g,6,none⟩=false ∧ w.frozen? ⟨g,7,none⟩=false:=
  ⟨froz_at h 0,froz_at h 1,froz_at h 2,froz_at h 3,froz_at h 4,froz_at h 5,froz_at h 6,froz_at h 7⟩
theorem fr12 {w:World} {g:Nat} {c:Array Value} {T:TypeId} (h:w.heap[g]?=some (.cells c T (0,0))):w.frozen? ⟨g,0,none⟩=false ∧ w.frozen? ⟨g,1,none⟩=false ∧ w.frozen? ⟨g,2,none⟩=false ∧ w.frozen? ⟨g,3,none⟩=false ∧ w.frozen? ⟨g,4,none⟩=false ∧ w.frozen? ⟨g,5,none⟩=false ∧ w.frozen? ⟨g,6,none⟩=false ∧ w.frozen? ⟨g,7,none⟩=false ∧ w.frozen? ⟨g,8,none⟩=false ∧ w.frozen? ⟨g,9,none⟩=false ∧ w.frozen? ⟨g,10,none⟩=false ∧ w.frozen? ⟨g,11,none⟩=false:=
  ⟨froz_at h 0,froz_at h 1,froz_at h 2,froz_at h 3,froz_at h 4,froz_at h 5,froz_at h 6,froz_at h 7,froz_at h 8,froz_at h 9,froz_at h 10,froz_at h 11⟩
theorem fr13 {w:World} {g:Nat} {c:Array Value} {T:TypeId} (h:w.heap[g]?=some (.cells c T (0,0))):w.frozen? ⟨g,0,none⟩=false ∧ w.frozen? ⟨g,1,none⟩=false ∧ w.frozen? ⟨g,2,none⟩=false ∧ w.frozen? ⟨g,3,none⟩=false ∧ w.frozen? ⟨g,4,none⟩=false ∧ w.frozen? ⟨g,5,none⟩=false ∧ w.frozen? ⟨g,6,none⟩=false ∧ w.frozen? ⟨g,7,none⟩=false ∧ w.frozen? ⟨g,8,none⟩=false ∧ w.frozen? ⟨g,9,none⟩=false ∧ w.frozen? ⟨g,10,none⟩=false ∧ w.frozen? ⟨g,11,none⟩=false ∧ w.frozen? ⟨g,12,none⟩=false:=
  ⟨froz_at h 0,froz_at h 1,froz_at h 2,froz_at h 3,froz_at h 4,froz_at h 5,froz_at h 6,froz_at h 7,froz_at h 8,froz_at h 9,froz_at h 10,froz_at h 11,froz_at h 12⟩
theorem fr25 {w:World} {g:Nat} {c:Array Value} {T:TypeId} (h:w.heap[g]?=some (.cells c T (0,0))):w.frozen? ⟨g,0,none⟩=false ∧ w.frozen? ⟨g,1,none⟩=false ∧ w.frozen? ⟨g,2,none⟩=false ∧ w.frozen? ⟨g,3,none⟩=false ∧ w.frozen? ⟨g,4,none⟩=false ∧ w.frozen? ⟨g,5,none⟩=false ∧ w.frozen? ⟨g,6,none⟩=false ∧ w.frozen? ⟨g,7,none⟩=false ∧ w.frozen? ⟨g,8,none⟩=false ∧ w.frozen? ⟨g,9,none⟩=false ∧ w.frozen? ⟨g,10,none⟩=false ∧ w.frozen? ⟨g,11,none⟩=false ∧ w.frozen? ⟨g,12,none⟩=false ∧ w.frozen? ⟨g,13,none⟩=false ∧ w.frozen? ⟨g,14,none⟩=false ∧ w.frozen? ⟨g,15,none⟩=false ∧ w.frozen? ⟨g,16,none⟩=false ∧ w.frozen? ⟨g,17,none⟩=false ∧ w.frozen? ⟨g,18,none⟩=false ∧ w.frozen? ⟨g,19,none⟩=false ∧ w.frozen? ⟨g,20,none⟩=false ∧ w.frozen? ⟨g,21,none⟩=false ∧ w.frozen? ⟨g,22,none⟩=false ∧ w.frozen? ⟨g,23,none⟩=false ∧ w.frozen? ⟨g,24,none⟩=false:=
  ⟨froz_at h 0,froz_at h 1,froz_at h 2,froz_at h 3,froz_at h 4,froz_at h 5,froz_at h 6,froz_at h 7,froz_at h 8,froz_at h 9,froz_at h 10,froz_at h 11,froz_at h 12,froz_at h 13,froz_at h 14,froz_at h 15,froz_at h 16,froz_at h 17,froz_at h 18,froz_at h 19,froz_at h 20,froz_at h 21,froz_at h 22,froz_at h 23,froz_at h 24⟩
theorem next_bad (g:Nat) (l:Bs) (p:Nat × Nat) (w:World) (c:Nat) (hR:Rd w g l p) (hl:l.length<=20000) (h1:p.1<=900000) (h2:p.2<=900000) (hm:meas (l.drop (gapL false l))=.bad c) :
  Calls Tryz.prog 61 #[.pointer (some ⟨g,0,none⟩)] w fun e w'=>∃ q,e=.returned (.tuple #[.agg #[.int .i64 0,.string ⟨#[]⟩,.int .i64 0,.int .i64 0],.iface 111 (.pointer (some ⟨q,0,none⟩))]) /\
   AtB w' q (adv p (l.take (gapL false l))) (.iface 77 (.int .i64 (c:Nat)))/\w.heap.size<=q/\w.grownBy w' (some g):=by
 have hg:=gap_le false l;have hb:=adv_bd p (l.take (gapL false l));have hlt:(l.take (gapL false l)).length<=20000:=by rw[List.length_take];omega
 obtain⟨n,hn⟩:∃ n,n=gapL false l:=⟨_,rfl⟩
 have hbl:=fun w=>blanks_any l w (by omega)
 rw[<-hn] at hg hb hm hbl hlt ⊢;obtain⟨q,hq⟩:∃ q,q=adv p (l.take n):=⟨_,rfl⟩
 rw[<-hq] at hb ⊢;have hq1:q.1<=1000000:=by omega
 have hq2:q.2<=1000000:=by omega
 have HQ:=h_ hq;clear hq hb hlt;have HBl:=h_ hbl;have HM:=h_ hm;have HR:=h_ hR;clear hn hbl hm;have c0:=cell_at hR 0 rfl;have ca:=World.cell?_alloc_lt w (.cells #[.int .i64 0,.string ⟨#[]⟩,.int .i64 0,.int .i64 0] 97) ⟨g,0,none⟩ hR.lt;clear hR;go_enter Tryz.func61,Tryz.ntmps61
 go_wp2_with fail
 refine (HBl.out _).mono ?_;rintro e w' ⟨rfl,rfl⟩;go_wp2_with fail
 clear c0 ca;obtain⟨w0,hw0⟩:∃ w0,w0=w.alloc (.cells #[.int .i64 0,.string ⟨#[]⟩,.int .i64 0,.int .i64 0] 97):=⟨_,rfl⟩
 have hR0:Rd w0 g l p:=by rw[hw0];exact HR.out.alloc _
 have hG0:w.grownBy w0 (some g):=by rw[hw0];exact alloc_grown _ _ _
 have hT0:w0.heap[w.heap.size]?=some (.cells #[.int .i64 0,.string ⟨#[]⟩,.int .i64 0,.int .i64 0] 97 (0,0)):=by rw[hw0];exact made_at w _ _ rfl
 rw[<-hw0];clear hw0;have hgl:=HR.out.lt;refine (skip_any g l p n w0 hR0 hg hl (by omega) (by omega)).mono ?_;rintro e w1 ⟨rfl,hR1,hG1⟩
 have hT1:w1.heap[w.heap.size]?=some (.cells #[.int .i64 0,.string ⟨#[]⟩,.int .i64 0,.int .i64 0] 97 (0,0)):=by
  rw[hG1.block _ (lt_of_block hT0) (fun e=>by injection e with e;omega)];exact hT0
 have HG:=h_ (grown_tr hG0 hG1);have hsz1:w.heap.size<w1.heap.size:=lt_of_block hT1;have HT:=h_ hT1;rw[<-HQ.out] at hR1;have HR1:=h_ hR1;have c0:=cell_at HR1.out 0 rfl;clear hT1 hR1 hG1 hT0 hG0 hR0;go_wp2_with fail
 refine (measure_any (l.drop n) (by rw[List.length_drop];omega) w1).mono ?_;rw[HM.out];rintro e wx ⟨rfl,hx⟩;obtain rfl:=hx.symm;clear hx;simp only[mres];go_wp2_with fail
 refine (fault_any g (l.drop n) q c w1 HR1.out).mono ?_;rintro e w2 ⟨a,rfl,hA,ha,hb2⟩;have hT2:w2.heap[w.heap.size]?=some (.cells #[.int .i64 0,.string ⟨#[]⟩,.int .i64 0,.int .i64 0] 97 (0,0)):=by rw[hb2.block _ hsz1];exact HT.out
 have t0:=cell_at hT2 0 rfl;have t1:=cell_at hT2 1 rfl;have t2:=cell_at hT2 2 rfl;have t3:=cell_at hT2 3 rfl;have f0:=froz_at hT2 0;have f1:=froz_at hT2 1;have f2:=froz_at hT2 2;have f3:=froz_at hT2 3;have HT2:=h_ hT2;have HA:=h_ hA;have HB2:=h_ hb2;clear hT2 hA hb2 c0;go_wp2_with fail
 refine bodyPost_ret (v:=.tuple #[.agg #[.int .i64 0,.string ⟨#[]⟩,.int .i64 0,.int .i64 0],.iface 111 (.pointer (some ⟨a,0,none⟩))]) (by simp[results,Tryz.results61,go_sem,t0,t1,t2,t3]) rfl ⟨a,rfl,?_,by omega,?_⟩
 ·have:=HA.out;unfold AtB at this ⊢;rw[other4 _ _ _ _ _ _ (by omega)];exact this
 exact grown_new (grown_tr HG.out (below_grown HB2.out _)) (grown4 _ _ _ _ _ _) (Nat.le_refl _)
theorem next_ok (g:Nat) (l:Bs) (p:Nat × Nat) (w:World) (k m:Nat) (hR:Rd w g l p) (hl:l.length<=20000) (h1:p.1<=900000) (h2:p.2<=900000) (hm:meas (l.drop (gapL false l))=.ok k m) (hm2:m<=(l.drop (gapL false l)).length) :
  Calls Tryz.prog 61 #[.pointer (some ⟨g,0,none⟩)] w fun e w'=>e=.returned (.tuple #[.agg #[.int .i64 (k:Nat),.string ⟨((l.drop (gapL false l)).take m).toArray⟩,.int .i64 ((adv p (l.take (gapL false l))).1:Nat),.int .i64 ((adv p (l.take (gapL false l))).2:Nat)],.nilIface]) /\
   Rd w' g ((l.drop (gapL false l)).drop m) (adv (adv p (l.take (gapL false l))) ((l.drop (gapL false l)).take m))/\w.grownBy w' (some g):=by
 have hg:=gap_le false l;have hb:=adv_bd p (l.take (gapL false l));have hlt:(l.take (gapL false l)).length<=20000:=by rw[List.length_take];omega
 obtain⟨n,hn⟩:∃ n,n=gapL false l:=⟨_,rfl⟩
 have hbl:=fun w=>blanks_any l w (by omega)
 rw[<-hn] at hg hb hm hm2 hbl hlt ⊢;obtain⟨q,hq⟩:∃ q,q=adv p (l.take n):=⟨_,rfl⟩
 rw[<-hq] at hb ⊢;have hq1:q.1<=1000000:=by omega
 have hq2:q.2<=1000000:=by omega
 have HQ:=h_ hq;clear hq hb hlt;have HBl:=h_ hbl;have HM:=h_ hm;obtain⟨s1,hs1⟩:∃ s1,s1=l.drop n:=⟨_,rfl⟩
 have hl1:s1.length<=20000:=by rw[hs1,List.length_drop];omega
 rw[<-hs1] at hm2 ⊢;have HS1:=h_ hs1;clear hs1;have HR:=h_ hR;clear hn hbl hm;have c0:=cell_at hR 0 rfl;have ca:=World.cell?_alloc_lt w (.cells #[.int .i64 0,.string ⟨#[]⟩,.int .i64 0,.int .i64 0] 97) ⟨g,0,none⟩ hR.lt;clear hR;go_enter Tryz.func61,Tryz.ntmps61
 go_wp2_with fail
 refine (HBl.out _).mono ?_;rintro e w' ⟨rfl,rfl⟩;go_wp2_with fail
 clear c0 ca;obtain⟨w0,hw0⟩:∃ w0,w0=w.alloc (.cells #[.int .i64 0,.string ⟨#[]⟩,.int .i64 0,.int .i64 0] 97):=⟨_,rfl⟩
 have hR0:Rd w0 g l p:=by rw[hw0];exact HR.out.alloc _
 have hG0:w.grownBy w0 (some g):=by rw[hw0];exact alloc_grown _ _ _
 have hT0:w0.heap[w.heap.size]?=some (.cells #[.int .i64 0,.string ⟨#[]⟩,.int .i64 0,.int .i64 0] 97 (0,0)):=by rw[hw0];exact made_at w _ _ rfl
 rw[<-hw0];clear hw0;have hgl:=HR.out.lt;refine (skip_any g l p n w0 hR0 hg hl (by omega) (by omega)).mono ?_;rintro e w1 ⟨rfl,hR1,hG1⟩
 have hT1:w1.heap[w.heap.size]?=some (.cells #[.int .i64 0,.string ⟨#[]⟩,.int .i64 0,.int .i64 0] 97 (0,0)):=by
  rw[hG1.block _ (lt_of_block hT0) (fun e=>by injection e with e;omega)];exact hT0
 have HG:=h_ (grown_tr hG0 hG1);have hsz1:w.heap.size<w1.heap.size:=lt_of_block hT1;have HT:=h_ hT1;rw[<-HQ.out,<-HS1.out] at hR1;have HR1:=h_ hR1;have c0:=cell_at HR1.out 0 rfl;clear hT1 hR1 hG1 hT0 hG0 hR0;go_wp2_with fail
 refine (measure_any s1 (by omega) w1).mono ?_;rw[HS1.out,HM.out,<-HS1.out];rintro e wx ⟨rfl,hx⟩;obtain rfl:=hx.symm;clear hx;simp only[mres];go_wp2_with fail
 rw[extract_take];refine (clone_any (s1.take m) (by rw[List.length_take];omega) w1).mono ?_;rintro e w2 ⟨rfl,hb2⟩;have hT2:w2.heap[w.heap.size]?=some (.cells #[.int .i64 0,.string ⟨#[]⟩,.int .i64 0,.int .i64 0] 97 (0,0)):=by rw[hb2.block _ hsz1];exact HT.out
 have hR2:Rd w2 g s1 q:=HR1.out.below hb2;have hG2:=grown_tr HG.out (below_grown hb2 (some g));have hsz2:w.heap.size<w2.heap.size:=lt_of_block hT2;clear c0 hb2;have c1:=cell_at hR2 1 rfl;have c2:=cell_at hR2 2 rfl;have HT2:=h_ hT2;have HR2:=h_ hR2;have HG2:=h_ hG2;have hgl2:=hR2.lt;clear hT2 hR2 hG2;go_wp2_with fail
 go_region_held3 (fun w'=>w'.cell? ⟨g,1,none⟩=some (.int .i64 (q.1:Nat))/\w'.cell? ⟨g,2,none⟩=some (.int .i64 (q.2:Nat))) (go_keep) (fail)
 rename_i hHeld
 clear hHeld c1 c2;obtain⟨w3,hw3⟩:∃ w3,w3=(w2.alloc (.cells #[.int .i64 (k:Nat),.string ⟨(s1.take m).toArray⟩,.int .i64 (q.1:Nat),.int .i64 (q.2:Nat)] 97)).drew:=⟨_,rfl⟩
 rw[<-hw3];have hb3:Below w2.heap.size w2 w3:=by rw[hw3];exact ((Below.refl _ _).alloc (Nat.le_refl _) _).drew
 have hK3:w3.heap[w2.heap.size]?=some (.cells #[.int .i64 (k:Nat),.string ⟨(s1.take m).toArray⟩,.int .i64 (q.1:Nat),.int .i64 (q.2:Nat)] 97 (0,0)):=by rw[hw3];exact made_at w2 _ _ rfl
 have hT3:=(hb3.block _ hsz2).trans HT2.out;have hR3:Rd w3 g s1 q:=HR2.out.below hb3;have hG3:=grown_tr HG2.out (below_grown hb3 (some g));have hsz3:w2.heap.size<w3.heap.size:=lt_of_block hK3;have HR3:=h_ hR3;have HT3:=h_ hT3;have HK3:=h_ hK3;have HG3:=h_ hG3;clear hw3 hb3 hK3 hT3 hR3 hG3;go_wp2_with fail
 refine (skip_any g s1 q m w3 HR3.out hm2 hl1 hq1 hq2).mono ?_;rintro e w4 ⟨rfl,hR4,hG4⟩;have hK4:=(hG4.block _ hsz3 (fun e=>by injection e with e;omega)).trans HK3.out;have hT4:=(hG4.block w.heap.size (by omega) (fun e=>by injection e with e;omega)).trans HT3.out;have HR4:=h_ hR4;have HG4:=h_ (grown_tr HG3.out hG4);have t0:=cell_at hT4 0 rfl;have t1:=cell_at hT4 1 rfl;have t2:=cell_at hT4 2 rfl;have t3:=cell_at hT4 3 rfl;have f0:=froz_at hT4 0;have f1:=froz_at hT4 1;have f2:=froz_at hT4 2;have f3:=froz_at hT4 3;have k0:=cell_at hK4 0 rfl;have k1:=cell_at hK4 1 rfl;have k2:=cell_at hK4 2 rfl;have k3:=cell_at hK4 3 rfl;have HT4:=h_ hT4;clear hK4 hT4 hR4 hG4;go_wp2_with fail
 refine bodyPost_ret (v:=.tuple #[.agg #[.int .i64 (k:Nat),.string ⟨(s1.take m).toArray⟩,.int .i64 (q.1:Nat),.int .i64 (q.2:Nat)],.nilIface]) (by simp[results,Tryz.results61,go_sem,t0,t1,t2,t3]) rfl ⟨rfl,?_,?_⟩
 ·have:=HR4.out;unfold Rd at this ⊢;rw[other4 _ _ _ _ _ _ (by omega)];exact this
 exact grown_new HG4.out (grown4 _ _ _ _ _ _) (Nat.le_refl _)
def tokCells (t:Tok):List Value:=[.int .i64 (t.kind:Nat),.string ⟨t.text.toArray⟩,.int .i64 (t.line:Nat),.int .i64 (t.col:Nat)]
def Tk (w:World) (base:Nat) (e:TypeId) (v:Value) (ts:List Tok):Prop:=w.ownsRow base e 4 v ts.length (ts.flatMap tokCells)
theorem tok_at (ts:List Tok) (k j:Nat) (hk:k<ts.length) (hj:j<4):(ts.flatMap tokCells)[k*4+j]?=(tokCells ts[k])[j]?:=by
 induction ts generalizing k with
 | nil=>simp at hk
 | cons t ts ih =>
  have hl:(tokCells t).length=4:=rfl
  cases k with
  | zero=>simp only[List.flatMap_cons,List.getElem_cons_zero];rw[List.getElem?_append_left (by omega)];simp
  | succ k =>
   simp only[List.flatMap_cons,List.getElem_cons_succ];rw[List.getElem?_append_right (by omega),<-ih k (by simpa using hk),hl]
   congr 1;omega
theorem Tk.nil (w:World) (base:Nat) (e:TypeId):Tk w base e (.slice none 0 0) []:=World.ownsRow_nil w base e 4
theorem Tk.form {w:World} {base:Nat} {e:TypeId} {v:Value} {ts:List Tok} (h:Tk w base e v ts):∃ a cap,v=.slice a ts.length cap/\ts.length<=cap/\cap<=maxLen/\(ts ≠ []->∃ g,a=some ⟨g,0,none⟩/\base<=g/\g<w.heap.size/\∀ k (hk:k<ts.length),w.cell? ⟨g,k*4,none⟩=some (.int .i64 (ts[k].kind:Nat))/\w.cell? ⟨g,k*4+1,none⟩=some (.string ⟨ts[k].text.toArray⟩)/\w.cell? ⟨g,k*4+2,none⟩=some (.int .i64 (ts[k].line:Nat))/\w.cell? ⟨g,k*4+3,none⟩=some (.int .i64 (ts[k].col:Nat))):=by
 have h0:=h;rcases h.2 with ⟨rfl,hn⟩ | ⟨g,cap,cur,rfl,hb,hg,hn,hm,hs,ht⟩
 ·refine⟨none,0,by rw[hn],by omega,Nat.zero_le _,fun hne=>absurd (List.eq_nil_of_length_eq_zero hn) hne⟩
 refine⟨some ⟨g,0,none⟩,cap,rfl,hn,hm,fun _=>⟨g,rfl,hb,lt_of_block hg,fun k hk=>?_⟩⟩
 have hc:∀ j,j<4->w.cell? ⟨g,k*4+j,none⟩=(tokCells ts[k])[j]?:=fun j hj=>by
  rw[World.ownsRow.cellAt h0 (k*4+j) (by omega),tok_at ts k j hk hj]
 exact⟨hc 0 (by omega),hc 1 (by omega),hc 2 (by omega),hc 3 (by omega)⟩
theorem Tk.lt {w:World} {base:Nat} {e:TypeId} {v:Value} {ts:List Tok} (h:Tk w base e v ts):∀ j,v.ownBlock=some j->base<=j/\j<w.heap.size:=fun j hj=>World.ownsRow.lt h j hj
theorem Tk.below {w w':World} {base:Nat} {e:TypeId} {v:Value} {ts:List Tok} (h:Tk w base e v ts) (hb:Below w.heap.size w w'):Tk w' base e v ts:=
 World.ownsRow.kept h (below_grown hb none) (by cases hv:v.ownBlock with | none=>exact .inl rfl | some g=>exact .inr (show some g≠none by simp))
theorem Tk.grown {w w':World} {base g:Nat} {e:TypeId} {v:Value} {ts:List Tok} (h:Tk w base e v ts) (hg:w.grownBy w' (some g)) (hlt:g<base):Tk w' base e v ts:=
 World.ownsRow.kept h hg (by cases hv:v.ownBlock with | none=>exact .inl rfl | some j=>refine .inr (fun e=>?_);injection e with e;have:=(h.lt j hv).1;omega)
theorem wpList_append_tok {P:Program} (w:World) {ops:Array Oper} {rest:List Oper} {o:Oper} {a:Act} {Q:Exit->Act->World->Prop} (hgd:o.guard=none) (s x:Operand) (t:TypeId)
  (ho:o.op=.call { callee:=.builtin .append,args:=#[s,x],argTypes:=#[t,t] })
  (e:TypeId) (ht:P.underlying t=some (.slice e)) (hinfo:(P.info? e).map (fun i=>(i.zero,i.size,i.bytes))=some (some (.agg #[.int .i64 0,.string ⟨#[]⟩,.int .i64 0,.int .i64 0]),4,40))
  (base:Nat) (v:Value) (ts:List Tok) (hs:a.eval s=v) (hown:Tk w base e v ts)
  (h:Nat) (T:TypeId) (tk:Tok) (hx:a.eval x=.slice (some ⟨h,0,none⟩) 1 1) (hc:w.heap[h]?=some (.cells (tokCells tk).toArray T (0,0)))
  (hlen:ts.length<=1000000000) (hbase:base<=w.heap.size)
  (hK:∀ v' w',Tk w' base e v' (ts++[tk])->w.grownBy w' v.ownBlock->wpList P ops Q rest (a.put o.dst v') w'):wpList P ops Q (o::rest) a w:=by
 obtain⟨i,hi,hz,hz1,hz2⟩:=info_parts hinfo;refine wpList_append_own w hgd s x t ho base e i _ 4 40 ht hi hz hz1 hz2 rfl (by decide) v ts.length _ hs hown ⟨h,0,none⟩ 1 1 (tokCells tk) hx rfl ?_ ?_ (by unfold maxLen;omega) (by omega) hbase ?_
 ·intro j u hj;exact World.news_of_block hc j u (by simpa using hj)
 ·intro u hu;simp only[tokCells,List.mem_cons,List.not_mem_nil,or_false] at hu;rcases hu with rfl | rfl | rfl | rfl<;>rfl
 intro v' w' h1 h2 _;refine hK v' w' ?_ h2;unfold Tk;rw[List.flatMap_append,lsa]
 simpa [List.flatMap_cons] using h1
theorem infoTok:(Tryz.prog.info? 97).map (fun i=>(i.zero,i.size,i.bytes))=some (some (.agg #[.int .i64 0,.string ⟨#[]⟩,.int .i64 0,.int .i64 0]),4,40):=by kernel_rfl
def LexPost (l:Bs) (w0:World) (e:Ending) (w':World):Prop:=
 Below w0.heap.size w0 w' /\
 (((lexS l (1,1)).2=0/\∃ v,e=.returned (.tuple #[v,.nilIface])/\Tk w' (w0.heap.size+1) 97 v (lexS l (1,1)).1) \/
  ((lexS l (1,1)).2≠0/\∃ q t,(lexS l (1,1)).1.getLast?=some t/\e=.returned (.tuple #[.slice none 0 0,.iface 111 (.pointer (some ⟨q,0,none⟩))])/\AtB w' q (t.line,t.col) (.iface 77 (.int .i64 ((lexS l (1,1)).2:Nat)))/\w0.heap.size<=q))
theorem grown_belowR {w w':World} {B:Nat} {row:Option Nat} (h:w.grownBy w' row) (hB:B<=w.heap.size) (hr:∀ j,row=some j->B<=j):Below B w w':=
 ⟨h.os,h.tape,h.output,h.size,fun k hk=>h.block k (by omega) (fun e=>by have:=hr k e.symm;omega)⟩
def restLen (w:World) (g:Nat):Nat:=match w.cell? ⟨g,0,none⟩ with | some (.string b)=>b.size | _=>0
theorem Rd.len {w:World} {g:Nat} {l:Bs} {p:Nat × Nat} (h:Rd w g l p):restLen w g=l.length:=by
 unfold restLen;rw[cell_at h 0 rfl];rfl
def LexInv (l:Bs) (w0:World) (tv:Value) (wr:World):Prop:=
 ∃ (ts:List Tok) (s:Bs) (p:Nat × Nat),Rd wr w0.heap.size s p/\Tk wr (w0.heap.size+1) 97 tv ts/\ts++(lexS s p).1=(lexS l (1,1)).1/\(lexS s p).2=(lexS l (1,1)).2 /\
  s.length+ts.length<=l.length/\(∃ pre,pre++s=l/\p=adv (1,1) pre)/\Below w0.heap.size w0 wr
theorem lex_any (l:Bs) (w0:World) (hl:l.length<=20000) :
  Calls Tryz.prog 32 #[.string ⟨l.toArray⟩] w0 (LexPost l w0):=by
 have hsz:(⟨l.toArray⟩:ByteArray).size=l.length:=rfl;have hd:decide ((20000:Int)<(l.length:Int))=false:=by simp;omega
 go_enter Tryz.func32,Tryz.ntmps32
 go_wp2_with fail
 go_loopw [5] (fun tv wr=>LexInv l w0 tv wr) (fun _ wr=>restLen wr w0.heap.size)
 case atStart =>
  exact⟨[],l,(1,1),made_at w0 _ _ rfl,Tk.nil _ _ _,rfl,rfl,by simp,⟨[],rfl,rfl⟩,(Below.refl _ _).alloc (Nat.le_refl _) _⟩
 case round =>
  obtain⟨ts,s,p,hR,hT,he1,he2,hlen,⟨pre,hpre,hp⟩,hb⟩:=hrel;have hpl:pre.length+s.length=l.length:=by rw[<-hpre,lsa]
  have hpb:=adv_bd (1,1) pre;rw[<-hp] at hpb;have hp1:p.1<=900000:=by simp only at hpb;omega
  have hp2:p.2<=900000:=by simp only at hpb;omega
  have hsl:s.length<=20000:=by omega
  have htl:ts.length<=20000:=by omega
  have hz0:=hb.size;have HR:=h_ hR;have HT:=h_ hT;have HE1:=h_ he1;have HE2:=h_ he2;have HP:=h_ hpre;have HPP:=h_ hp;have HBw:=h_ hb;have HLn:=h_ hlen;clear hR hT he1 he2 hpre hp hb hpl hpb hlen
  by_cases hs:∃ c,s.drop (gapL false s) ≠ []/\meas (s.drop (gapL false s))=.bad c
  ·obtain⟨c,hs1,hs2⟩:=hs;have HX:=h_ (lex_bad (p:=p) hs1 hs2);have HS:=h_ hs2;have hc:=meas_bad hs2;clear hs1 hs2;go_wp2_with fail
   refine (next_bad w0.heap.size s p wr c HR.out hsl hp1 hp2 HS.out).mono ?_;rintro e w2 ⟨q,rfl,hA,hq,hG⟩;have HA:=h_ hA;have HG:=h_ hG;clear hA hG
   go_wp2
   go_ret2
   have h2:(lexS l (1,1)).2=c:=by rw[<-HE2.out,HX.out]
   have h1:(lexS l (1,1)).1.getLast?=some ⟨4,[],(adv p (s.take (gapL false s))).1,(adv p (s.take (gapL false s))).2⟩:=by rw[<-HE1.out,HX.out];simp
   refine⟨(HBw.out.trans (grown_below HG.out hz0 (Nat.le_refl _))).alloc (by have:=HG.out.size;omega) _,.inr ⟨by rw[h2];omega,q,_,h1,rfl,?_,by omega⟩⟩;rw[h2];have:=HA.out;unfold AtB at this ⊢;rw[Below.heap_alloc w2 _ q (lt_of_block this)];exact this
  obtain⟨k,m,hm,hml⟩:∃ k m,meas (s.drop (gapL false s))=.ok k m/\m<=(s.drop (gapL false s)).length:=by
   by_cases h0:s.drop (gapL false s)=[]
   ·exact⟨4,0,by rw[h0];rfl,Nat.zero_le _⟩
   cases hmm:meas (s.drop (gapL false s)) with
   | ok k m=>exact⟨k,m,rfl,(meas_ok h0 hmm).2.2.1⟩
   | bad c=>exact absurd ⟨c,h0,hmm⟩ hs
  have hN:=next_ok w0.heap.size s p wr k m HR.out hsl hp1 hp2 hm hml;obtain⟨s1,hs1⟩:∃ s1,s1=s.drop (gapL false s):=⟨_,rfl⟩
  obtain⟨q,hq⟩:∃ q,q=adv p (s.take (gapL false s)):=⟨_,rfl⟩
  have hX:k=4->m=0->s1=[]->lexS s p=([⟨4,[],q.1,q.2⟩],0):=fun _ _ h0=>by
   rw[lex_end (by rw[<-hs1];exact h0),hq,List.take_of_length_le (List.drop_eq_nil_iff.1 (by rw[<-hs1];exact h0))]
  have hY:s1 ≠ []->lexS s p=(⟨k,s1.take m,q.1,q.2⟩::(lexS (s1.drop m) (adv q (s1.take m))).1,(lexS (s1.drop m) (adv q (s1.take m))).2):=fun h0=>by
   rw[lex_tok (k:=k) (n:=m) (by rw[<-hs1];exact h0) hm,<-hs1,<-hq]
  have hs1l:s1.length<=s.length:=by rw[hs1,List.length_drop];omega
  have hq1:q=adv (1,1) (pre++s.take (gapL false s)):=by rw[adv_app,<-HPP.out];exact hq
  have hpre1:(pre++s.take (gapL false s))++s1=l:=by rw[hs1,List.append_assoc,List.take_append_drop];exact HP.out
  rw[<-hs1,<-hq] at hN;rw[<-hs1] at hm hml;have HN:=h_ hN;have HM:=h_ hm;have HX:=h_ hX;have HY:=h_ hY;have HQ1:=h_ hq1;have HPR:=h_ hpre1
  have hk4:(k=4/\m=0/\s1=[])\/(k<4/\1<=m/\s1 ≠ []):=by
   by_cases h0:s1=[]
   ·rw[h0] at hm;injection hm with e1 e2;exact .inl ⟨e1.symm,e2.symm,h0⟩
   have:=meas_ok h0 hm;exact .inr ⟨this.1,this.2.1,h0⟩
  clear hs hm hN hX hY hs1 hq hq1 hpre1;go_wp2_with fail
  refine HN.out.mono ?_;rintro e w2 ⟨rfl,hR2,hG⟩;have hT2:=HT.out.grown hG (Nat.lt_succ_self _);have HR2:=h_ hR2;have HG:=h_ hG;have hz2:wr.heap.size<=w2.heap.size:=hG.size;have hlow:=hT2.lt;obtain⟨W,hW⟩:∃ W,W=(w2.alloc (.cells #[.int .i64 (k:Nat),.string ⟨(s1.take m).toArray⟩,.int .i64 (q.1:Nat),.int .i64 (q.2:Nat)] 97)).alloc (.cells #[.int .i64 (k:Nat),.string ⟨(s1.take m).toArray⟩,.int .i64 (q.1:Nat),.int .i64 (q.2:Nat)] 97):=⟨_,rfl⟩
  have hbW:Below w2.heap.size w2 W:=by rw[hW];exact ((Below.refl _ _).alloc (Nat.le_refl _) _).alloc (by simp) _
  have hTW:=hT2.below hbW
  have hLW:W.heap[w2.heap.size]?=some (.cells #[.int .i64 (k:Nat),.string ⟨(s1.take m).toArray⟩,.int .i64 (q.1:Nat),.int .i64 (q.2:Nat)] 97 (0,0)):=by
   rw[hW,Below.heap_alloc _ _ _ (by simp)];exact made_at w2 _ _ rfl
  have hNW:W.heap[w2.heap.size+1]?=some (.cells (tokCells ⟨k,s1.take m,q.1,q.2⟩).toArray 97 (0,0)):=by
   rw[hW];exact made_at _ _ _ (by simp)
  have hF:∀ w5,W.grownBy w5 u5.ownBlock->w5.cell? ⟨w2.heap.size,0,none⟩=some (.int .i64 (k:Nat)):=fun w5 h5 =>
   (World.cell?_of_block (h5.block _ (lt_of_block hLW) (fun e=>absurd (hlow _ e.symm).2 (Nat.lt_irrefl _)))).trans (cell_at hLW 0 rfl)
  have hB5:∀ w5,W.grownBy w5 u5.ownBlock->Below w0.heap.size w0 w5:=fun w5 h5 =>
   ((HBw.out.trans (grown_below hG hz0 (Nat.le_refl _))).trans (hbW.mono (by omega))).trans (grown_belowR h5 (by have:=hbW.size;omega) (fun j hj=>by have:=(hlow j hj).1;omega))
  have hR5:∀ w5,W.grownBy w5 u5.ownBlock->Rd w5 w0.heap.size (s1.drop m) (adv q (s1.take m)):=fun w5 h5=>by
   have h:=hR2.below hbW;unfold Rd at h ⊢;rw[h5.block _ (lt_of_block h) (fun e=>by have:=(hlow _ e.symm).1;omega)];exact h
  rw[hW] at hTW hNW hF hB5 hR5;have HB5:=h_ hB5;have HR5:=h_ hR5;have HTW:=h_ hTW;have HNW:=h_ hNW;have HF:=h_ hF;have HW:=h_ hW;have HbW:=h_ hbW;have HT2:=h_ hT2;have hbs:w0.heap.size+1<=w2.heap.size:=HR2.out.lt;clear hR2 hG hT2 hTW hNW hF hW hLW hbW hlow hB5 hR5;rcases hk4 with ⟨rfl,hm0,h0⟩ | ⟨hk4,hm1,h0⟩
  ·have H0:=h_ h0;have HM0:=h_ hm0;clear h0 hm0;go_wp2_with (at_builtin;refine wpList_append_tok _ rfl (.tmp 22) (.tmp 24) 89 rfl 97 Tryz.underlying89 infoTok (w0.heap.size+1) u5 ts rfl HTW.out (w2.heap.size+1) 97 ⟨4,s1.take m,q.1,q.2⟩ rfl HNW.out (by omega) (by simp;omega) ?_;intro v' w5 hT5 hG5;have k0:=HF.out w5 hG5;have HT5:=h_ hT5;have HG5:=h_ hG5;clear hT5 hG5)
   go_ret2
   have hx:=HX.out (by trivial) HM0.out H0.out;have hT5:=HT5.out;rw[H0.out,List.take_nil] at hT5;refine⟨HB5.out w5 HG5.out,.inl ⟨by rw[<-HE2.out,hx],v',rfl,?_⟩⟩;rw[<-HE1.out,hx];exact hT5
  have hk:((k:Int)==4)=false:=by rw[beq_eq_false_iff_ne];omega
  have H0:=h_ h0;clear h0;go_wp2_with (at_builtin;refine wpList_append_tok _ rfl (.tmp 22) (.tmp 24) 89 rfl 97 Tryz.underlying89 infoTok (w0.heap.size+1) u5 ts rfl HTW.out (w2.heap.size+1) 97 ⟨k,s1.take m,q.1,q.2⟩ rfl HNW.out (by omega) (by simp;omega) ?_;intro v' w5 hT5 hG5;have k0:=HF.out w5 hG5;have HT5:=h_ hT5;have HG5:=h_ hG5;clear hT5 hG5)
  go_roundw
  case rel =>
   have hy:=HY.out H0.out;refine⟨ts++[⟨k,s1.take m,q.1,q.2⟩],s1.drop m,adv q (s1.take m),HR5.out w5 HG5.out,HT5.out,?_,?_,?_,⟨(pre++s.take (gapL false s))++s1.take m,?_,?_⟩,HB5.out w5 HG5.out⟩
   ·rw[<-HE1.out,hy];simp
   ·rw[<-HE2.out,hy]
   ·have:=HLn.out;simp only[lsa,List.length_drop,lsc,lsn];omega
   ·rw[List.append_assoc,List.take_append_drop];exact HPR.out
   rw[adv_app,<-HQ1.out]
  case measure=>rw[(HR5.out w5 HG5.out).len,HR.out.len,List.length_drop];omega
set_option linter.unusedVariables false
def tokV (t:Tok):Value:=.agg #[.int .i64 (t.kind:Nat),.string ⟨t.text.toArray⟩,.int .i64 (t.line:Nat),.int .i64 (t.col:Nat)]
def Toks (w:World) (b:Nat):Nat->List Tok->Prop
 | _,[]=>True
 | o,t::ts=>(w.cell? ⟨b,o,none⟩=some (.int .i64 (t.kind:Nat))/\w.cell? ⟨b,o+1,none⟩=some (.string ⟨t.text.toArray⟩)/\w.cell? ⟨b,o+2,none⟩=some (.int .i64 (t.line:Nat))/\w.cell? ⟨b,o+3,none⟩=some (.int .i64 (t.col:Nat)))/\Toks w b (o+4) ts
theorem Toks.keep {w w':World} {b:Nat} (hk:w'.heap[b]?=w.heap[b]?):∀ {o:Nat} {l:List Tok},Toks w b o l->Toks w' b o l
 | _,[],_=>trivial
 | o,t::ts,⟨⟨h0,h1,h2,h3⟩,h⟩=>by
  have e:∀ i,w'.cell? ⟨b,i,none⟩=w.cell? ⟨b,i,none⟩:=fun i=>World.cell?_of_block hk
  exact⟨⟨by rw[e];exact h0,by rw[e];exact h1,by rw[e];exact h2,by rw[e];exact h3⟩,h.keep hk⟩
theorem Toks.drop {w:World} {b:Nat}:∀ {o:Nat} {l:List Tok} (n:Nat),Toks w b o l->Toks w b (o+4*n) (l.drop n)
 | o,l,0,h=>h
 | o,[],n+1,h=>by simp[Toks]
 | o,t::ts,n+1,h=>by
  have:=Toks.drop n h.2;rw[show o+4*(n+1)=o+4+4*n by omega];exact this
def ErrAt (w:World) (g:Nat) (v:Value):Option (Nat × Nat × Nat)->Prop
 | none=>v=.nilIface
 | some (c,l,k)=>∃ q,v=.iface 111 (.pointer (some ⟨q,0,none⟩))/\AtB w q (l,k) (.iface 77 (.int .i64 (c:Nat)))/\q≠g
def PSA (w:World) (g:Nat) (s:St):Prop:=∃ b o c ev,w.heap[g]?=some (.cells #[.slice (some ⟨b,o,none⟩) s.rest.length c,ev] 93 (0,0))/\GoodL s.rest/\s.rest.length<=c/\c<=maxLen/\b<g/\b<w.heap.size/\Toks w b o s.rest/\ErrAt w g ev s.err
theorem ErrAt.keep {w w':World} {g:Nat} {v:Value} {x:Option (Nat × Nat × Nat)} (h:ErrAt w g v x) (hk:∀ q,q≠g->q<w.heap.size->w'.heap[q]?=w.heap[q]?):ErrAt w' g v x:=by
 match x,h with
 | none,h=>exact h
 | some (c,l,k),h =>
  obtain⟨q,h1,h2,h3⟩:=h;refine⟨q,h1,?_,h3⟩;unfold AtB at h2 ⊢;rw[hk q h3 (lt_of_block h2)];exact h2
theorem PSA.lt {w:World} {g:Nat} {s:St} (h:PSA w g s):g<w.heap.size:=by obtain⟨b,o,c,ev,h,-⟩:=h;exact lt_of_block h
theorem PSA.below {w w':World} {g:Nat} {s:St} (h:PSA w g s) (hb:Below w.heap.size w w'):PSA w' g s:=by
 obtain⟨b,o,c,ev,h1,h2,h3,h4,h5,h6,h7,h8⟩:=h;exact⟨b,o,c,ev,by rw[hb.block _ (lt_of_block h1)];exact h1,h2,h3,h4,h5,Nat.lt_of_lt_of_le h6 hb.size,h7.keep (hb.block _ h6),h8.keep fun q _ hq=>hb.block _ hq⟩
theorem PSA.good {w:World} {g:Nat} {s:St} (h:PSA w g s):GoodL s.rest:=by obtain⟨b,o,c,ev,h1,h2,-⟩:=h;exact h2
theorem PSA.cells {w:World} {g:Nat} {s:St} (h:PSA w g s):∃ b o c ev,w.heap[g]?=some (.cells #[.slice (some ⟨b,o,none⟩) s.rest.length c,ev] 93 (0,0))/\1<=s.rest.length/\s.rest.length<=c/\c<=maxLen/\b<g /\
  w.cell? ⟨b,o,none⟩=some (.int .i64 (s.nx.kind:Nat))/\w.cell? ⟨b,o+1,none⟩=some (.string ⟨s.nx.text.toArray⟩)/\w.cell? ⟨b,o+2,none⟩=some (.int .i64 (s.nx.line:Nat))/\w.cell? ⟨b,o+3,none⟩=some (.int .i64 (s.nx.col:Nat)) /\
  b<w.heap.size/\GoodL s.rest/\Toks w b o s.rest/\ErrAt w g ev s.err:=by
 obtain⟨b,o,c,ev,h1,h2,h3,h4,h5,h6,h7,h8⟩:=h;refine⟨b,o,c,ev,h1,List.length_pos_iff.2 h2.ne,h3,h4,h5,?_⟩;unfold St.nx;obtain⟨rest,err⟩:=s;simp only at h2 h7 h8 ⊢
 match rest,h2,h7 with
 | t::ts,h2,h7=>exact⟨h7.1.1,h7.1.2.1,h7.1.2.2.1,h7.1.2.2.2,h6,h2,h7,h8⟩
def PS (w:World) (g:Nat) (s:St):Prop:=PSA w g s/\s.rest.length<=30000
theorem PS.lt {w:World} {g:Nat} {s:St} (h:PS w g s):g<w.heap.size:=h.1.lt
theorem PS.below {w w':World} {g:Nat} {s:St} (h:PS w g s) (hb:Below w.heap.size w w'):PS w' g s:=⟨h.1.below hb,h.2⟩
theorem PS.good {w:World} {g:Nat} {s:St} (h:PS w g s):GoodL s.rest:=h.1.good
theorem len_tk (s:St):s.tk.rest.length<=s.rest.length:=by unfold St.tk;split<;>simp
theorem len_fail (s:St) (t:Tok) (c:Nat):(s.fail t c).rest.length<=s.rest.length:=by unfold St.fail;simp
theorem next_p (g:Nat) (s:St) (w:World) (h:PS w g s) :
  Calls Tryz.prog 36 #[.pointer (some ⟨g,0,none⟩)] w fun e w'=>e=.returned (tokV s.nx)/\Below w.heap.size w w':=by
 obtain⟨b,o,c,ev,h1,h2,h3,h4,h5,c0,c1,c2,c3,h6,h7,h8,h9⟩:=(h.below ((Below.refl _ _).alloc (Nat.le_refl _) (.cells #[.int .i64 0,.string ⟨#[]⟩,.int .i64 0,.int .i64 0] 97))).1.cells;have g0:=cell_at (v:=.slice (some ⟨b,o,none⟩) s.rest.length c) h1 0 rfl;unfold tokV;generalize s.nx=t at *;generalize s.rest.length=n at *;clear h1 h7 h8 h9 h;go_enter Tryz.func36,Tryz.ntmps36
 go_wp2
 exact bodyPost_ret (v:=.agg #[.int .i64 (t.kind:Nat),.string ⟨t.text.toArray⟩,.int .i64 (t.line:Nat),.int .i64 (t.col:Nat)]) (by simp[results,Tryz.results36,go_sem]) rfl ⟨rfl,(Below.refl _ _).alloc (Nat.le_refl _) _⟩
def Did (w:World) (g:Nat) (s:St) (w':World):Prop:=PS w' g s/\w.grownBy w' (some g)
theorem PSA.move {w':World} {g b o c:Nat} {ev:Value} {s:St} (hg:w'.heap[g]?=some (.cells #[.slice (some ⟨b,o+4,none⟩) (s.rest.length - 1) (c - 1),ev] 93 (0,0))) (hk:s.nx.kind≠4) (h2:GoodL s.rest) (h3:s.rest.length<=c) (h4:c<=maxLen) (h5:b<g) (h6:b<w'.heap.size) (h7:Toks w' b o s.rest) (h8:ErrAt w' g ev s.err):PSA w' g s.tk:=by
 have e:s.tk=⟨s.rest.drop 1,s.err⟩:=by unfold St.tk;rw[if_neg hk]
 rw[e];exact⟨b,o+4,c - 1,ev,by rw[hg];simp only[List.length_drop],h2.tail hk,by simp only[List.length_drop];omega,by omega,h5,h6,h7.drop 1,h8⟩
theorem Toks.below {w w':World} {b o:Nat} {l:List Tok} (h:Toks w b o l) (hl:b<w.heap.size) (hb:Below w.heap.size w w'):Toks w' b o l:=h.keep (hb.block _ hl)
theorem PSA.store {w w':World} {g k:Nat} {s:St} (h:PSA w g s) {c:Array Value} {T:TypeId} (hB:w.heap[k]?=some (.cells c T (0,0))) (hT:T≠116) (hk:g<k) (hg:w.grownBy w' (some k)):PSA w' g s:=by
 obtain⟨b,o,cc,ev,h1,h2,h3,h4,h5,h6,h7,h8⟩:=h;have e:∀ q,q≠k->q<w.heap.size->w'.heap[q]?=w.heap[q]?:=fun q hq hl=>hg.block q hl (fun e=>by injection e with e;exact hq e)
 refine⟨b,o,cc,ev,by rw[e g (by omega) (lt_of_block h1)];exact h1,h2,h3,h4,h5,Nat.lt_of_lt_of_le h6 hg.size,h7.keep (e b (by omega) h6),?_⟩;obtain⟨rest,err⟩:=s;simp only at h8 ⊢
 match err,h8 with
 | none,h8=>exact h8
 | some (c,l,k'),h8 =>
  obtain⟨q,q1,q2,q3⟩:=h8;refine⟨q,q1,?_,q3⟩;unfold AtB at q2 ⊢;rw[e q (fun e=>by subst e;rw[hB] at q2;injection q2 with q2;injection q2 with _ q2;exact hT q2) (lt_of_block q2)];exact q2
theorem PS.store {w w':World} {g k:Nat} {s:St} (h:PS w g s) {c:Array Value} {T:TypeId} (hB:w.heap[k]?=some (.cells c T (0,0))) (hT:T≠116) (hk:g<k) (hg:w.grownBy w' (some k)):PS w' g s:=⟨h.1.store hB hT hk hg,h.2⟩
theorem two_left {s:St} (h:GoodL s.rest) (hk:s.nx.kind≠4):2<=s.rest.length:=by
 have:=List.length_pos_iff.2 (h.tail hk).ne;simp only[List.length_drop] at this;omega
theorem take_p (g:Nat) (s:St) (w:World) (h:PS w g s) :
  Calls Tryz.prog 62 #[.pointer (some ⟨g,0,none⟩)] w fun e w'=>e=.returned (tokV s.nx)/\Did w g s.tk w':=by
 have HP:=h_ h;clear h;go_enter Tryz.func62,Tryz.ntmps62
 go_upto_region 1 with fail
 obtain⟨w1,k0,hw,hkk,hb,-,HB0⟩:=newb w #[.int .i64 0,.string ⟨#[]⟩,.int .i64 0,.int .i64 0] 97;have hg0:g<k0:=by rw[hkk];exact HP.out.lt
 have hN0:w.heap.size<=k0:=by omega
 rw[hw,<-hkk];replace HP:=h_ (HP.out.below hb);have HD:=h_ (below_grown hb (some g));clear hw hb hkk;go_wp2_with fail
 refine (next_p g s w1 HP.out).mono ?_;rintro e w2 ⟨rfl,hb⟩;replace HB0:=kB hb HB0;replace HP:=h_ (HP.out.below hb);replace HD:=dB HD hb;clear hb;simp only[tokV];generalize hnx:s.nx=t at *;have HN:=h_ hnx;clear hnx;go_upto_region 2 with fail
 obtain⟨w3,k1,hw,hkk,hb,-,HB1⟩:=newb w2 #[.int .i64 (t.kind:Nat),.string ⟨t.text.toArray⟩,.int .i64 (t.line:Nat),.int .i64 (t.col:Nat)] 97;have h01:=lk_ hkk HB0;rw[hw,<-hkk];replace HB0:=kB hb HB0;replace HP:=h_ (HP.out.below hb);replace HD:=dB HD hb;clear hw hb hkk;obtain⟨x0,x1,x2,x3⟩:=cl4 HB1.out
 by_cases hk:t.kind=4
 ·have hk4:((t.kind:Int) != 4)=false:=by simp;omega
  have HK:Hid (s.tk=s):=h_ (by unfold St.tk;rw[HN.out,if_pos hk]);clear hk;obtain⟨z0,z1,z2,z3⟩:=cl4 HB0.out;obtain⟨f0,f1,f2,f3⟩:=fr4 HB0.out;go_wp2_with fail
  refine bodyPost_ret (v:=.agg #[.int .i64 (t.kind:Nat),.string ⟨t.text.toArray⟩,.int .i64 (t.line:Nat),.int .i64 (t.col:Nat)]) (by simp[results,Tryz.results62,go_sem,z0,z1,z2,z3]) rfl ⟨by rw[HN.out];rfl,?_,?_⟩
  ·rw[HK.out];exact HP.out.store HB0.out (by decide) hg0 (grown4 _ _ _ _ _ _)
  exact grown_new HD.out (grown4 _ _ _ _ _ _) hN0
 have hk4:((t.kind:Int) != 4)=true:=by simp;omega
 have HK:=h_ (show s.nx.kind≠4 by rw[HN.out];exact hk);clear hk;obtain⟨b,o,c,ev,h1,h2,h3,h4,h5,c0,c1,c2,c3,h6,h7,h8,h9⟩:=HP.out.1.cells;have q0:=cell_at (v:=.slice (some ⟨b,o,none⟩) s.rest.length c) h1 0 rfl;have fz:=froz_at h1 0;have HG:=h_ (And.intro h1 (And.intro h3 (And.intro h4 (And.intro h5 (And.intro h6 (And.intro h7 (And.intro h8 h9)))))));clear h1 h3 h5 h6 h7 h8 h9 c0 c1 c2 c3;have hlen:s.rest.length<=9223372036854775807:=by unfold maxLen at h4;have:=HG.out.2.1;omega
 have hcc:c<=9223372036854775807:=by unfold maxLen at h4;omega
 have hlc:=HG.out.2.1;generalize hn:s.rest.length=n at *;have HL:=h_ hn;clear hn h4;have hc1:¬ c=1:=by have:=two_left HG.out.2.2.2.2.2.1 HK.out;rw[HL.out] at this;omega
 go_upto_region 4 with fail
 obtain⟨w4,hw⟩:∃ x,x=w3.setCell ⟨g,0,none⟩ (.slice (some ⟨b,o+4,none⟩) (n - 1) (c - 1)):=⟨_,rfl⟩
 have hg:w3.grownBy w4 (some g):=by rw[hw];exact grown_set _ g 0 _
 have hgb:w4.heap[g]?=some (.cells #[.slice (some ⟨b,o+4,none⟩) (n - 1) (c - 1),ev] 93 (0,0)):=by rw[hw,heap_setCell_same _ g 0 _ _ _ HG.out.1];rfl
 rw[<-hw];obtain⟨g1,g2,g3,g4,g5,g6,g7,g8⟩:=HG.out;replace HP:Hid (PS w4 g s.tk):=h_ ⟨PSA.move (by rw[HL.out];exact hgb) HK.out g6 (by rw[HL.out];exact g2) g3 g4 (Nat.lt_of_lt_of_le g5 hg.size) (g7.keep (hg.block b g5 (fun e=>by injection e with e;omega))) (g8.keep fun q h1 h2=>hg.block q h2 (fun e=>by injection e with e;exact h1 e)),Nat.le_trans (len_tk s) HP.out.2⟩;replace HB0:=kG hg HB0;replace HB1:=kG hg HB1;replace HD:=h_ (grown_tr HD.out hg);clear hw hg hgb g1 g2 g3 g4 g5 g6 g7 g8 x0 x1 x2 x3 q0 fz;obtain⟨x0,x1,x2,x3⟩:=cl4 HB1.out;obtain⟨z0,z1,z2,z3⟩:=cl4 HB0.out;obtain⟨f0,f1,f2,f3⟩:=fr4 HB0.out;go_wp2_with fail
 refine bodyPost_ret (v:=.agg #[.int .i64 (t.kind:Nat),.string ⟨t.text.toArray⟩,.int .i64 (t.line:Nat),.int .i64 (t.col:Nat)]) (by simp[results,Tryz.results62,go_sem,z0,z1,z2,z3]) rfl ⟨by rw[HN.out];rfl,?_,?_⟩
 ·exact HP.out.store HB0.out (by decide) hg0 (grown4 _ _ _ _ _ _)
 exact grown_new HD.out (grown4 _ _ _ _ _ _) hN0
theorem field_text (a c d:Int) (l:ByteArray) (w:World):(Instr.field 97 (.agg #[.int .i64 a,.string l,.int .i64 c,.int .i64 d]) 1).run Tryz.prog w=.ok (.string l) w:=by kernel_rfl
theorem Did.trans {w w1 w2:World} {g:Nat} {s1 s2:St} (h:Did w g s1 w1) (k:Did w1 g s2 w2):Did w g s2 w2:=⟨k.1,grown_tr h.2 k.2⟩
theorem Did.of_below {w w':World} {g:Nat} {s:St} (h:PS w g s) (hb:Below w.heap.size w w'):Did w g s w':=⟨h.below hb,below_grown hb _⟩
theorem accept_p (g:Nat) (s:St) (l:Bs) (w:World) (h:PS w g s) :
  Calls Tryz.prog 33 #[.pointer (some ⟨g,0,none⟩),.string ⟨l.toArray⟩] w fun e w'=>e=.returned (.bool (s.is l))/\Did w g (s.acc l) w':=by
 have HP:=h_ h;clear h
 cases hq:(s.nx.text==l)
 ·have hn:=hq;have HI:Hid (s.is l=false/\s.acc l=s):=h_ (by have e:s.is l=false:=hq;exact⟨e,by unfold St.acc;rw[e];rfl⟩);clear hq;go_enter Tryz.func33,Tryz.ntmps33
  go_wp2_with fail
  refine (next_p g s w HP.out).mono ?_;rintro e w2 ⟨rfl,hb⟩;have HP2:=h_ (Did.of_below HP.out hb);clear hb;simp only[tokV];have hf:=field_text (s.nx.kind:Nat) (s.nx.line:Nat) (s.nx.col:Nat) ⟨s.nx.text.toArray⟩ w2;go_wp2_with fail
  go_ret
  rw[HI.out.1,HI.out.2];exact⟨rfl,HP2.out⟩
 have hn:=hq;have HI:Hid (s.is l=true/\s.acc l=s.tk):=h_ (by have e:s.is l=true:=hq;exact⟨e,by unfold St.acc;rw[e];rfl⟩);clear hq;go_enter Tryz.func33,Tryz.ntmps33
 go_wp2_with fail
 refine (next_p g s w HP.out).mono ?_;rintro e w2 ⟨rfl,hb⟩;have HP2:=h_ (Did.of_below HP.out hb);clear hb;simp only[tokV];have hf:=field_text (s.nx.kind:Nat) (s.nx.line:Nat) (s.nx.col:Nat) ⟨s.nx.text.toArray⟩ w2;go_wp2_with fail
 refine (take_p g s w2 HP2.out.1).mono ?_;rintro e w3 ⟨rfl,hd⟩;have HP3:=h_ (HP2.out.trans hd);clear hd;go_wp2_with fail
 go_ret
 rw[HI.out.1,HI.out.2];exact⟨rfl,HP3.out⟩
theorem PSA.fail {w':World} {g b o c:Nat} {ev:Value} {s:St} {x:Option (Nat × Nat × Nat)} (hg:w'.heap[g]?=some (.cells #[.slice (some ⟨b,o+(s.rest.length - 1)*4,none⟩) 1 (c - (s.rest.length - 1)),ev] 93 (0,0))) (h2:GoodL s.rest) (h3:s.rest.length<=c) (h4:c<=maxLen) (h5:b<g) (h6:b<w'.heap.size) (h7:Toks w' b o s.rest) (h8:ErrAt w' g ev x):PSA w' g ⟨s.rest.drop (s.rest.length - 1),x⟩:=by
 obtain⟨e,q1,q2,q3⟩:=h2.last;have hl:=List.length_pos_iff.2 h2.ne;have hd:=h7.drop (s.rest.length - 1);rw[Nat.mul_comm 4] at hd;refine⟨b,o+(s.rest.length - 1)*4,c - (s.rest.length - 1),ev,?_,?_,?_,Nat.le_trans (Nat.sub_le _ _) h4,h5,h6,hd,h8⟩
 ·rw[hg];simp only[List.length_drop];rw[show s.rest.length - (s.rest.length - 1)=1 by omega]
 ·have:=h2;clear hg h7 hd h8 q1 q2 q3 h3 hl;generalize s.rest=l at *
  induction l with
  | nil=>exact absurd this id
  | cons t ts ih =>
   match ts,this,ih with
   | [],this,_=>exact this
   | u::us,this,ih =>
    have:=ih this.2.2 this.2.2;simp only[lsc,Nat.add_sub_cancel] at this ⊢;rw[List.drop_succ_cons];exact this
 simp only[List.length_drop];omega
theorem fail_yes (g:Nat) (s:St) (t:Tok) (ec:Nat) (w:World) (h:PS w g s) (he:s.err=none) :
  Calls Tryz.prog 37 #[.pointer (some ⟨g,0,none⟩),tokV t,.iface 77 (.int .i64 (ec:Nat))] w fun e w'=>(∃ v,e=.returned v)/\Did w g (s.fail t ec) w':=by
 have hl:=List.length_pos_iff.2 h.good.ne;have hlen2:=h_ h.2;simp only[tokV];obtain⟨w1,hw⟩:∃ x,x=w.alloc (.cells #[.int .i64 (t.kind:Nat),.string ⟨t.text.toArray⟩,.int .i64 (t.line:Nat),.int .i64 (t.col:Nat)] 97):=⟨_,rfl⟩
 have hb:Below w.heap.size w w1:=by rw[hw];exact (Below.refl _ _).alloc (Nat.le_refl _) _
 have hk:w1.heap[w.heap.size]?=some (.cells #[.int .i64 (t.kind:Nat),.string ⟨t.text.toArray⟩,.int .i64 (t.line:Nat),.int .i64 (t.col:Nat)] 97 (0,0)):=by rw[hw];exact made_at w _ _ rfl
 have HW:=h_ hw;obtain⟨k1,hkk⟩:∃ k,k=w.heap.size:=⟨_,rfl⟩
 have HKK:=h_ hkk;have hg1:g<k1:=by rw[hkk];exact h.lt
 have he1:w.heap.size<=k1:=by omega
 rw[<-hkk] at hk;have HB1:=h_ hk;have HD:=h_ (below_grown hb (some g));have hsz:=hb.size;obtain⟨b,o,c,ev,h1,h2,h3,h4,h5,-,-,-,-,h6,h7,h8,h9⟩:=(h.below hb).1.cells;clear hw hb hk hkk h h2;have hlen:s.rest.length<=9223372036854775807:=by unfold maxLen at h4;omega
 have hcc:c<=9223372036854775807:=by unfold maxLen at h4;omega
 obtain⟨rest,err⟩:=s;simp only at he hl hlen h1 h3 h7 h8 h9;subst he;have hev:ev=.nilIface:=h9;subst hev;have p0:=cell_at (v:=.slice (some ⟨b,o,none⟩) rest.length c) h1 0 rfl;have p1:=cell_at (v:=.nilIface) h1 1 rfl;have fp0:=froz_at h1 0;have fp1:=froz_at h1 1;have HG:=h_ h1;have HT:=h_ h8;have HL:=h_ h7;clear h1 h7 h8 h9;obtain⟨x0,x1,x2,x3⟩:=cl4 HB1.out;generalize hn:rest.length=n at *;have HN:=h_ hn;clear hn;go_enter Tryz.func37,Tryz.ntmps37
 go_upto_region 1 with fail
 rw[<-HW.out,<-HKK.out];clear x0 x1 x2 x3;obtain⟨w2,hw2⟩:∃ x,x=w1.alloc (.cells #[.int .i64 (t.line:Nat),.int .i64 (t.col:Nat),.iface 77 (.int .i64 (ec:Nat))] 116):=⟨_,rfl⟩
 have hb2:Below w1.heap.size w1 w2:=by rw[hw2];exact (Below.refl _ _).alloc (Nat.le_refl _) _
 have hq2:w2.heap[w1.heap.size]?=some (.cells #[.int .i64 (t.line:Nat),.int .i64 (t.col:Nat),.iface 77 (.int .i64 (ec:Nat))] 116 (0,0)):=by rw[hw2];exact made_at w1 _ _ rfl
 have hg2:=(hb2.block _ (lt_of_block HG.out)).trans HG.out;have h12:=(hb2.block _ (lt_of_block HB1.out)).trans HB1.out;have y1:=cell_at (v:=.nilIface) hg2 1 rfl;have fy1:=froz_at hg2 1;have y0:=cell_at (v:=.slice (some ⟨b,o,none⟩) n c) hg2 0 rfl;obtain⟨x0,x1,x2,x3⟩:=cl4 HB1.out;have hq:g<w1.heap.size:=lt_of_block HG.out;obtain⟨q,hqq⟩:∃ q,q=w1.heap.size:=⟨_,rfl⟩
 have HQ:=h_ hq2;have HG2:=h_ hg2;have HB2:=h_ hb2;have HW2:=h_ hw2;have HQQ:=h_ hqq;have hgq:g<q:=by rw[hqq];exact hq
 rw[hw2] at y1 fy1 y0;clear hb2 hq2 hg2 h12 hw2 hqq hq;go_upto_region 3 with fail
 rw[<-HW2.out,<-HQQ.out];obtain⟨w3,hw⟩:∃ x,x=w2.setCell ⟨g,1,none⟩ (.iface 111 (.pointer (some ⟨q,0,none⟩))):=⟨_,rfl⟩
 have hg:w2.grownBy w3 (some g):=by rw[hw];exact grown_set _ g 1 _
 have hgb:w3.heap[g]?=some (.cells #[.slice (some ⟨b,o,none⟩) n c,.iface 111 (.pointer (some ⟨q,0,none⟩))] 93 (0,0)):=by rw[hw,heap_setCell_same _ g 1 _ _ _ HG2.out];rfl
 have hD3:w.grownBy w3 (some g):=grown_tr (grown_tr HD.out (below_grown HB2.out _)) hg
 have hq3:AtB w3 q (t.line,t.col) (.iface 77 (.int .i64 (ec:Nat))):=by
  have:=HQ.out;rw[<-HQQ.out] at this;unfold AtB;rw[hg.block q (lt_of_block this) (fun e=>by injection e with e;omega)];exact this
 have hT3:Toks w3 b o rest:=(HT.out.keep (w':=w3) ((hg.block b (Nat.lt_of_lt_of_le h6 HB2.out.size) (fun e=>by injection e with e;omega)).trans (HB2.out.block b h6)))
 have hb3:b<w3.heap.size:=Nat.lt_of_lt_of_le (Nat.lt_of_lt_of_le h6 HB2.out.size) hg.size;rw[<-hw];have HG3:=h_ hgb;have HD3:=h_ hD3;have HQ3:=h_ hq3;have HT3:=h_ hT3;clear hw hg hgb hD3 hq3 hT3 y0 y1 fy1 x0 x1 x2 x3 p0 p1 fp0 fp1;have p0:=cell_at (v:=.slice (some ⟨b,o,none⟩) n c) HG3.out 0 rfl;have fp0:=froz_at HG3.out 0;have hi1:IntKind.i64.wrap ((n:Int) - 1)=(n:Int) - 1:=IntWalk.i64_in _ (by omega);have hi2:(1:Int)<=(n:Int):=by omega
 have hi3:((n:Int) - 1).toNat=n - 1:=by omega
 have hi4:¬ (c=n - 1):=by omega
 have hi5:n - 1<=n:=by omega
 have hi6:n - 1<=c:=by omega
 have hi7:(n:Int) - 1<=(n:Int):=by omega
 have hi8:n - (n - 1)=1:=by omega
 go_still_tail 14,(by kernel_rfl)
 clear hi1 hi2 hi3 hi4 hi5 hi6 hi7 hi8;change wpList _ _ _ _ _ w3.drew;obtain⟨w4,hw⟩:∃ x,x=w3.drew:=⟨_,rfl⟩
 have HG4:Hid (w4.heap[g]?=some (.cells #[.slice (some ⟨b,o,none⟩) n c,.iface 111 (.pointer (some ⟨q,0,none⟩))] 93 (0,0))):=h_ (by rw[hw];exact HG3.out);have HT4:Hid (Toks w4 b o rest):=h_ (by rw[hw];exact HT3.out.keep (w':=w3.drew) (by rfl));have HE4:=h_ (ErrAt.keep (w':=w4) (show ErrAt w3 g _ (some (ec,t.line,t.col)) from ⟨q,rfl,HQ3.out,by omega⟩) fun _ _ _=>by rw[hw];rfl);have HD4:Hid (w.grownBy w4 (some g)):=h_ (by rw[hw];exact grown_drew HD3.out);have hb4:b<w4.heap.size:=by rw[hw];exact hb3
 rw[<-hw];have q0:=cell_at (v:=.slice (some ⟨b,o,none⟩) n c) HG4.out 0 rfl;have fq0:=froz_at HG4.out 0;clear hw p0 fp0;go_wp2_with fail
 go_end0
 refine⟨⟨_,rfl⟩,?_,grown_tr HD4.out (grown_set _ g 0 _)⟩;have hgb:(w4.setCell ⟨g,0,none⟩ (.slice (some ⟨b,o+(n - 1)*4,none⟩) 1 (c - (n - 1)))).heap[g]?=some (.cells #[.slice (some ⟨b,o+(n - 1)*4,none⟩) 1 (c - (n - 1)),.iface 111 (.pointer (some ⟨q,0,none⟩))] 93 (0,0)):=by rw[heap_setCell_same _ g 0 _ _ _ HG4.out];rfl
 have hk:∀ q,q≠g->(w4.setCell ⟨g,0,none⟩ (.slice (some ⟨b,o+(n - 1)*4,none⟩) 1 (c - (n - 1)))).heap[q]?=w4.heap[q]?:=fun q h=>set1_other _ _ _ _ h
 refine⟨?_,Nat.le_trans (len_fail _ _ _) (show rest.length<=30000 by rw[HN.out];exact hlen2.out)⟩;unfold St.fail;refine PSA.fail (b:=b) (o:=o) (c:=c) (by rw[HN.out];exact hgb) HL.out (by rw[HN.out];exact h3) h4 h5 (by simp;exact hb4) (HT4.out.keep (hk b (by omega))) ?_;exact (HE4.out.keep fun q h _=>hk q h)
theorem fail_no (g:Nat) (s:St) (t:Tok) (ec:Nat) (w:World) (h:PS w g s) (he:s.err≠none) :
  Calls Tryz.prog 37 #[.pointer (some ⟨g,0,none⟩),tokV t,.iface 77 (.int .i64 (ec:Nat))] w fun e w'=>(∃ v,e=.returned v)/\Did w g (s.fail t ec) w':=by
 have hl:=List.length_pos_iff.2 h.good.ne;have hlen2:=h_ h.2;simp only[tokV];obtain⟨w1,hw⟩:∃ x,x=w.alloc (.cells #[.int .i64 (t.kind:Nat),.string ⟨t.text.toArray⟩,.int .i64 (t.line:Nat),.int .i64 (t.col:Nat)] 97):=⟨_,rfl⟩
 have hb:Below w.heap.size w w1:=by rw[hw];exact (Below.refl _ _).alloc (Nat.le_refl _) _
 have hk:w1.heap[w.heap.size]?=some (.cells #[.int .i64 (t.kind:Nat),.string ⟨t.text.toArray⟩,.int .i64 (t.line:Nat),.int .i64 (t.col:Nat)] 97 (0,0)):=by rw[hw];exact made_at w _ _ rfl
 have HW:=h_ hw;obtain⟨k1,hkk⟩:∃ k,k=w.heap.size:=⟨_,rfl⟩
 have HKK:=h_ hkk;have hg1:g<k1:=by rw[hkk];exact h.lt
 have he1:w.heap.size<=k1:=by omega
 rw[<-hkk] at hk;have HB1:=h_ hk;have HD:=h_ (below_grown hb (some g));have hsz:=hb.size;obtain⟨b,o,c,ev,h1,h2,h3,h4,h5,-,-,-,-,h6,h7,h8,h9⟩:=(h.below hb).1.cells;clear hw hb hk hkk h h2;have hlen:s.rest.length<=9223372036854775807:=by unfold maxLen at h4;omega
 have hcc:c<=9223372036854775807:=by unfold maxLen at h4;omega
 obtain⟨rest,err⟩:=s;simp only at he hl hlen h1 h3 h7 h8 h9;obtain⟨⟨xc,xl,xk⟩,rfl⟩:=Option.ne_none_iff_exists'.1 he;have HE:=h_ h9;obtain⟨q,hq,-,-⟩:=h9;subst hq;have p0:=cell_at (v:=.slice (some ⟨b,o,none⟩) rest.length c) h1 0 rfl;have p1:=cell_at (v:=.iface 111 (.pointer (some ⟨q,0,none⟩))) h1 1 rfl;have fp0:=froz_at h1 0;have fp1:=froz_at h1 1;have HG:=h_ h1;have HT:=h_ h8;have HL:=h_ h7;clear h1 h7 h8 he;obtain⟨x0,x1,x2,x3⟩:=cl4 HB1.out;generalize hn:rest.length=n at *;have HN:=h_ hn;clear hn;go_enter Tryz.func37,Tryz.ntmps37
 go_upto_region 1 with fail
 rw[<-HW.out,<-HKK.out];clear x0 x1 x2 x3;have HG3:=HG;have HD3:=HD;have HT3:=HT;have hb3:=h6;obtain⟨w3,hw3⟩:∃ x,x=w1:=⟨_,rfl⟩
 go_upto_region 3 with fail
 rw[<-hw3] at HG3 HD3 HT3 hb3 HE ⊢;clear hw3 p0 p1 fp0 fp1;have p0:=cell_at (v:=.slice (some ⟨b,o,none⟩) n c) HG3.out 0 rfl;have fp0:=froz_at HG3.out 0;have hi1:IntKind.i64.wrap ((n:Int) - 1)=(n:Int) - 1:=IntWalk.i64_in _ (by omega);have hi2:(1:Int)<=(n:Int):=by omega
 have hi3:((n:Int) - 1).toNat=n - 1:=by omega
 have hi4:¬ (c=n - 1):=by omega
 have hi5:n - 1<=n:=by omega
 have hi6:n - 1<=c:=by omega
 have hi7:(n:Int) - 1<=(n:Int):=by omega
 have hi8:n - (n - 1)=1:=by omega
 go_still_tail 14,(by kernel_rfl)
 clear hi1 hi2 hi3 hi4 hi5 hi6 hi7 hi8;change wpList _ _ _ _ _ w3.drew;obtain⟨w4,hw⟩:∃ x,x=w3.drew:=⟨_,rfl⟩
 have HG4:Hid (w4.heap[g]?=some (.cells #[.slice (some ⟨b,o,none⟩) n c,.iface 111 (.pointer (some ⟨q,0,none⟩))] 93 (0,0))):=h_ (by rw[hw];exact HG3.out);have HT4:Hid (Toks w4 b o rest):=h_ (by rw[hw];exact HT3.out.keep (w':=w3.drew) (by rfl));have HE4:=h_ (ErrAt.keep (w':=w4) (HE.out) fun _ _ _=>by rw[hw];rfl);have HD4:Hid (w.grownBy w4 (some g)):=h_ (by rw[hw];exact grown_drew HD3.out);have hb4:b<w4.heap.size:=by rw[hw];exact hb3
 rw[<-hw];have q0:=cell_at (v:=.slice (some ⟨b,o,none⟩) n c) HG4.out 0 rfl;have fq0:=froz_at HG4.out 0;clear hw p0 fp0;go_wp2_with fail
 go_end0
 refine⟨⟨_,rfl⟩,?_,grown_tr HD4.out (grown_set _ g 0 _)⟩;have hgb:(w4.setCell ⟨g,0,none⟩ (.slice (some ⟨b,o+(n - 1)*4,none⟩) 1 (c - (n - 1)))).heap[g]?=some (.cells #[.slice (some ⟨b,o+(n - 1)*4,none⟩) 1 (c - (n - 1)),.iface 111 (.pointer (some ⟨q,0,none⟩))] 93 (0,0)):=by rw[heap_setCell_same _ g 0 _ _ _ HG4.out];rfl
 have hk:∀ q,q≠g->(w4.setCell ⟨g,0,none⟩ (.slice (some ⟨b,o+(n - 1)*4,none⟩) 1 (c - (n - 1)))).heap[q]?=w4.heap[q]?:=fun q h=>set1_other _ _ _ _ h
 refine⟨?_,Nat.le_trans (len_fail _ _ _) (show rest.length<=30000 by rw[HN.out];exact hlen2.out)⟩;unfold St.fail;refine PSA.fail (b:=b) (o:=o) (c:=c) (by rw[HN.out];exact hgb) HL.out (by rw[HN.out];exact h3) h4 h5 (by simp;exact hb4) (HT4.out.keep (hk b (by omega))) ?_;exact (HE4.out.keep fun q h _=>hk q h)
theorem fail_p (g:Nat) (s:St) (t:Tok) (ec:Nat) (w:World) (h:PS w g s) :
  Calls Tryz.prog 37 #[.pointer (some ⟨g,0,none⟩),tokV t,.iface 77 (.int .i64 (ec:Nat))] w fun e w'=>(∃ v,e=.returned v)/\Did w g (s.fail t ec) w':=by
 by_cases he:s.err=none
 ·exact fail_yes g s t ec w h he
 exact fail_no g s t ec w h he
theorem name_p (g:Nat) (s:St) (w:World) (h:PS w g s) :
  Calls Tryz.prog 100 #[.pointer (some ⟨g,0,none⟩)] w fun e w'=>e=.returned (tokV s.nx)/\Did w g s.name w':=by
 have HP:=h_ h;clear h
 by_cases hk:s.nx.kind=0
 ·have hk0:((s.nx.kind:Int) != 0)=false:=by simp;omega
  have HY:Hid (s.name=s.tk):=h_ (by unfold St.name;rw[if_pos hk]);clear hk;go_enter Tryz.func100,Tryz.ntmps100
  go_upto_region 1 with fail
  obtain⟨w1,kr,hw,hkk,hb,-,HBr⟩:=newb w #[.int .i64 0,.string ⟨#[]⟩,.int .i64 0,.int .i64 0] 97;have hgr:g<kr:=by rw[hkk];exact HP.out.lt
  have her:w.heap.size<=kr:=by omega
  rw[hw,<-hkk];replace HP:=h_ (HP.out.below hb);have HD:=h_ (below_grown hb (some g));clear hw hb hkk;go_wp2_with fail
  refine (take_p g s w1 HP.out).mono ?_;rintro e w2 ⟨rfl,hp,hg⟩;replace HBr:=kG hg HBr;replace HP:=h_ hp;replace HD:=dG HD hg;have hsz2:=HD.out.size;clear hp hg;simp only[tokV];generalize hnx:s.nx=t at *;have HN:=h_ hnx;clear hnx;go_upto_region 2 with fail
  obtain⟨w3,kt,hw,hkk,hb,-,HBt⟩:=newb w2 #[.int .i64 (t.kind:Nat),.string ⟨t.text.toArray⟩,.int .i64 (t.line:Nat),.int .i64 (t.col:Nat)] 97;have hgt:g<kt:=by rw[hkk];exact HP.out.lt
  have het:w.heap.size<=kt:=by omega
  have hr_t:=lk_ hkk HBr;rw[hw,<-hkk];replace HBr:=kB hb HBr;replace HP:=h_ (HP.out.below hb);replace HD:=dB HD hb;have hsz3:=HD.out.size;clear hw hb hkk;obtain⟨x0,x1,x2,x3⟩:=cl4 HBt.out;obtain⟨z0,z1,z2,z3⟩:=cl4 HBr.out;obtain⟨fz0,fz1,fz2,fz3⟩:=fr4 HBr.out;go_wp2_with fail
  refine bodyPost_ret (v:=.agg #[.int .i64 (t.kind:Nat),.string ⟨t.text.toArray⟩,.int .i64 (t.line:Nat),.int .i64 (t.col:Nat)]) (by simp[results,Tryz.results100,go_sem,z0,z1,z2,z3]) rfl ⟨by rw[HN.out];rfl,?_,?_⟩
  ·rw[HY.out];exact HP.out.store HBr.out (by decide) hgr (grown4 _ _ _ _ _ _)
  exact grown_new HD.out (grown4 _ _ _ _ _ _) her
 have hk0:((s.nx.kind:Int) != 0)=true:=by simp;omega
 have HY:Hid (s.name=s.tk.fail s.nx 1):=h_ (by unfold St.name;rw[if_neg hk]);clear hk;go_enter Tryz.func100,Tryz.ntmps100
 go_upto_region 1 with fail
 obtain⟨w1,kr,hw,hkk,hb,-,HBr⟩:=newb w #[.int .i64 0,.string ⟨#[]⟩,.int .i64 0,.int .i64 0] 97;have hgr:g<kr:=by rw[hkk];exact HP.out.lt
 have her:w.heap.size<=kr:=by omega
 rw[hw,<-hkk];replace HP:=h_ (HP.out.below hb);have HD:=h_ (below_grown hb (some g));clear hw hb hkk;go_wp2_with fail
 refine (take_p g s w1 HP.out).mono ?_;rintro e w2 ⟨rfl,hp,hg⟩;replace HBr:=kG hg HBr;replace HP:=h_ hp;replace HD:=dG HD hg;have hsz2:=HD.out.size;clear hp hg;simp only[tokV];generalize hnx:s.nx=t at *;have HN:=h_ hnx;clear hnx;go_upto_region 2 with fail
 obtain⟨w3,kt,hw,hkk,hb,-,HBt⟩:=newb w2 #[.int .i64 (t.kind:Nat),.string ⟨t.text.toArray⟩,.int .i64 (t.line:Nat),.int .i64 (t.col:Nat)] 97;have hgt:g<kt:=by rw[hkk];exact HP.out.lt
 have het:w.heap.size<=kt:=by omega
 have hr_t:=lk_ hkk HBr;rw[hw,<-hkk];replace HBr:=kB hb HBr;replace HP:=h_ (HP.out.below hb);replace HD:=dB HD hb;clear hw hb hkk;obtain⟨x0,x1,x2,x3⟩:=cl4 HBt.out;go_wp2_with fail
 have hp0:=fail_p g s.tk t 1 w3 HP.out;simp only[tokV] at hp0;refine (hp0).mono ?_;rintro e w4 ⟨⟨v,rfl⟩,hp,hg⟩;clear x0 x1 x2 x3;replace HBr:=kG hg HBr;replace HBt:=kG hg HBt;replace HP:=h_ hp;replace HD:=dG HD hg;have hsz4:=HD.out.size;clear hp hg;clear hp0;obtain⟨x0,x1,x2,x3⟩:=cl4 HBt.out;obtain⟨z0,z1,z2,z3⟩:=cl4 HBr.out;obtain⟨fz0,fz1,fz2,fz3⟩:=fr4 HBr.out;go_wp2_with fail
 refine bodyPost_ret (v:=.agg #[.int .i64 (t.kind:Nat),.string ⟨t.text.toArray⟩,.int .i64 (t.line:Nat),.int .i64 (t.col:Nat)]) (by simp[results,Tryz.results100,go_sem,z0,z1,z2,z3]) rfl ⟨by rw[HN.out];rfl,?_,?_⟩
 ·rw[HY.out];exact HP.out.store HBr.out (by decide) hgr (grown4 _ _ _ _ _ _)
 exact grown_new HD.out (grown4 _ _ _ _ _ _) her
theorem finish_p (g:Nat) (s:St) (w:World) (h:PS w g s) :
  Calls Tryz.prog 19 #[.pointer (some ⟨g,0,none⟩)] w fun e w'=>∃ ev,e=.returned ev/\ErrAt w' g ev s.fin.err/\Did w g s.fin w':=by
 have HP:=h_ h;clear h
 by_cases hk:s.nx.kind=4
 ·have hk0:((s.nx.kind:Int) != 4)=false:=by simp;omega
  have HY:Hid (s.fin=s):=h_ (by unfold St.fin;rw[if_pos hk]);clear hk;go_enter Tryz.func19,Tryz.ntmps19
  go_wp2_with fail
  refine (next_p g s w HP.out).mono ?_;rintro e w1 ⟨rfl,hb⟩;replace HP:=h_ (HP.out.below hb);have HD:=h_ (below_grown hb (some g));have hsz1:=HD.out.size;clear hb;simp only[tokV];generalize hnx:s.nx=t at *;have HN:=h_ hnx;clear hnx;go_upto_region 2 with fail
  obtain⟨w2,kt,hw,hkk,hb,-,HBt⟩:=newb w1 #[.int .i64 (t.kind:Nat),.string ⟨t.text.toArray⟩,.int .i64 (t.line:Nat),.int .i64 (t.col:Nat)] 97;have hgt:g<kt:=by rw[hkk];exact HP.out.lt
  have het:w.heap.size<=kt:=by omega
  rw[hw,<-hkk];replace HP:=h_ (HP.out.below hb);replace HD:=dB HD hb;have hsz2:=HD.out.size;clear hw hb hkk;obtain⟨x0,x1,x2,x3⟩:=cl4 HBt.out;obtain⟨b,o,c,ev,h1,h2,h3,h4,h5,-,-,-,-,h6,h7,h8,h9⟩:=HP.out.1.cells;have p1:=cell_at (v:=ev) h1 1 rfl;have HE:=h_ h9;clear h1 h7 h8 h9;go_wp2_with fail
  go_ret
  refine⟨ev,rfl,?_,?_,HD.out⟩
  ·rw[HY.out];exact HE.out
  rw[HY.out];exact HP.out
 have hk0:((s.nx.kind:Int) != 4)=true:=by simp;omega
 have HY:Hid (s.fin=s.fail s.nx 1):=h_ (by unfold St.fin;rw[if_neg hk]);clear hk;go_enter Tryz.func19,Tryz.ntmps19
 go_wp2_with fail
 refine (next_p g s w HP.out).mono ?_;rintro e w1 ⟨rfl,hb⟩;replace HP:=h_ (HP.out.below hb);have HD:=h_ (below_grown hb (some g));have hsz1:=HD.out.size;clear hb;simp only[tokV];generalize hnx:s.nx=t at *;have HN:=h_ hnx;clear hnx;go_upto_region 2 with fail
 obtain⟨w2,kt,hw,hkk,hb,-,HBt⟩:=newb w1 #[.int .i64 (t.kind:Nat),.string ⟨t.text.toArray⟩,.int .i64 (t.line:Nat),.int .i64 (t.col:Nat)] 97;have hgt:g<kt:=by rw[hkk];exact HP.out.lt
 have het:w.heap.size<=kt:=by omega
 rw[hw,<-hkk];replace HP:=h_ (HP.out.below hb);replace HD:=dB HD hb;clear hw hb hkk;obtain⟨x0,x1,x2,x3⟩:=cl4 HBt.out;go_wp2_with fail
 have hp0:=fail_p g s t 1 w2 HP.out;simp only[tokV] at hp0;refine (hp0).mono ?_;rintro e w3 ⟨⟨v,rfl⟩,hp,hg⟩;clear x0 x1 x2 x3;replace HBt:=kG hg HBt;replace HP:=h_ hp;replace HD:=dG HD hg;have hsz3:=HD.out.size;clear hp hg;clear hp0;obtain⟨b,o,c,ev,h1,h2,h3,h4,h5,-,-,-,-,h6,h7,h8,h9⟩:=HP.out.1.cells;have p1:=cell_at (v:=ev) h1 1 rfl;have HE:=h_ h9;clear h1 h7 h8 h9;go_wp2_with fail
 go_ret
 refine⟨ev,rfl,?_,?_,HD.out⟩
 ·rw[HY.out];exact HE.out
 rw[HY.out];exact HP.out
theorem exps_take (s:St) (ws:List Bs) (j:Nat) (h:j<ws.length):s.exps (ws.take (j+1))=(s.exps (ws.take j)).exp ws[j]:=by
 unfold St.exps;rw[List.take_succ_eq_append_getElem h,List.foldl_append];rfl
theorem expect_p (g:Nat) (s:St) (ws:List Bs) (q:Nat) (w:World) (h:PS w g s) (hq:w.heap[q]?=some (.cells (ws.map fun b=>Value.string ⟨b.toArray⟩).toArray 9 (0,0))) (hgq:g≠q) (hl:ws.length<=1000) :
  Calls Tryz.prog 64 #[.pointer (some ⟨g,0,none⟩),.slice (some ⟨q,0,none⟩) ws.length ws.length] w fun e w'=>(∃ v,e=.returned v)/\Did w g (s.exps ws) w':=by
 have HP:=h_ h;have HQ:=h_ hq;clear h hq;generalize hn:ws.length=n at *;have HN:=h_ hn;clear hn;go_enter Tryz.func64,Tryz.ntmps64
 go_wp2_with fail
 go_loopw [8] (fun i wr=>∃ j:Nat,i=.int .i64 (j:Nat)/\j<=n/\Hid (Did w g (s.exps (ws.take j)) wr)) (fun i _=>n - (intOf i).toNat)
 case atStart=>exact⟨0,rfl,Nat.zero_le _,h_ ⟨HP.out,World.grownBy.refl _ _⟩⟩
 case round =>
  obtain⟨j,rfl,hj,HDj⟩:=hrel
  by_cases hlt:j<n
  ·have hjl:j<ws.length:=by rw[HN.out];exact hlt
   have hc:=cell_at (v:=.string ⟨(ws[j]).toArray⟩) (((HDj.out.2.block q (lt_of_block HQ.out) (fun e=>by injection e with e;exact hgq e.symm)).trans HQ.out)) j (by simp[hjl]);have HS:=h_ (exps_take s ws j hjl);obtain⟨l,hL⟩:∃ l,l=ws[j]:=⟨_,rfl⟩
   rw[<-hL] at HS hc;clear hL;obtain⟨sj,hsj⟩:∃ sj,sj=s.exps (ws.take j):=⟨_,rfl⟩
   rw[<-hsj] at HDj HS;clear hsj;go_wp2_with fail
   refine (accept_p g sj l wr HDj.out.1).mono ?_;rintro e w2 ⟨rfl,hd⟩;have HD2:=h_ (HDj.out.trans hd);clear hd hc
   cases hi:sj.is l
   ·have HX:Hid (sj.exp l=sj.fail sj.nx 1/\sj.acc l=sj):=h_ (by unfold St.exp St.acc;rw[hi];exact⟨rfl,rfl⟩);rw[HX.out.2] at HD2;clear hi;go_wp2_with fail
    refine (next_p g sj w2 HD2.out.1).mono ?_;rintro e w3 ⟨rfl,hb⟩;have HD3:=h_ (HD2.out.trans (Did.of_below HD2.out.1 hb));clear hb;go_wp2_with fail
    refine (fail_p g sj sj.nx 1 w3 HD3.out.1).mono ?_;rintro e w4 ⟨⟨v,rfl⟩,hd⟩;have HD4:=h_ (HD3.out.trans hd);clear hd;go_wp2_with fail
    go_roundw
    case rel=>exact⟨j+1,by go_num,by omega,h_ (by rw[HS.out,HX.out.1];exact HD4.out)⟩
    case measure=>simp[intOf];omega
   ·have HX:Hid (sj.exp l=sj.tk/\sj.acc l=sj.tk):=h_ (by unfold St.exp St.acc;rw[hi];exact⟨rfl,rfl⟩);rw[HX.out.2] at HD2;clear hi;go_wp2_with fail
    go_roundw
    case rel=>exact⟨j+1,by go_num,by omega,h_ (by rw[HS.out,HX.out.1];exact HD2.out)⟩
    case measure=>simp[intOf];omega
  have e:j=n:=by omega
  subst e;go_wp2_with fail
  go_end0
  refine⟨⟨_,rfl⟩,?_⟩;have:=HDj.out;rw[<-HN.out,List.take_length] at this;exact this
theorem part_p (k:Nat) (t:Tok) (ko:Option Addr) (n c:Nat) (w:World) :
  Calls Tryz.prog 114 #[.int .i64 (k:Nat),tokV t,.slice ko n c] w fun e w'=>e=.returned (xv ⟨(k:Nat),⟨#[]⟩,⟨#[]⟩,false,none,0,0,ko,n,c,(t.line:Nat),(t.col:Nat)⟩)/\Below w.heap.size w w':=by
 simp only[tokV,xv];go_enter Tryz.func114,Tryz.ntmps114
 go_wp2
 exact bodyPost_ret (v:=.agg #[.int .i64 (k:Nat),.string ⟨#[]⟩,.string ⟨#[]⟩,.bool false,.slice none 0 0,.slice ko n c,.int .i64 (t.line:Nat),.int .i64 (t.col:Nat)]) (by simp[results,Tryz.results114,go_sem]) rfl ⟨rfl,((Below.refl _ _).alloc (Nat.le_refl _) _).alloc (by simp) _⟩
theorem run_loadAt_row {P:Program} (w:World) (p:Addr) (ty:TypeId) (cs:List Value) (d:TypeDesc) (hc:∀ j v,cs[j]?=some v->w.cell? (p.add j)=some v)
  (hu:P.underlying ty=some d) (hd:d.isRow=true) (hi:(P.info? ty).map (·.size)=some cs.length) :
  (Instr.loadAt ty (.pointer (some p))).run P w=.ok (.agg cs.toArray) w:=by
 have hl:=run_loadCells_list (P:=P) w p cs hc
 cases hq:P.info? ty with
 | none=>simp[hq] at hi
 | some i =>
  have hs:i.size=cs.length:=by simpa [hq] using hi
  have hagg:(isAgg ty).run P w=.ok true w:=by
   unfold isAgg;rw[Sem.run_bind,run_underlying hu w]
   cases d<;>simp_all
  simp[Instr.loadAt,Instr.sureAddr,loadVar,Sem.run_bind,hagg,sizeOf,typeInfo,hq,hs,hl]
theorem wp_load_row {P:Program} {op:Oper} {a:Act} {w:World} {K:Act->World->Prop} {Q:Exit->Act->World->Prop} (ty:TypeId) (x:Operand) (ho:op.op=.load ty x)
  (p:Addr) (hx:a.eval x=.pointer (some p)) (cs:List Value) (d:TypeDesc) (hc:∀ j v,cs[j]?=some v->w.cell? (p.add j)=some v)
  (hu:P.underlying ty=some d) (hd:d.isRow=true) (hi:(P.info? ty).map (·.size)=some cs.length)
  (h:K (a.put op.dst (.agg cs.toArray)) w):op.wp P a w K Q:=by
 unfold Oper.wp execOp;simp only[ho,hx,Sem.run_bind,Sem.run_pure,Result.andThen_ok,run_loadAt_row w p ty cs d hc hu hd hi];exact h
theorem named_p (k:Nat) (t:Tok) (ko:Option Addr) (n c:Nat) (w:World) :
  Calls Tryz.prog 157 #[.int .i64 (k:Nat),tokV t,.slice ko n c] w fun e w'=>e=.returned (xv ⟨(k:Nat),⟨t.text.toArray⟩,⟨#[]⟩,false,none,0,0,ko,n,c,(t.line:Nat),(t.col:Nat)⟩)/\Below w.heap.size w w':=by
 have hp:=fun w=>part_p k t ko n c w
 simp only[tokV,xv] at hp ⊢;have HPt:=h_ hp;clear hp;go_enter Tryz.func157,Tryz.ntmps157
 go_upto_region 1 with fail
 obtain⟨w1,hw1⟩:∃ x,x=w.alloc (.cells #[.int .i64 (t.kind:Nat),.string ⟨t.text.toArray⟩,.int .i64 (t.line:Nat),.int .i64 (t.col:Nat)] 97):=⟨_,rfl⟩
 obtain⟨w2,hw2⟩:∃ x,x=w1.alloc (.cells #[.int .i64 0,.string ⟨#[]⟩,.string ⟨#[]⟩,.bool false,.slice none 0 0,.slice none 0 0,.int .i64 0,.int .i64 0] 46):=⟨_,rfl⟩
 have hb1:Below w.heap.size w w1:=by rw[hw1];exact (Below.refl _ _).alloc (Nat.le_refl _) _
 have hs1:w1.heap.size=w.heap.size+1:=by rw[hw1];simp
 have hb2:Below w1.heap.size w1 w2:=by rw[hw2];exact (Below.refl _ _).alloc (Nat.le_refl _) _
 have ht1:w1.heap[w.heap.size]?=some (.cells #[.int .i64 (t.kind:Nat),.string ⟨t.text.toArray⟩,.int .i64 (t.line:Nat),.int .i64 (t.col:Nat)] 97 (0,0)):=by rw[hw1];exact made_at w _ _ rfl
 have hr2:w2.heap[w.heap.size+1]?=some (.cells #[.int .i64 0,.string ⟨#[]⟩,.string ⟨#[]⟩,.bool false,.slice none 0 0,.slice none 0 0,.int .i64 0,.int .i64 0] 46 (0,0)):=by rw[hw2,<-hs1];exact made_at w1 _ _ rfl
 have ht2:=(hb2.block _ (lt_of_block ht1)).trans ht1;rw[<-hw1,<-hw2];obtain⟨kt,hkt⟩:∃ k,k=w.heap.size:=⟨_,rfl⟩
 obtain⟨kr,hkr⟩:∃ k,k=w.heap.size+1:=⟨_,rfl⟩
 have hBB:Below w.heap.size w w2:=hb1.trans (hb2.mono hb1.size);rw[<-hkt] at ht2 hkr ⊢;rw[<-hkt,<-hkr] at hr2;rw[<-hkr];have HT:=h_ ht2;have HR:=h_ hr2;have HB:=h_ hBB;have hlt:kt<kr:=by omega
 have hN:w.heap.size<=kt:=by omega
 clear hw1 hw2 hb1 hb2 ht1 ht2 hr2 hBB hkt hkr hs1;obtain⟨x0,x1,x2,x3⟩:=cl4 HT.out;go_wp2_with fail
 refine (HPt.out w2).mono ?_;rintro e w3 ⟨rfl,hb⟩;have HT3:=kB hb HT;have HR3:=kB hb HR;have HB3:=bw_ HB hb;clear hb x0 x1 x2 x3;go_upto_region 2 with fail
 obtain⟨w4,hw4⟩:∃ x,x=w3.alloc (.cells #[.int .i64 (k:Nat),.string ⟨#[]⟩,.string ⟨#[]⟩,.bool false,.slice none 0 0,.slice ko n c,.int .i64 (t.line:Nat),.int .i64 (t.col:Nat)] 46):=⟨_,rfl⟩
 have hb4:Below w3.heap.size w3 w4:=by rw[hw4];exact (Below.refl _ _).alloc (Nat.le_refl _) _
 have hv4:w4.heap[w3.heap.size]?=some (.cells #[.int .i64 (k:Nat),.string ⟨#[]⟩,.string ⟨#[]⟩,.bool false,.slice none 0 0,.slice ko n c,.int .i64 (t.line:Nat),.int .i64 (t.col:Nat)] 46 (0,0)):=by rw[hw4];exact made_at w3 _ _ rfl
 rw[<-hw4];obtain⟨kv,hkv⟩:∃ k,k=w3.heap.size:=⟨_,rfl⟩
 have hlv:kr<kv:=by rw[hkv];exact lt_of_block HR3.out
 rw[<-hkv] at hv4 ⊢;have HT4:=kB hb4 HT3;have HR4:=kB hb4 HR3;have HB4:=h_ (HB3.out.trans (hb4.mono HB3.out.size));have HV4:=h_ hv4;clear hw4 hb4 hv4 hkv;have x1:=cell_at (v:=.string ⟨t.text.toArray⟩) HT4.out 1 rfl;have v1:=cell_at (v:=.string ⟨#[]⟩) HV4.out 1 rfl;have fv1:=froz_at HV4.out 1;go_upto_region 3 with fail
 obtain⟨w5,hw5⟩:∃ x,x=w4.setCell ⟨kv,1,none⟩ (.string ⟨t.text.toArray⟩):=⟨_,rfl⟩
 have hg5:w4.grownBy w5 (some kv):=by rw[hw5];exact grown_set _ kv 1 _
 have hv5:w5.heap[kv]?=some (.cells #[.int .i64 (k:Nat),.string ⟨t.text.toArray⟩,.string ⟨#[]⟩,.bool false,.slice none 0 0,.slice ko n c,.int .i64 (t.line:Nat),.int .i64 (t.col:Nat)] 46 (0,0)):=by rw[hw5,heap_setCell_same _ kv 1 _ _ _ HV4.out];rfl
 have hr5:=(hg5.block kr (lt_of_block HR4.out) (fun e=>by injection e with e;omega)).trans HR4.out;have hB5:Below w.heap.size w w5:=HB4.out.trans (grown_below hg5 HB4.out.size (by omega));rw[<-hw5];have HV5:=h_ hv5;have HR5:=h_ hr5;have HB5:=h_ hB5;clear hw5 hg5 hv5 hr5 hB5 x1 v1 fv1;obtain⟨v0,v1,v2,v3,v4,v5,v6,v7⟩:=cl8 HV5.out;obtain⟨z0,z1,z2,z3,z4,z5,z6,z7⟩:=cl8 HR5.out;obtain⟨f0,f1,f2,f3,f4,f5,f6,f7⟩:=fr8 HR5.out;go_wp2_with fail
 exact bodyPost_ret (v:=.agg #[.int .i64 (k:Nat),.string ⟨t.text.toArray⟩,.string ⟨#[]⟩,.bool false,.slice none 0 0,.slice ko n c,.int .i64 (t.line:Nat),.int .i64 (t.col:Nat)]) (by simp[results,Tryz.results157,go_sem,z0,z1,z2,z3,z4,z5,z6,z7]) rfl ⟨rfl,st8_below HB5.out (by omega) _ _ _ _ _ _ _ _⟩
theorem unary_p (l:Bs) (w:World) :
  Calls Tryz.prog 139 #[.string ⟨l.toArray⟩] w fun e w'=>e=.returned (.tuple #[.int .i64 (((unOf l).getD 0:Nat)),.bool (unOf l).isSome])/\w'=w:=by
 by_cases h1:l=[45]
 ·subst h1;go_enter Tryz.func139,Tryz.ntmps139
  go_wp2
  go_ret2
  exact⟨rfl,rfl⟩
 by_cases h2:l=[110,111,116]
 ·subst h2;go_enter Tryz.func139,Tryz.ntmps139
  go_wp2
  go_ret2
  exact⟨rfl,rfl⟩
 by_cases h3:l=[108,101,110]
 ·subst h3;go_enter Tryz.func139,Tryz.ntmps139
  go_wp2
  go_ret2
  exact⟨rfl,rfl⟩
 by_cases h4:l=[104,100]
 ·subst h4;go_enter Tryz.func139,Tryz.ntmps139
  go_wp2
  go_ret2
  exact⟨rfl,rfl⟩
 by_cases h5:l=[116,108]
 ·subst h5;go_enter Tryz.func139,Tryz.ntmps139
  go_wp2
  go_ret2
  exact⟨rfl,rfl⟩
 have HU:Hid (unOf l=none):=h_ (by unfold unOf;rw[if_neg h1,if_neg h2,if_neg h3,if_neg h4,if_neg h5]);have e1:(l==[45])=false:=by simpa using h1
 have e2:(l==[110,111,116])=false:=by simpa using h2
 have e3:(l==[108,101,110])=false:=by simpa using h3
 have e4:(l==[104,100])=false:=by simpa using h4
 have e5:(l==[116,108])=false:=by simpa using h5
 clear h1 h2 h3 h4 h5;go_enter Tryz.func139,Tryz.ntmps139
 go_wp2
 go_ret2
 rw[HU.out];exact⟨rfl,rfl⟩
def opC (op:Bop):List Value:=[.string ⟨op.sign.toArray⟩,.int .i64 (op.kind:Nat),.int .i64 (op.level:Nat),.int .i64 (op.left:Nat),.int .i64 (op.right:Nat)]
def opV (o:Option Bop):Value:=match o with
 | some op=>.agg #[.string ⟨op.sign.toArray⟩,.int .i64 (op.kind:Nat),.int .i64 (op.level:Nat),.int .i64 (op.left:Nat),.int .i64 (op.right:Nat)]
 | none=>.agg #[.string ⟨#[]⟩,.int .i64 0,.int .i64 0,.int .i64 0,.int .i64 0]
def OpsAt (w:World):Prop:=∀ j v,(bops.flatMap opC)[j]?=some v->w.cell? ⟨4,j,none⟩=some v
theorem OpsAt.below {w w':World} (h:OpsAt w) (hb:Below w.heap.size w w'):OpsAt w':=fun j v hv=>by rw[hb.cell (cell_lt (h j v hv))];exact h j v hv
theorem OpsAt.grown {w w':World} {g:Nat} (h:OpsAt w) (hg:w.grownBy w' (some g)) (hn:4<g):OpsAt w':=fun j v hv=>by
 have hl:=cell_lt (h j v hv);rw[World.cell?_of_block (hg.block _ hl (fun e=>by injection e with e;simp only at e;omega))];exact h j v hv
theorem idx_op0 (w:World):(Instr.index 216 (.agg (bops.flatMap opC).toArray) (.int .i64 ((0:Nat):Int))).run Tryz.prog w=.ok (opV (some (bops[0]'(by decide)))) w:=by kernel_rfl
theorem idx_op1 (w:World):(Instr.index 216 (.agg (bops.flatMap opC).toArray) (.int .i64 ((1:Nat):Int))).run Tryz.prog w=.ok (opV (some (bops[1]'(by decide)))) w:=by kernel_rfl
theorem idx_op2 (w:World):(Instr.index 216 (.agg (bops.flatMap opC).toArray) (.int .i64 ((2:Nat):Int))).run Tryz.prog w=.ok (opV (some (bops[2]'(by decide)))) w:=by kernel_rfl
theorem idx_op3 (w:World):(Instr.index 216 (.agg (bops.flatMap opC).toArray) (.int .i64 ((3:Nat):Int))).run Tryz.prog w=.ok (opV (some (bops[3]'(by decide)))) w:=by kernel_rfl
theorem idx_op4 (w:World):(Instr.index 216 (.agg (bops.flatMap opC).toArray) (.int .i64 ((4:Nat):Int))).run Tryz.prog w=.ok (opV (some (bops[4]'(by decide)))) w:=by kernel_rfl
theorem idx_op5 (w:World):(Instr.index 216 (.agg (bops.flatMap opC).toArray) (.int .i64 ((5:Nat):Int))).run Tryz.prog w=.ok (opV (some (bops[5]'(by decide)))) w:=by kernel_rfl
theorem idx_op6 (w:World):(Instr.index 216 (.agg (bops.flatMap opC).toArray) (.int .i64 ((6:Nat):Int))).run Tryz.prog w=.ok (opV (some (bops[6]'(by decide)))) w:=by kernel_rfl
theorem idx_op7 (w:World):(Instr.index 216 (.agg (bops.flatMap opC).toArray) (.int .i64 ((7:Nat):Int))).run Tryz.prog w=.ok (opV (some (bops[7]'(by decide)))) w:=by kernel_rfl
theorem idx_op8 (w:World):(Instr.index 216 (.agg (bops.flatMap opC).toArray) (.int .i64 ((8:Nat):Int))).run Tryz.prog w=.ok (opV (some (bops[8]'(by decide)))) w:=by kernel_rfl
theorem idx_op9 (w:World):(Instr.index 216 (.agg (bops.flatMap opC).toArray) (.int .i64 ((9:Nat):Int))).run Tryz.prog w=.ok (opV (some (bops[9]'(by decide)))) w:=by kernel_rfl
theorem idx_op10 (w:World):(Instr.index 216 (.agg (bops.flatMap opC).toArray) (.int .i64 ((10:Nat):Int))).run Tryz.prog w=.ok (opV (some (bops[10]'(by decide)))) w:=by kernel_rfl
theorem idx_op11 (w:World):(Instr.index 216 (.agg (bops.flatMap opC).toArray) (.int .i64 ((11:Nat):Int))).run Tryz.prog w=.ok (opV (some (bops[11]'(by decide)))) w:=by kernel_rfl
theorem idx_op12 (w:World):(Instr.index 216 (.agg (bops.flatMap opC).toArray) (.int .i64 ((12:Nat):Int))).run Tryz.prog w=.ok (opV (some (bops[12]'(by decide)))) w:=by kernel_rfl
theorem idx_op13 (w:World):(Instr.index 216 (.agg (bops.flatMap opC).toArray) (.int .i64 ((13:Nat):Int))).run Tryz.prog w=.ok (opV (some (bops[13]'(by decide)))) w:=by kernel_rfl
theorem idx_op (j:Nat) (hj:j<bops.length) (w:World):(Instr.index 216 (.agg (bops.flatMap opC).toArray) (.int .i64 (j:Nat))).run Tryz.prog w=.ok (opV (some bops[j])) w:=by
 have h14:j<14:=hj;have:j=0\/j=1\/j=2\/j=3\/j=4\/j=5\/j=6\/j=7\/j=8\/j=9\/j=10\/j=11\/j=12\/j=13:=by omega
 rcases this with rfl | rfl | rfl | rfl | rfl | rfl | rfl | rfl | rfl | rfl | rfl | rfl | rfl | rfl 
 ·exact idx_op0 w
 ·exact idx_op1 w
 ·exact idx_op2 w
 ·exact idx_op3 w
 ·exact idx_op4 w
 ·exact idx_op5 w
 ·exact idx_op6 w
 ·exact idx_op7 w
 ·exact idx_op8 w
 ·exact idx_op9 w
 ·exact idx_op10 w
 ·exact idx_op11 w
 ·exact idx_op12 w
 exact idx_op13 w
theorem find_step {l:Bs} {j:Nat} (hj:j<bops.length) (h:bopOf l=(bops.drop j).find? (·.sign==l)) (hn:(bops[j].sign==l)=false):bopOf l=(bops.drop (j+1)).find? (·.sign==l):=by
 rw[h,List.drop_eq_getElem_cons hj,List.find?_cons,hn]
theorem find_hit {l:Bs} {j:Nat} (hj:j<bops.length) (h:bopOf l=(bops.drop j).find? (·.sign==l)) (hn:(bops[j].sign==l)=true):bopOf l=some bops[j]:=by
 rw[h,List.drop_eq_getElem_cons hj,List.find?_cons,hn]
theorem below_set5 {w w':World} {k:Nat} (h:Below w.heap.size w w') (hk:w.heap.size<=k) (a b c d e:Value):Below w.heap.size w (((((w'.setCell ⟨k,0,none⟩ a).setCell ⟨k,1,none⟩ b).setCell ⟨k,2,none⟩ c).setCell ⟨k,3,none⟩ d).setCell ⟨k,4,none⟩ e):=
 ((((h.setCell (by simpa using hk) _).setCell (by simpa using hk) _).setCell (by simpa using hk) _).setCell (by simpa using hk) _).setCell (by simpa using hk) _
theorem binop_p (l:Bs) (w:World) (ht:OpsAt w) :
  Calls Tryz.prog 116 #[.string ⟨l.toArray⟩] w fun e w'=>e=.returned (.tuple #[opV (bopOf l),.bool (bopOf l).isSome])/\Below w.heap.size w w':=by
 obtain⟨w1,hw1⟩:∃ x,x=w.alloc (.cells #[.string ⟨#[]⟩,.int .i64 0,.int .i64 0,.int .i64 0,.int .i64 0] 200):=⟨_,rfl⟩
 have hb1:Below w.heap.size w w1:=by rw[hw1];exact (Below.refl _ _).alloc (Nat.le_refl _) _
 have hk1:w1.heap[w.heap.size]?=some (.cells #[.string ⟨#[]⟩,.int .i64 0,.int .i64 0,.int .i64 0,.int .i64 0] 200 (0,0)):=by rw[hw1];exact made_at w _ _ rfl
 have HC:=h_ (ht.below hb1);have HI:=h_ idx_op;have HW:=h_ hw1;obtain⟨kr,hkr⟩:∃ k,k=w.heap.size:=⟨_,rfl⟩
 have hN:w.heap.size<=kr:=by omega
 rw[<-hkr] at hk1;have HKR:=h_ hkr;have HR:=h_ hk1;have HB:=h_ hb1;clear hw1 hb1 hk1 hkr ht;go_enter Tryz.func116,Tryz.ntmps116
 go_upto_region 1 with fail
 rw[<-HW.out,<-HKR.out];refine wp_region_lit ?_;refine wpList_plain rfl fun K0 hK0=>?_
 refine wp_load_row 216 (.global 4) rfl ⟨4,0,none⟩ rfl (bops.flatMap opC) _ (fun j v hv=>by rw[add_lit,Nat.zero_add];exact HC.out j v hv) Tryz.underlying216 rfl (by kernel_rfl) ?_;refine hK0 _ _ ?_;clear hK0;generalize Value.agg (bops.flatMap opC).toArray=vq at HI ⊢;go_wp2_with fail
 go_loopw [7] (fun i wr=>∃ j:Nat,i=.int .i64 (j:Nat)/\j<=14/\Hid (bopOf l=(bops.drop j).find? (·.sign==l))/\Hid (Below w1.heap.size w1 wr)) (fun i _=>14 - (intOf i).toNat)
 case atStart=>exact⟨0,rfl,Nat.zero_le _,h_ rfl,h_ (Below.refl _ _)⟩
 case round =>
  obtain⟨j,rfl,hj,HF,HBr⟩:=hrel;have HR2:=kB HBr.out HR;have HB2:=h_ (HB.out.trans (HBr.out.mono HB.out.size))
  by_cases hlt:j<14
  ·have hjl:j<bops.length:=hlt;have hi:=fun w=>HI.out j hjl w
   have HS:=h_ (fun h=>find_step hjl HF.out h);have HT:=h_ (fun h=>find_hit hjl HF.out h);obtain⟨op,hop⟩:∃ op,op=bops[j]:=⟨_,rfl⟩
   rw[<-hop] at HS HT hi;simp only[opV] at hi;clear hop
   cases hq:(op.sign==l)
   ·go_wp2_with fail
    go_roundw
    case rel=>exact⟨j+1,by go_num,by omega,h_ (HS.out hq),h_ (HBr.out.alloc HBr.out.size _)⟩
    case measure=>simp[intOf];omega
   go_upto_region 5 with fail
   obtain⟨w3,hw3⟩:∃ x,x=wr.alloc (.cells #[.string ⟨op.sign.toArray⟩,.int .i64 (op.kind:Nat),.int .i64 (op.level:Nat),.int .i64 (op.left:Nat),.int .i64 (op.right:Nat)] 200):=⟨_,rfl⟩
   have hb3:Below wr.heap.size wr w3:=by rw[hw3];exact (Below.refl _ _).alloc (Nat.le_refl _) _
   have hk3:w3.heap[wr.heap.size]?=some (.cells #[.string ⟨op.sign.toArray⟩,.int .i64 (op.kind:Nat),.int .i64 (op.level:Nat),.int .i64 (op.left:Nat),.int .i64 (op.right:Nat)] 200 (0,0)):=by rw[hw3];exact made_at wr _ _ rfl
   have hr3:=(hb3.block _ (lt_of_block HR2.out)).trans HR2.out;rw[<-hw3];have HB3:=h_ (HB2.out.trans (hb3.mono HB2.out.size));have HO:=h_ hk3;clear hw3 hb3;obtain⟨o0,o1,o2,o3,o4⟩:=cl5 HO.out;have z0:=cell_at (v:=.string ⟨#[]⟩) hr3 0 rfl;have z1:=cell_at (v:=.int .i64 0) hr3 1 rfl;have z2:=cell_at (v:=.int .i64 0) hr3 2 rfl;have z3:=cell_at (v:=.int .i64 0) hr3 3 rfl;have z4:=cell_at (v:=.int .i64 0) hr3 4 rfl;have f0:=froz_at hr3 0;have f1:=froz_at hr3 1;have f2:=froz_at hr3 2;have f3:=froz_at hr3 3;have f4:=froz_at hr3 4;clear hk3 hr3;go_wp2_with fail
   refine bodyPost_ret (v:=.tuple #[.agg #[.string ⟨op.sign.toArray⟩,.int .i64 (op.kind:Nat),.int .i64 (op.level:Nat),.int .i64 (op.left:Nat),.int .i64 (op.right:Nat)],.bool true]) (by simp[results,Tryz.results116,go_sem,z0,z1,z2,z3,z4]) rfl ⟨by rw[HT.out hq];rfl,below_set5 HB3.out hN _ _ _ _ _⟩
  have e:j=14:=by omega
  subst e;have HN:Hid (bopOf l=none):=h_ (by rw[HF.out];rfl);obtain⟨z0,z1,z2,z3,z4⟩:=cl5 HR2.out;obtain⟨f0,f1,f2,f3,f4⟩:=fr5 HR2.out;go_wp2_with fail
  refine bodyPost_ret (v:=.tuple #[.agg #[.string ⟨#[]⟩,.int .i64 0,.int .i64 0,.int .i64 0,.int .i64 0],.bool false]) (by simp[results,Tryz.results116,go_sem,z0,z1,z2,z3,z4]) rfl ⟨by rw[HN.out];rfl,below_set5 HB2.out hN _ _ _ _ _⟩
def TreePost (w:World) (g:Nat) (u:U) (s':St) (e:Ending) (w':World):Prop:=∃ x,e=.returned (xv x)/\Um w' (fun b=>w.heap.size<=b) x u/\Did w g s' w'
def GOps (w:World) (g:Nat):Prop:=OpsAt w/\4<g
theorem GOps.below {w w':World} {g:Nat} (h:GOps w g) (hb:Below w.heap.size w w'):GOps w' g:=⟨h.1.below hb,h.2⟩
theorem GOps.grown {w w':World} {g k:Nat} (h:GOps w g) (hg:w.grownBy w' (some k)) (hk:g<=k):GOps w' g:=⟨h.1.grown hg (Nat.lt_of_lt_of_le h.2 hk),h.2⟩
def ExprAt7 (n:Nat):Prop:=∀ (g:Nat) (s:St) (r:U × St) (w:World),PS w g s->GOps w g->cExpr n s=some r->Calls Tryz.prog 58 #[.pointer (some ⟨g,0,none⟩)] w (TreePost w g r.1 r.2)
def LetAt (n:Nat):Prop:=∀ (g:Nat) (s:St) (r:U × St) (w:World),PS w g s->GOps w g->cLet n s=some r->Calls Tryz.prog 91 #[.pointer (some ⟨g,0,none⟩)] w (TreePost w g r.1 r.2)
def IfAt (n:Nat):Prop:=∀ (g:Nat) (s:St) (r:U × St) (w:World),PS w g s->GOps w g->cIf n s=some r->Calls Tryz.prog 92 #[.pointer (some ⟨g,0,none⟩)] w (TreePost w g r.1 r.2)
def MatchAt (n:Nat):Prop:=∀ (g:Nat) (s:St) (r:U × St) (w:World),PS w g s->GOps w g->cMatch n s=some r->Calls Tryz.prog 93 #[.pointer (some ⟨g,0,none⟩)] w (TreePost w g r.1 r.2)
def AssertAt (n:Nat):Prop:=∀ (g:Nat) (s:St) (r:U × St) (w:World),PS w g s->GOps w g->cAssert n s=some r->Calls Tryz.prog 94 #[.pointer (some ⟨g,0,none⟩)] w (TreePost w g r.1 r.2)
def BinAt (n:Nat):Prop:=∀ (g:Nat) (l:Nat) (s:St) (r:U × St) (w:World),PS w g s->GOps w g->cBin n l s=some r->Calls Tryz.prog 95 #[.pointer (some ⟨g,0,none⟩),.int .i64 (l:Nat)] w (TreePost w g r.1 r.2)
def OneAt (n:Nat):Prop:=∀ (g:Nat) (s:St) (r:U × St) (w:World),PS w g s->GOps w g->cOne n s=some r->Calls Tryz.prog 115 #[.pointer (some ⟨g,0,none⟩)] w (TreePost w g r.1 r.2)
def AtomAt (n:Nat):Prop:=∀ (g:Nat) (s:St) (r:U × St) (w:World),PS w g s->GOps w g->cAtom n s=some r->Calls Tryz.prog 140 #[.pointer (some ⟨g,0,none⟩)] w (TreePost w g r.1 r.2)
def ArgsAt (n:Nat):Prop:=∀ (g:Nat) (s:St) (r:List U × St) (w:World),PS w g s->GOps w g->cArgs n s=some r->Calls Tryz.prog 158 #[.pointer (some ⟨g,0,none⟩)] w fun e w'=>∃ ko c,e=.returned (.slice ko r.1.length c)/\(r.1.length<=c/\c<=maxLen)/\(r.1.length≠0->∀ a,ko=some a->w.heap.size<=a.block)/\Ums w' (fun b=>w.heap.size<=b) ko 0 r.1/\Did w g r.2 w'
theorem ums_blk {w:World} {S:Nat->Prop} {k:Nat} {T:TypeId}:∀ {ys:List X} {us:List U},w.heap[k]?=some (.cells (ys.flatMap xc).toArray T (0,0))->ys.length=us.length->(∀ i (h1:i<ys.length) (h2:i<us.length),Um w S ys[i] us[i])->Ums w S (some ⟨k,0,none⟩) 0 us:=by
 intro ys us hB hl h;refine ums_of 0 fun j hj=>⟨ys[j],⟨_,rfl,fun i v hv=>?_⟩,h j (by omega) hj⟩
 have hi8:i<8:=by have:=(List.getElem?_eq_some_iff.1 hv).1;simpa [xc] using this
 rw[add_lit,add_lit,Nat.zero_add,Nat.zero_add];refine cell_at hB _ ?_;rw[gsa,flat_at ys j i (by omega) hi8];exact hv
theorem um_node {w:World} {S:Nat->Prop} (k:Nat) (nm ot:Bs) (ln cl:Nat) (kk:Nat) {T:TypeId} (ys:List X) (us:List U) (n:Nat) (hn:n=us.length) (hS:S kk) (hB:w.heap[kk]?=some (.cells (ys.flatMap xc).toArray T (0,0))) (hl:ys.length=us.length) (h:∀ i (h1:i<ys.length) (h2:i<us.length),Um w S ys[i] us[i]) (hb:n<=1000:=by decide) :
  Um w S ⟨(k:Nat),⟨nm.toArray⟩,⟨ot.toArray⟩,false,none,0,0,some ⟨kk,0,none⟩,n,n,(ln:Nat),(cl:Nat)⟩ (.node k nm ot 0 ln cl us):=by
 rw[Um];refine⟨⟨rfl,rfl,rfl,rfl,rfl,rfl⟩,⟨?_,fun h=>absurd rfl h⟩,⟨hn,⟨Nat.le_refl _,show n<=maxLen by unfold maxLen;omega⟩,fun _ a h=>by injection h with h;subst h;exact hS⟩,ums_blk hB hl h⟩;rw[dig_zero];exact⟨none,0,rfl,Nat.le_refl _,by omega,fun _=>rfl,fun i hi=>by simp at hi⟩
theorem um_leaf {w:World} {S:Nat->Prop} (k:Nat) (nm ot:Bs) (ln cl:Nat):Um w S ⟨(k:Nat),⟨nm.toArray⟩,⟨ot.toArray⟩,false,none,0,0,none,0,0,(ln:Nat),(cl:Nat)⟩ (.node k nm ot 0 ln cl []):=by
 rw[Um];refine⟨⟨rfl,rfl,rfl,rfl,rfl,rfl⟩,⟨?_,fun h=>absurd rfl h⟩,⟨rfl,⟨Nat.le_refl _,Nat.zero_le _⟩,fun h=>absurd rfl h⟩,by rw[Ums];trivial⟩;rw[dig_zero];exact⟨none,0,rfl,Nat.le_refl _,by omega,fun _=>rfl,fun i hi=>by simp at hi⟩
theorem all1 {P:X->U->Prop} {a:X} {u:U} (h:P a u):∀ i (h1:i < [a].length) (h2:i < [u].length),P [a][i] [u][i]:=by
 intro i h1 h2;simp at h1;subst h1;exact h
theorem all2 {P:X->U->Prop} {a b:X} {u v:U} (h:P a u) (k:P b v):∀ i (h1:i < [a,b].length) (h2:i < [u,v].length),P [a,b][i] [u,v][i]:=by
 intro i h1 h2
 match i,h1,h2 with
 | 0,_,_=>exact h
 | 1,_,_=>exact k
 | i+2,h1,_=>simp at h1;omega
theorem all3 {P:X->U->Prop} {a b c:X} {u v x:U} (h:P a u) (k:P b v) (l:P c x):∀ i (h1:i < [a,b,c].length) (h2:i < [u,v,x].length),P [a,b,c][i] [u,v,x][i]:=by
 intro i h1 h2
 match i,h1,h2 with
 | 0,_,_=>exact h
 | 1,_,_=>exact k
 | 2,_,_=>exact l
 | i+3,h1,_=>simp at h1;omega
end Go.Proofs.YtkocdbgmckdcpaaGreatDoor
