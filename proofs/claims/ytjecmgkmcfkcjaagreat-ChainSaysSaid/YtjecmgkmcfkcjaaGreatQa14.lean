/-
  Texts beneath the proof.
-/
import Derived.DeepKeys4
import Derived.Test.YtjecmgkmcfkcjaaGreatQa13
import Derived.Test.YtjecmgkmcfkcjaaGreatQa5
import Derived.Test.YtjecmgkmcfkcjaaGreatQa1
import Derived.Test.YtjecmgkmcfkcjaaGreatQa12
set_option linter.unusedVariables false
set_option linter.unusedSimpArgs false
set_option maxRecDepth 100000
set_option maxHeartbeats 8000000
open Go.ChangeShapes Go.WideShapes Go.ChangeAt Go.RowKit
namespace Go.Proofs.YtjecmgkmcfkcjaaGreat
namespace Yi
open Bytes8 Blk8 Own8 OwnE Rows2 Dc Yc Yj
theorem samePlaces_yes (A B:Option Addr)(n c d:Nat)(f:Nat→Int)(w:World)(h1:InInts .u64 w A n f)(h2:InInts .u64 w B n f)(hn:n≤1000000):
 Calls Tryz.prog 19 #[.slice A n c,.slice B n d] w fun e w'=>e= .returned (.bool true)∧Below w.heap.size w w':=by
 have HA:=jH h1
 have HB:=jH h2
 clear h1 h2
 go_enter Tryz.func19,Tryz.ntmps19
 go_wp2
 go_loopw [5] (fun i wr=> ∃k:Nat,k≤n∧i= .int .i64 (k:Int)∧Hid (Below w.heap.size w wr)) (fun i _=>n-(intOf i).toNat)
 case atStart=>exact⟨0,Nat.zero_le _,rfl,jH (Below.refl _ _)⟩
 case round=>
  obtain⟨k,hk,rfl,hb⟩:=hrel
  by_cases hlt:k<n
  ·obtain⟨b1,o1,rfl,_,c1,_⟩:=(HA.out.below hb.out.drew) k hlt
   obtain⟨b2,o2,rfl,_,c2,_⟩:=(HB.out.below hb.out.drew) k hlt
   have hk0:(0:Int)≤(k:Int):=by omega
   have hkn:(k:Int)<(n:Int):=by omega
   generalize f k=x at*
   go_wp2
   go_region
   all_goals
    go_wp2
    go_roundw
    case rel=>exact⟨k+1,by omega,by go_num,jH hb.out.drew⟩
    case measure=>simp[intOf];omega
  ·obtain rfl:k=n:=by omega
   go_wp2
   go_ret
   exact⟨rfl,hb.out⟩
def two (f g:Nat→Int)(k:Nat):List Value:=(prs f g k).map (Value.int .u64)
theorem two_succ (f g:Nat→Int)(k:Nat):two f g (k+1)=two f g k++ [.int .u64 (f k),.int .u64 (g k)]:=by unfold two;rw[prs_succ];simp
theorem own_in2 {E:TypeId}{w:World}{base c k:Nat}{A:Option Addr}{f g:Nat→Int}(h:OwnE E 2 w base A k c (two f g k))(hf:Wd f k)(hg:Wd g k):In2 w A k f g:=fun i hi=>by
 have hl:(two f g k).length=2*k:=by unfold two;rw[List.length_map,prs_len]
 obtain⟨p1,p2⟩:=prs_at f g k i hi
 obtain⟨b,rfl,_,hlt,c1⟩:=h.cell (i:=i*2) (by omega)
 obtain⟨b2,e2,_,_,c2⟩:=h.cell (i:=i*2+1) (by omega)
 simp at e2
 subst e2
 refine⟨b,0,rfl,hlt,?_,?_,hf i hi,hg i hi⟩
 ·rw[Nat.zero_add,c1];unfold two;rw[List.getElem?_map,p1];rfl
 ·rw[Nat.zero_add,c2];unfold two;rw[List.getElem?_map,p2];rfl
end Yi
namespace Yz
theorem wpList_build_as {P:Program}{ops:Array Oper}{rest:List Oper}{o:Oper}{a:Act}{w:World}{Q:Exit→Act→World→Prop}(hg:o.guard=none)(t:TypeId)(parts:Array (Nat×Operand))(ho:o.op= .build t parts)(cells:Array Value)
 (hb:P.built t (parts.map fun(i,x)=>(i,a.eval x)).toList=some cells)(h:wpList P ops Q rest (a.put o.dst (.agg cells)) w):wpList P ops Q (o::rest) a w:=
 wpList_build hg t parts ho (by rw[hb];rfl) (by rw[hb];exact h)
end Yz
namespace Yl
open Bytes8 Blk8 Own8 OwnE Ob Oc Oi Rows2 Kf Yp Ye Yg Yh Yi
theorem rslotElt:Elt 147 144 2 16 (.agg #[.int .u64 0,.int .u64 0]):=⟨Tryz.underlying144,by kernel_rfl,rfl,by decide⟩
theorem ru_z (A:Option Addr)(l:List Int)(n cap i:Nat)(z:Int)(w:World)(hb:Bytes w A l)(hL:l.length=n)(hn:n≤1000000)(hi:i+8≤n)(hz:z=(i:Int)):
 Calls Tryz.prog 180 #[.slice A n cap,.int .u64 z] w fun e w'=>e= .returned (.int .u64 (u8 l i))∧w=w':=by
 subst hz;exact ru_any A l n cap i w hb hL hn hi
def rcode (l:List Int)(a:Nat)(k:Int):Int:=if code l a≠0 then code l a else if kindL l a≠k then 4 else 0
theorem ecode_r (l:List Int)(a:Nat)(k:Int)(ah ea:Nat):ecode l a k ah ea=if rcode l a k≠0 then rcode l a k else if(bodyL l a).length<ah+ea∨(bodyL l a).length%ea≠0 then 5 else 0:=by
 unfold ecode rcode
 by_cases h1:code l a≠0
 ·rw[if_pos h1,if_pos h1,if_pos h1]
 ·rw[if_neg h1,if_neg h1]
  by_cases h2:kindL l a≠k
  ·rw[if_pos h2,if_pos h2,if_pos (by decide)]
  ·rw[if_neg h2,if_neg h2];rfl
def Rbodied (l:List Int)(a:Nat)(k:Int)(w:World)(e:Ending)(w':World):Prop:=
 ∃B m cb,e= .returned (.tuple #[.slice B m cb,.int .i64 (rcode l a k)])∧Below w.heap.size w w'∧(rcode l a k=0→Bytes w' B (bodyL l a)∧(bodyL l a).length=m∧m≤1000000)
theorem rbody_r (A:Option Addr)(l:List Int)(n cap a:Nat)(k:Int)(w:World)(hb:Bytes w A l)(hL:l.length=n)(hn:n≤1000000)(hc:n≤cap)(hcm:cap≤maxLen)(ha:a≤18446744073709551615):
 Calls Tryz.prog 186 #[.slice A n cap,.int .u64 (a:Int),.int .i64 k] w (Rbodied l a k w):=by
 refine(rbody_new A l n cap a k w hb hL hn hc hcm ha).mono fun e w' ⟨B,m,cb,h1,h2,h3⟩=>⟨B,m,cb,h1,h2,fun h=>?_⟩
 unfold rcode at h
 by_cases h4:code l a=0
 ·rw[if_neg (by omega)]at h
  by_cases h5:kindL l a=k
  ·obtain⟨q1,q2,_,_,q5,_⟩:=h3 h4 h5
   exact⟨q1,q2,q5⟩
  ·rw[if_pos h5]at h;omega
 ·rw[if_pos h4]at h;exact absurd h h4
theorem rreadTable_at (A:Option Addr)(l:List Int)(n cap a:Nat)(kd:Int)(w:World)(hb:Bytes w A l)(hL:l.length=n)(hn:n≤1000000)(hc:n≤cap)(hcm:cap≤maxLen)(ha:a≤18446744073709551615)(h45:kd=4∨kd=5):
 Calls Tryz.prog 134 #[.slice A n cap,.int .u64 (a:Int),.int .i64 kd] w (TabTold l a kd w):=by
 have HBo:=jH (rbody_r A l n cap a kd w hb hL hn hc hcm ha)
 unfold Rbodied at HBo
 have HAb:=jH (body_all (a:=a) hb.1)
 have htk:isTab kd=true:=by rcases h45 with rfl|rfl<;>rfl
 have hcd:tabC l a kd=ecode l a kd 0 16:=by unfold tabC;rw[if_pos htk]
 have hno:tabC l a kd≠0→taNum l a kd=0:=fun h=>if_neg h
 have hyes:tabC l a kd=0→taNum l a kd=taN (bodyL l a):=fun h=>if_pos h
 have hr:=ecode_r l a kd 0 16
 by_cases h1:rcode l a kd≠0
 ·rw[if_pos h1]at hr
  have HCe:=jH (hcd.trans hr)
  have HF:=jH (hno (by rw[HCe.out];exact h1))
  clear hcd hno hyes hb hL hr
  generalize rcode l a kd=cdd at*
  rcases h45 with rfl|rfl
  all_goals
   go_enter Tryz.func134,Tryz.ntmps134
   go_wp2_with(go_at_call 186;(with_reducible refine HBo.out.mono ?_);rintro e w2 ⟨B,m,cb,rfl,hbel,_⟩;have HB2:=jH hbel;clear hbel)
   refine bodyPost_ret (v:= .tuple #[.slice none 0 0,.int .i64 cdd]) (by simp[results,Tryz.results134,go_sem,Result.andThen]) rfl ?_
   unfold TabTold
   rw[HCe.out,HF.out]
   exact⟨none,0,rfl,HB2.out,in2_none _ _ _ _⟩
 have h0:rcode l a kd=0:=by omega
 rw[if_neg h1]at hr
 rw[h0]at HBo
 have HNu:=jH fun(i:Nat) (z:Int) (B:Option Addr) (m cb:Nat) (W:World) (hB:Bytes W B (bodyL l a)) (hm:(bodyL l a).length=m) (hm2:m≤1000000) (hz:z=(i:Int)) (hi:i+8≤m)=>ru_z B (bodyL l a) m cb i z W hB hm hm2 hi hz
 have HCd:=jH (hcd.trans hr)
 have HNo:=jH hno
 have HYe:=jH hyes
 have HTn:=jH (show taN (bodyL l a)=(bodyL l a).length/16 from rfl)
 clear hcd hno hyes hb hL h1 h0 hr
 generalize hbd0:bodyL l a=bd at*
 have HBD:=jH hbd0
 clear hbd0
 rcases h45 with rfl|rfl
 all_goals
  go_enter Tryz.func134,Tryz.ntmps134
  go_upto_region 6 with(go_at_call 186;(with_reducible refine HBo.out.mono ?_);rintro e w2 ⟨B,m,cb,rfl,hbel,hbd⟩)
  obtain⟨d1,d2,d5⟩:=hbd (by first|rfl|trivial)
  have HB2:=jH hbel
  have D1:=jH d1
  have D2:=jH d2
  clear d1 d2 hbel hbd
  have hsz:=D2.out
  by_cases hbad:m<16∨m%16≠0
  ·have HCe:=jH (HCd.out.trans (if_pos (by rw[D2.out];omega)))
   have HF:=jH (HNo.out (by rw[HCe.out];decide))
   by_cases hb1:m<16
   ·have e1:(m:Int)<16:=by omega
    clear hsz hbad
    go_wp2
    refine bodyPost_ret (v:= .tuple #[.slice none 0 0,.int .i64 5]) (by simp[results,Tryz.results134,go_sem,Result.andThen]) rfl ?_
    unfold TabTold
    rw[HCe.out,HF.out]
    exact⟨none,0,rfl,HB2.out,in2_none _ _ _ _⟩
   ·have e1: ¬(m:Int)<16:=by omega
    obtain⟨R,hR⟩: ∃R:Int,R=((m%16:Nat):Int):=⟨_,rfl⟩
    have e2:(m:Int).tmod 16=R:=by rw[Int.tmod_eq_emod_of_nonneg (by omega),hR];omega
    have e2':(m:Int)%16=R:=by rw[hR];omega
    have e3:(R==0)=false:=by simp;omega
    have e4:(R !=0)=true:=by simp;omega
    have e5: ¬R=0:=by omega
    clear hsz hbad hR
    go_wp2
    refine bodyPost_ret (v:= .tuple #[.slice none 0 0,.int .i64 5]) (by simp[results,Tryz.results134,go_sem,Result.andThen]) rfl ?_
    unfold TabTold
    rw[HCe.out,HF.out]
    exact⟨none,0,rfl,HB2.out,in2_none _ _ _ _⟩
  ·have HCe:=jH (HCd.out.trans (if_neg (by rw[D2.out];omega)))
   have HF:=jH (HYe.out HCe.out)
   obtain⟨t,ht⟩: ∃t,m=16*t:=⟨m/16,by omega⟩
   subst ht
   have htn:taN bd=t:=by rw[HTn.out,D2.out];omega
   have HTN:=jH htn
   have e1: ¬((16*t:Nat):Int)<16:=by omega
   have e2:((16*t:Nat):Int).tmod 16=0:=by rw[Int.tmod_eq_emod_of_nonneg (by omega)];omega
   have e2':((16*t:Nat):Int)%16=0:=by omega
   clear hsz hbad htn
   go_wp2_with fail
   go_loopw [10,11] (fun z i wr=> ∃(k:Nat) (A':Option Addr) (c':Nat),k≤t∧z= .slice A' k c'∧i= .int .i64 ((16*k:Nat):Int)∧Hid (OwnE 147 2 wr w2.heap.size A' k c' (two (taA bd) (taB bd) k))∧Hid (Below w2.heap.size w2 wr)) (fun _ i _=>16*t-(intOf i).toNat)
   case atStart=>exact⟨0,none,0,Nat.zero_le _,rfl,rfl,OwnE.nil _ _ (jR _),jH (Below.refl _ _)⟩
   case round=>
    obtain⟨k,A',c',hk,rfl,rfl,ho,hb⟩:=hrel
    by_cases hlt:k<t
    ·have Dr:=jH (D1.out.below hb.out (jR _))
     have hV:=two_succ (taA bd) (taB bd) k
     have hp1:taA bd k=u8 bd (16*k):=rfl
     have hp2:taB bd k=u8 bd (16*k+8):=rfl
     rw[hp1,hp2]at hV
     have HV:=jH hV
     have hlt':((16*k:Nat):Int)<((16*t:Nat):Int):=by omega
     have hsz2:=hb.out.size
     clear hV hp1 hp2
     go_wp2_with(first
      |(go_at_call 180;(with_reducible refine(HNu.out (16*k) _ _ _ _ _ Dr.out D2.out (by omega) (by omega) (by omega)).mono ?_);rintro e w' ⟨rfl,rfl⟩)
      |(go_at_call 180;(with_reducible refine(HNu.out (16*k+8) _ _ _ _ _ Dr.out D2.out (by omega) (by omega) (by omega)).mono ?_);rintro e w' ⟨rfl,rfl⟩)
      |(at_builtin;refine wpList_append_elt rslotElt rfl (.tmp 43) (.tmp 54) rfl w2.heap.size A' k c' _ rfl (ho.out.alloc _) ⟨wr.heap.size,0,none⟩ 1 1 [.int .u64 (u8 bd (16*k)),.int .u64 (u8 bd (16*k+8))] rfl rfl (Blk.news (Blk.new wr [.int .u64 (u8 bd (16*k)),.int .u64 (u8 bd (16*k+8))] 147)) (by intro u hu;simp at hu;rcases hu with rfl|rfl<;>rfl) (by omega) (by omega) ?_;intro A2 c2 w4 ho4 hb4;have HO4:=jH ho4;have HB4:=jH hb4;clear ho4 hb4))
     go_roundw
     case rel=>
      refine⟨k+1,A2,c2,by omega,rfl,by go_num,?_,jH ((hb.out.alloc hsz2 _).trans HB4.out)⟩
      rw[HV.out]
      exact HO4
     case measure=>simp[intOf];omega
    ·obtain rfl:k=t:=by omega
     have HI:=jH (own_in2 ho.out (fun i _=>u8_bd HAb.out _) (fun i _=>u8_bd HAb.out _))
     go_wp2
     refine bodyPost_ret (v:= .tuple #[.slice A' k c',.int .i64 0]) (by simp[results,Tryz.results134,go_sem,Result.andThen]) rfl ?_
     unfold TabTold
     rw[HCe.out,HF.out,HTN.out,HBD.out]
     exact⟨_,c',rfl,HB2.out.trans (hb.out.mono HB2.out.size),HI.out⟩
theorem rreadTable_any (A:Option Addr)(l:List Int)(n cap a:Nat)(kd:Int)(w:World)(hb:Bytes w A l)(hL:l.length=n)(hn:n≤1000000)(hc:n≤cap)(hcm:cap≤maxLen)(ha:a≤18446744073709551615):
 Calls Tryz.prog 134 #[.slice A n cap,.int .u64 (a:Int),.int .i64 kd] w (TabTold l a kd w):=by
 by_cases h45:kd=4∨kd=5
 ·exact rreadTable_at A l n cap a kd w hb hL hn hc hcm ha h45
 have h2: ¬kd=4:=fun h=>h45 (.inl h)
 have h3: ¬kd=5:=fun h=>h45 (.inr h)
 have h4:(kd !=4)=true:=by simpa using h2
 have h5:(kd !=5)=true:=by simpa using h3
 have htk:isTab kd=false:=by unfold isTab;simp;exact⟨h2,h3⟩
 have hcd:tabC l a kd=1:=by unfold tabC;rw[htk];rfl
 have HCe:=jH hcd
 have HF:=jH (show taNum l a kd=0 from if_neg (by rw[hcd];decide))
 clear hb hL h45 htk hcd
 go_enter Tryz.func134,Tryz.ntmps134
 go_wp2
 refine bodyPost_ret (v:= .tuple #[.slice none 0 0,.int .i64 1]) (by simp[results,Tryz.results134,go_sem,Result.andThen]) rfl ?_
 unfold TabTold
 rw[HCe.out,HF.out]
 exact⟨none,0,rfl,Below.refl _ _,in2_none _ _ _ _⟩
end Yl
namespace Ym
open OwnE
theorem wordElt:Elt 40 33 1 8 (.int .u64 0):=⟨Tryz.underlying33,by kernel_rfl,rfl,by decide⟩
end Ym
namespace Yn
end Yn
end Go.Proofs.YtjecmgkmcfkcjaaGreat
