/-
  Texts beneath the proof.
-/
import Derived.Test.YtjecmgkmcfkcjaaGreatQhChainDatasb4
set_option linter.unusedVariables false
set_option linter.unusedSimpArgs false
set_option maxRecDepth 100000
set_option maxHeartbeats 16000000
open Go.ChangeShapes Go.WideShapes Go.ChangeAt Go.RowKit
namespace Go.Proofs.YtjecmgkmcfkcjaaGreat
namespace Pb8
open Bytes8 Blk8 Fa Fb Pr8 Pa8
def subB (l m:List PR):Bool:=l.all fun p=>decide (p∈m)
theorem subB_no {l m:List PR}{i:Nat}(hi:i<l.length)(h:l.getD i nil2∉m):subB l m=false:=by
 cases hs:subB l m with
 |false=>rfl
 |true=>
  have:=List.all_eq_true.1 hs _ (getD_mem' hi)
  simp at this
  exact absurd this (by simpa using h)
theorem subB_yes {l m:List PR}(h: ∀i,i<l.length→l.getD i nil2∈m):subB l m=true:=by
 refine List.all_eq_true.2 fun p hp=>?_
 obtain⟨i,hi,rfl⟩:=mem_getD hp
 simpa using h i hi
theorem mem_take_step {m:List PR}{k:Nat}(hk:k<m.length)(p:PR):decide (p∈m.take (k+1))=(decide (p∈m.take k)||decide (p=m.getD k nil2)):=by
 rw[take_step hk]
 simp[List.mem_append]
set_option maxRecDepth 100000 in
theorem rwithin_any (a b:Option Addr)(l m:List PR)(n k c d:Nat)(w:World)(hP:Prs w a l)(hQ:Prs w b m)(hL:l.length=n)(hM:m.length=k)(hmax:n≤1000000)(hmax2:k≤1000000):
 Calls Tryz.prog 30 #[.slice a n c,.slice b k d] w fun e w'=>e= .returned (.bool (subB l m))∧Below w.heap.size w w':=by
 have HP:=Lib.hid hP
 have HQ:=Lib.hid hQ
 have HL:=Lib.hid hL
 have HM:=Lib.hid hM
 have HE:=Lib.hid fun i j=>eql_pr (hP.1.at_ i) (hQ.1.at_ j)
 have hmx:Tryz.prog.follows .mixedOrders=true:=by kernel_rfl
 clear hP hQ hL hM
 go_enter Tryz.func30,Tryz.ntmps30
 go_wp2
 go_loopw [5] (fun i wr=> ∃j:Nat,j≤n∧i= .int .i64 (j:Int)∧Hid (∀x,x<j→l.getD x nil2∈m)∧Hid (Below w.heap.size w wr)) (fun i _=>n-(intOf i).toNat)
 case atStart=>exact⟨0,by omega,rfl,Lib.hid fun j hj=>absurd hj (by omega),Lib.hid (Below.refl _ _)⟩
 case round=>
  obtain⟨j,hj,rfl,hall,hB⟩:=hrel
  rcases Nat.lt_or_ge j n with hlt|hge
  ·have hin:(j:Int)<(n:Int):=by omega
   go_wp2
   go_loopw [6,7] (fun s i wr=> ∃x:Nat,x≤k∧i= .int .i64 (x:Int)∧s= .bool (decide (l.getD j nil2∈m.take x))∧Hid (Below w.heap.size w wr)) (fun _ i _=>k-(intOf i).toNat)
   case atStart=>exact⟨0,by omega,rfl,by simp,hB⟩
   case round=>
    obtain⟨x,hx,rfl,rfl,hB2⟩:=hrel
    rcases Nat.lt_or_ge x k with hlt2|hge2
    ·have hin2:(x:Int)<(k:Int):=by omega
     obtain⟨b1,off1,rfl,hbl1,hc0,hc1⟩:=(HP.out.below hB2.out).2 j (by have:=HL.out;omega)
     obtain⟨b2,off2,rfl,hbl2,hd0,hd1⟩:=(HQ.out.below hB2.out).2 x (by have:=HM.out;omega)
     have hq:=HE.out j x
     have HS:=Lib.hid (mem_take_step (m:=m) (k:=x) (by have:=HM.out;omega) (l.getD j nil2))
     generalize T (l.getD j nil2).1=E1 at*
     generalize T (l.getD j nil2).2=E2 at*
     generalize T (m.getD x nil2).1=F1 at*
     generalize T (m.getD x nil2).2=F2 at*
     generalize decide (l.getD j nil2=m.getD x nil2)=q at*
     cases hs:decide (l.getD j nil2∈m.take x)with
     |true=>
      rw[hs]at HS
      clear hs
      go_wp2_with fail
      go_quiet (fail)
      go_wp2
      go_round
      case rel=>exact⟨x+1,by omega,by go_num,by rw[HS.out];rfl,Lib.hid (below_drewN hB2.out _)⟩
      case measure=>simp[intOf];omega
     |false=>
      rw[hs]at HS
      clear hs
      go_wp2_with fail
      go_quiet (fail)
      go_wp2
      go_round
      case rel=>exact⟨x+1,by omega,by go_num,by rw[HS.out];rfl,Lib.hid (below_drewN hB2.out _)⟩
      case measure=>simp[intOf];omega
    ·obtain rfl:x=k:=by omega
     have ht:m.take x=m:=List.take_of_length_le (by have:=HM.out;omega)
     rw[ht]
     by_cases hm:l.getD j nil2∈m
     ·have hall2:=Lib.hid (fun y (hy:y<j+1)=>(by
       rcases Nat.lt_or_ge y j with h1|h1
       ·exact hall.out y h1
       ·obtain rfl:y=j:=by omega
        exact hm:l.getD y nil2∈m))
      rw[decide_eq_true hm]
      clear hm hall ht
      go_wp2
      go_round
      case rel=>exact⟨j+1,by omega,by go_num,hall2,hB2⟩
      case measure=>simp[intOf];omega
     ·have HN:=Lib.hid (subB_no (m:=m) (by have:=HL.out;omega) hm)
      rw[decide_eq_false hm]
      clear hm hall ht
      go_wp2
      go_ret
      exact⟨ret_bool HN.out.symm,hB2.out⟩
  ·obtain rfl:j=n:=by omega
   have HN:=Lib.hid (subB_yes (m:=m) fun i hi=>hall.out i (by have:=HL.out;omega))
   clear hall
   go_wp2
   go_ret
   exact⟨ret_bool HN.out.symm,hB.out⟩
end Pb8
namespace Pr3
open Bytes8 Blk8 Own8 OwnE Fa Fb Fc Fo Pr8 Pa8 Ps8 Pl8 Pq8 Pi8 Pr2
def ListedC (l:List PR)(w:World)(e:Ending)(w':World):Prop:= ∃A c,e= .returned (.tuple #[.slice A (listL l).length c,.int .i64 (listE l)])∧Prs w' A (listL l)∧Below w.heap.size w w'∧(∀b off,A=some ⟨b,off,none⟩→0<(listL l).length→w.heap.size≤b)∧(listL l).length≤c∧c≤maxLen
theorem listedC_none {l:List PR}{w w':World}{x:Int}(h:listE l=x)(hx:x≠0)(hb:Below w.heap.size w w'):ListedC l w (.returned (.tuple #[.slice none 0 0,.int .i64 x])) w':=by
 have hL:listL l=[]:=if_neg (by rw[h];exact hx)
 unfold ListedC
 rw[hL,h]
 exact⟨none,0,rfl,Prs.nil _ _,hb,(fun b off e=>by cases e),Nat.le_refl _,by decide⟩
theorem ownP_cap {w:World}{base n c:Nat}{A:Option Addr}{l:List PR}(h:OwnP w base A n c l):n≤c∧c≤maxLen:=by
 rcases h.2.2.2.2 with⟨he,h0⟩|⟨g,cap,cur,hv,hbg,hg,hnc,hcm,_⟩
 ·injection he with e1 e2 e3
  subst e3
  exact⟨by omega,by decide⟩
 ·injection hv with e1 e2 e3
  subst e3
  exact⟨hnc,hcm⟩
set_option maxRecDepth 100000 in
theorem rlist_newC (a:Option Addr)(l:List PR)(len cap:Nat)(w:World)(hP:Prs w a l)(hL:l.length=len)(hmax:len≤100000):
 Calls Tryz.prog 107 #[.slice a len cap] w (ListedC l w):=by
 by_cases h0:len=0
 ·subst h0
  have he:listE l=16:=by unfold listE;rw[if_pos (List.eq_nil_of_length_eq_zero hL)]
  have HE:=Lib.hid he
  clear he hP hL
  go_enter Tryz.func107,Tryz.ntmps107
  go_wp2
  go_ret2
  exact listedC_none HE.out (by decide) (Below.refl _ _)
 have h0b:((len:Int)==0)=false:=by simp;omega
 have hne:l≠ []:=fun e=>h0 (by rw[←hL,e];rfl)
 have HP:=Lib.hid hP
 have HL:=Lib.hid hL
 have HOk:=Lib.hid hP.1
 have HF:=Lib.hid fun k w=>rjoin_code (l.getD k nil2).1 (l.getD k nil2).2 (hP.1.at_ k).1 (hP.1.at_ k).2.1 (hP.1.at_ k).2.2.1 w
 have HAt:=Lib.hid fun k h1 h2 h3=>(by
  have e:=codeL_at l k h1 h2 h3
  unfold listE
  rw[if_neg hne,if_neg (by rw[e];exact h3),e]:listE l=flawI (l.getD k nil2).1 (l.getD k nil2).2)
 have HAll:=Lib.hid (fun(h: ∀j,j<len→flawI (l.getD j nil2).1 (l.getD j nil2).2=0)=>(by
  have hf: ∀p∈l,flawI p.1 p.2=0:=fun p hp=>by
   obtain⟨i,hi,rfl⟩:=mem_getD hp
   exact h i (by omega)
  unfold listE
  rw[if_neg hne,codeL_zero l hf,if_pos rfl]:listE l=(if(ded l).length≤16 then 0 else 21)))
 have hmx:Tryz.prog.follows .mixedOrders=true:=by kernel_rfl
 clear hP hL h0 hne
 go_enter Tryz.func107,Tryz.ntmps107
 go_wp2
 go_loopw [4,5] (fun s i wr=> ∃(k n:Nat) (A:Option Addr) (c:Nat),k≤len∧i= .int .i64 (k:Int)∧s= .slice A n c∧n≤k∧Hid (OwnP wr w.heap.size A n c (rowL l k))∧Hid (∀j,j<k→flawI (l.getD j nil2).1 (l.getD j nil2).2=0)∧Hid (Below w.heap.size w wr)) (fun _ i _=>len-(intOf i).toNat)
 case atStart=>exact⟨0,0,none,0,by omega,rfl,rfl,by omega,(by rw[rowL_zero];exact Lib.hid (OwnP.nil w _ (Nat.le_refl _))),Lib.hid (fun j hj=>absurd hj (by omega)),Lib.hid (Below.refl _ _)⟩
 case round=>
  obtain⟨i,n,A,c,hi,rfl,rfl,hn,hO,hall,hB⟩:=hrel
  rcases Nat.lt_or_ge i len with hlt|hge
  ·obtain⟨b,off,rfl,hbl,hc0,hc1⟩:=(HP.out.below hB.out).2 i (by have:=HL.out;omega)
   have hin:(i:Int)<(len:Int):=by omega
   have HFk:=Lib.hid (HF.out i)
   by_cases hf:flawI (l.getD i nil2).1 (l.getD i nil2).2=0
   ·have hall2:=Lib.hid (fun j (hj:j<i+1)=>(by
     rcases Nat.lt_or_ge j i with h1|h1
     ·exact hall.out j h1
     ·obtain rfl:j=i:=by omega
      exact hf:flawI (l.getD j nil2).1 (l.getD j nil2).2=0))
    have HR:=Lib.hid (fun t (ht:t<i+1)=>(⟨(HOk.out.at_ t).1,(HOk.out.at_ t).2.1,hall2.out t ht⟩:okR (l.getD t nil2)))
    have HRow:Hid (∀t,t<n→okR ((rowL l i).getD t nil2)):=Lib.hid fun t ht=>by
     have hm:(rowL l i).getD t nil2∈rowL l i:=getD_mem' (by rw[hO.out.2.1];exact ht)
     exact rowL_okR (fun t ht=>HR.out t (by omega)) (by have:=HL.out;omega) _ ((list_mem _ _).1 hm)
    rw[hf]at HFk
    clear hf hall
    generalize hX1:T (l.getD i nil2).1=X1 at*
    generalize hX2:T (l.getD i nil2).2=X2 at*
    have HX1:=Lib.hid hX1
    have HX2:=Lib.hid hX2
    clear hX1 hX2
    go_wp2_with(go_at_call 159;(with_reducible refine(HFk.out _).mono ?_);rintro e w2 ⟨A6,m6,c6,rfl,hb⟩;have O2:=Lib.hid (hO.out.kept hb (Nat.le_refl _));have B2:=Lib.hid (hB.out.trans (hb.mono hB.out.size));clear hb)
    clear hO hB hc0 hc1 hbl
    go_loopw [8] (fun s wr=> ∃k:Nat,k≤n∧s= .int .i64 (k:Int)∧Hid (∀t,t<k→ltP ((rowL l i).getD t nil2) (l.getD i nil2)=true)∧Hid (OwnP wr w.heap.size A n c (rowL l i))∧Hid (Below w.heap.size w wr)) (fun s _=>n-(intOf s).toNat)
    case atStart=>exact⟨0,by omega,rfl,Lib.hid (fun t ht=>absurd ht (by omega)),O2,B2⟩
    case round=>
     obtain⟨k,hk,rfl,hlow,hO,hB⟩:=hrel
     clear O2 B2
     obtain⟨b',off',eb,hbl,hc0,hc1⟩:=(HP.out.below hB.out).2 i (by have:=HL.out;omega)
     simp at eb
     obtain⟨rfl,rfl⟩:=eb
     rw[HX1.out]at hc0
     rw[HX2.out]at hc1
     rcases Nat.lt_or_ge k n with hkn|hkn
     ·obtain⟨g,rfl⟩:=own_some hO.out (by omega)
      obtain⟨hd0,hd1,hgl,hgb⟩:=Pi8.OwnP.cellAt hO.out k hkn
      have hin2:(k:Int)<(n:Int):=by omega
      have hd2:decide (k<n)=true:=decide_eq_true hkn
      have r1:=HRow.out k hkn
      have r2:=HR.out i (by omega)
      obtain⟨q1,q2⟩:=flaw_len r1.2.2
      obtain⟨q3,q4⟩:=flaw_len r2.2.2
      have hbl2:=less_pr (okR_okP r1) (okR_okP r2)
      have HY1:=Lib.hid fun w=>rpayload_grew ((rowL l i).getD k nil2).1 ((rowL l i).getD k nil2).2 (by omega) w
      have HY2:=Lib.hid fun w=>rpayload_grew (l.getD i nil2).1 (l.getD i nil2).2 (by omega) w
      have heq:=eql_pr (okR_okP r1) (okR_okP r2)
      have HTot:=Lib.hid (fun h=>ltP_total r1 r2 h)
      have HOx:=Lib.hid (okR_okP r2)
      dsimp only[pv]at HY1 HY2
      rw[HX1.out,HX2.out]at HY2 heq
      have p0:=cell_grown hgl hd0
      have p1:=cell_grown hgl hd1
      have x0:=cell_grown hbl hc0
      have x1:=cell_grown hbl hc1
      have HB:=Lib.hid hB.out
      clear hd0 hd1 hc0 hc1 q1 q2 q3 q4 r1 r2
      generalize T (pay ((rowL l i).getD k nil2).1 ((rowL l i).getD k nil2).2)=S1 at*
      generalize T (pay (l.getD i nil2).1 (l.getD i nil2).2)=S2 at*
      generalize hR1:T ((rowL l i).getD k nil2).1=R1 at*
      generalize hR2:T ((rowL l i).getD k nil2).2=R2 at*
      clear hR1 hR2
      have K1:Hid (∀q os,Calls Tryz.prog 31 #[.agg #[.string R1,.string R2]] (Sort.grow (wr.drewN q) os) fun e w'=>e= .returned (.string S1)∧ ∃q' os',w'=Sort.grow ((Sort.grow (wr.drewN q) os).drewN q') os'):=Lib.hid fun q os=>HY1.out _
      have K2:Hid (∀q os,Calls Tryz.prog 31 #[.agg #[.string X1,.string X2]] (Sort.grow (wr.drewN q) os) fun e w'=>e= .returned (.string S2)∧ ∃q' os',w'=Sort.grow ((Sort.grow (wr.drewN q) os).drewN q') os'):=Lib.hid fun q os=>HY2.out _
      clear HY1 HY2
      cases hz:ltP ((rowL l i).getD k nil2) (l.getD i nil2)with
      |true=>
       rw[hz]at hbl2
       have hlow2:=Lib.hid (fun t (ht:t<k+1)=>(by
        rcases Nat.lt_or_ge t k with h1|h1
        ·exact hlow.out t h1
        ·obtain rfl:t=k:=by omega
         exact hz:ltP ((rowL l i).getD t nil2) (l.getD i nil2)=true))
       clear hz hlow
       go_wp2_with fail
       go_quiet_grown (first|(go_at_call 31;with_reducible refine Calls.grown_of (K1.out _ _))|(go_at_call 31;with_reducible refine Calls.grown_of (K2.out _ _)))
       have HG:=Lib.hid (Grew.below (w:=wr) ⟨nq,osq,rfl⟩)
       have O3:=Lib.hid (hO.out.kept HG.out (Nat.le_refl _))
       have B3:=Lib.hid (HB.out.trans (Below.mono HG.out HB.out.size))
       go_wp2
       go_round
       case rel=>exact⟨k+1,by omega,by go_num,hlow2,O3,B3⟩
       case measure=>simp[intOf];omega
      |false=>
       rw[hz]at hbl2
       have HZ:=Lib.hid hz
       clear hz
       go_wp2_with fail
       go_quiet_grown (first|(go_at_call 31;with_reducible refine Calls.grown_of (K1.out _ _))|(go_at_call 31;with_reducible refine Calls.grown_of (K2.out _ _)))
       have HG:=Lib.hid (Grew.below (w:=wr) ⟨nq,osq,rfl⟩)
       have O3:=Lib.hid (hO.out.kept HG.out (Nat.le_refl _))
       have B3:=Lib.hid (HB.out.trans (Below.mono HG.out HB.out.size))
       have y0:=p0 nq osq
       have y1:=p1 nq osq
       have z0:=x0 nq osq
       have z1:=x1 nq osq
       clear K1 K2 p0 p1 x0 x1 HG hO hB HB
       generalize Sort.grow (wr.drewN nq) osq=W3 at*
       by_cases he:(rowL l i).getD k nil2=l.getD i nil2
       ·have hm:l.getD i nil2∈rowL l i:=by rw[←he];exact getD_mem' (by rw[O3.out.2.1];exact hkn)
        have HTh:=Lib.hid (rowL_there (by have:=HL.out;omega) HR.out hm)
        rw[decide_eq_true he]at heq
        clear he hm
        go_wp2_with fail
        go_quiet (fail)
        go_wp2
        go_round
        case rel=>exact⟨i+1,n,_,c,by omega,by go_num,rfl,by omega,by rw[HTh.out];exact O3,hall2,Lib.hid (below_drewN B3.out _)⟩
        case measure=>simp[intOf];omega
       ·have hxl:ltP (l.getD i nil2) ((rowL l i).getD k nil2)=true:=by
         cases h:ltP (l.getD i nil2) ((rowL l i).getD k nil2)with
         |true=>rfl
         |false=>exact absurd (HTot.out HZ.out h) he
        have HIn:=Lib.hid (rowL_ins (by have:=HL.out;omega) HR.out (by rw[O3.out.2.1];exact hk) hlow.out (fun _=>hxl))
        rw[decide_eq_false he]at heq
        clear he hxl HTot HZ hlow
        go_wp2_with fail
        go_quiet (fail)
        have O4:Hid (OwnP (W3.drewN nq) w.heap.size (some ⟨g,0,none⟩) n c (rowL l i)):=O3
        have B4:Hid (Below w.heap.size w (W3.drewN nq)):=Lib.hid (below_drewN B3.out _)
        clear O3 B3 y0 y1 z0 z1
        generalize W3.drewN nq=W4 at*
        go_wp2_with(at_builtin;refine wpList_append_elt pairElt rfl (.tmp 64) (.tmp 66) rfl w.heap.size _ n c (cellsP (rowL l i)) rfl (O4.out.2.2.alloc (.cells #[.string {data:= #[]},.string {data:= #[]}] 58)) ⟨W4.heap.size,0,none⟩ 1 1 [.string {data:= #[]},.string {data:= #[]}] rfl rfl (Blk.news (Blk.new W4 [.string {data:= #[]},.string {data:= #[]}] 58)) (by intro u hu;simp at hu;subst hu;rfl) (by omega) (by omega) ?_;intro A7 c7 w7 ho7 hbel7;have O7:=Lib.hid (⟨fun q hq=>(by
         rcases List.mem_append.1 hq with h|h
         ·exact O4.out.1 q h
         ·simp at h;subst h;exact⟨(fun x hx=>by cases hx),(fun x hx=>by cases hx),Nat.zero_le _,Nat.zero_le _⟩),by rw[List.length_append,O4.out.2.1];rfl,by rw[cellsP_app,blank_cells];exact ho7⟩:OwnP w7 w.heap.size A7 (n+1) c7 (rowL l i++ [nil2]));have B7:=Lib.hid ((B4.out.alloc B4.out.size (.cells #[.string {data:= #[]},.string {data:= #[]}] 58)).trans hbel7);clear ho7 hbel7)
        have HLr:=Lib.hid O4.out.2.1
        have HSt0:=Lib.hid (show shiftL (rowL l i) n=rowL l i++ [nil2]by rw[←HLr.out];exact shiftL_start _)
        clear O4 B4
        obtain⟨g7,rfl⟩:=own_some O7.out (by omega)
        go_loopw [9] (fun s wr=> ∃j:Nat,k≤j∧j≤n∧s= .int .i64 (j:Int)∧Hid (OwnP wr w.heap.size (some ⟨g7,0,none⟩) (n+1) c7 (shiftL (rowL l i) j))∧Hid (Below w.heap.size w wr)) (fun s _=>(intOf s).toNat)
        case atStart=>exact⟨n,hk,Nat.le_refl _,by go_num,(by rw[HSt0.out];exact O7),B7⟩
        case round=>
         obtain⟨j,hkj,hjn,rfl,hO8,hB8⟩:=hrel
         clear O7 B7
         rcases Nat.lt_or_ge k j with hlt8|hge8
         ·obtain⟨j,rfl⟩: ∃j',j=j'+1:=⟨j-1,by omega⟩
          have e:((j+1:Nat):Int)=(j:Int)+1:=by omega
          have hin8:(k:Int)<(j:Int)+1:=by omega
          have hj1:(j:Int)+1<(n:Int)+1:=by omega
          have hj0:(j:Int)<(n:Int)+1:=by omega
          have hjp:(0:Int)≤(j:Int)+1:=by omega
          have hjt:((j:Int)+1).toNat=j+1:=by omega
          obtain⟨v0,v1,hgl8,hgb8⟩:=Pi8.OwnP.cellAt hO8.out j (by omega)
          obtain⟨u0,u1,_,_⟩:=Pi8.OwnP.cellAt hO8.out (j+1) (by omega)
          have hfz:=Pi8.OwnP.frozen hO8.out
          have HSt:=Lib.hid (shiftL_step (rowL l i) j (by rw[HLr.out];omega))
          have HOj:=Lib.hid (hO8.out.1.at_ j)
          have HSet:=Lib.hid (Pi8.OwnP.set hO8.out (j+1) ((shiftL (rowL l i) (j+1)).getD j nil2) HOj.out (by omega))
          rw[HSt.out]at HSet
          rw[e]
          clear e HSt HOj
          generalize T ((shiftL (rowL l i) (j+1)).getD j nil2).1=V1 at*
          generalize T ((shiftL (rowL l i) (j+1)).getD j nil2).2=V2 at*
          generalize T ((shiftL (rowL l i) (j+1)).getD (j+1) nil2).1=U1 at*
          generalize T ((shiftL (rowL l i) (j+1)).getD (j+1) nil2).2=U2 at*
          go_wp2
          go_round
          case rel=>exact⟨j,by omega,by omega,by go_num,HSet,Lib.hid ((hB8.out.setCell (p:=⟨g7,(j+1)*2,none⟩) hgb8 _).setCell (p:=⟨g7,(j+1)*2+1,none⟩) hgb8 _)⟩
          case measure=>simp[intOf]<;>omega
         ·obtain rfl:j=k:=by omega
          obtain⟨b9,off9,eb9,hbl9,hs0,hs1⟩:=(HP.out.below hB8.out).2 i (by have:=HL.out;omega)
          simp at eb9
          obtain⟨rfl,rfl⟩:=eb9
          rw[HX1.out]at hs0
          rw[HX2.out]at hs1
          obtain⟨u0,u1,hgl8,hgb8⟩:=Pi8.OwnP.cellAt hO8.out j (by omega)
          have hfz:=Pi8.OwnP.frozen hO8.out
          have hj1:(j:Int)<(n:Int)+1:=by omega
          have HSet:=Lib.hid (Pi8.OwnP.set hO8.out j (l.getD i nil2) HOx.out (by omega))
          rw[shiftL_end _ _ _ (by rw[HLr.out];exact hjn),HIn.out,HX1.out,HX2.out]at HSet
          generalize T ((shiftL (rowL l i) j).getD j nil2).1=U1 at*
          generalize T ((shiftL (rowL l i) j).getD j nil2).2=U2 at*
          go_wp2
          go_round
          case rel=>exact⟨i+1,n+1,_,c7,by omega,by go_num,rfl,by omega,HSet,hall2,Lib.hid ((hB8.out.setCell (p:=⟨g7,j*2,none⟩) hgb8 _).setCell (p:=⟨g7,j*2+1,none⟩) hgb8 _)⟩
          case measure=>simp[intOf];omega
     ·have hnot: ¬(k:Int)<(n:Int):=by omega
      have hd2:decide (k<n)=false:=decide_eq_false (by omega)
      have hd3: ¬k<n:=by omega
      have HIn:=Lib.hid (rowL_ins (by have:=HL.out;omega) HR.out (by rw[hO.out.2.1];exact hk) hlow.out (fun h=>absurd h (by rw[hO.out.2.1];omega)))
      have HOx:=Lib.hid (okR_okP (HR.out i (by omega)))
      clear hlow hbl hc0 hc1
      go_wp2_with fail
      go_quiet (fail)
      obtain⟨nq1,hnq⟩: ∃x,x=nq:=⟨_,rfl⟩
      rw[←hnq]
      clear hnq nq
      go_wp2_with fail
      go_quiet (fail)
      have O4:Hid (OwnP ((wr.drewN nq1).drewN nq) w.heap.size A n c (rowL l i)):=hO
      have B4:Hid (Below w.heap.size w ((wr.drewN nq1).drewN nq)):=Lib.hid (below_drewN (below_drewN hB.out _) _)
      clear hO hB
      generalize (wr.drewN nq1).drewN nq=W4 at*
      go_wp2_with(at_builtin;refine wpList_append_elt pairElt rfl (.tmp 64) (.tmp 66) rfl w.heap.size _ n c (cellsP (rowL l i)) rfl (O4.out.2.2.alloc (.cells #[.string {data:= #[]},.string {data:= #[]}] 58)) ⟨W4.heap.size,0,none⟩ 1 1 [.string {data:= #[]},.string {data:= #[]}] rfl rfl (Blk.news (Blk.new W4 [.string {data:= #[]},.string {data:= #[]}] 58)) (by intro u hu;simp at hu;subst hu;rfl) (by omega) (by omega) ?_;intro A7 c7 w7 ho7 hbel7;have O7:=Lib.hid (⟨fun q hq=>(by
       rcases List.mem_append.1 hq with h|h
       ·exact O4.out.1 q h
       ·simp at h;subst h;exact⟨(fun x hx=>by cases hx),(fun x hx=>by cases hx),Nat.zero_le _,Nat.zero_le _⟩),by rw[List.length_append,O4.out.2.1];rfl,by rw[cellsP_app,blank_cells];exact ho7⟩:OwnP w7 w.heap.size A7 (n+1) c7 (rowL l i++ [nil2]));have B7:=Lib.hid ((B4.out.alloc B4.out.size (.cells #[.string {data:= #[]},.string {data:= #[]}] 58)).trans hbel7);clear ho7 hbel7)
      have HLr:=Lib.hid O4.out.2.1
      have HSt0:=Lib.hid (show shiftL (rowL l i) n=rowL l i++ [nil2]by rw[←HLr.out];exact shiftL_start _)
      clear O4 B4
      obtain⟨g7,rfl⟩:=own_some O7.out (by omega)
      go_loopw [9] (fun s wr=> ∃j:Nat,k≤j∧j≤n∧s= .int .i64 (j:Int)∧Hid (OwnP wr w.heap.size (some ⟨g7,0,none⟩) (n+1) c7 (shiftL (rowL l i) j))∧Hid (Below w.heap.size w wr)) (fun s _=>(intOf s).toNat)
      case atStart=>exact⟨n,hk,Nat.le_refl _,by go_num,(by rw[HSt0.out];exact O7),B7⟩
      case round=>
       obtain⟨j,hkj,hjn,rfl,hO8,hB8⟩:=hrel
       clear O7 B7
       rcases Nat.lt_or_ge k j with hlt8|hge8
       ·exfalso;omega
       ·obtain rfl:j=k:=by omega
        obtain⟨b9,off9,eb9,hbl9,hs0,hs1⟩:=(HP.out.below hB8.out).2 i (by have:=HL.out;omega)
        simp at eb9
        obtain⟨rfl,rfl⟩:=eb9
        rw[HX1.out]at hs0
        rw[HX2.out]at hs1
        obtain⟨u0,u1,hgl8,hgb8⟩:=Pi8.OwnP.cellAt hO8.out j (by omega)
        have hfz:=Pi8.OwnP.frozen hO8.out
        have hj1:(j:Int)<(n:Int)+1:=by omega
        have HSet:=Lib.hid (Pi8.OwnP.set hO8.out j (l.getD i nil2) HOx.out (by omega))
        rw[shiftL_end _ _ _ (by rw[HLr.out];exact hjn),HIn.out,HX1.out,HX2.out]at HSet
        generalize T ((shiftL (rowL l i) j).getD j nil2).1=U1 at*
        generalize T ((shiftL (rowL l i) j).getD j nil2).2=U2 at*
        go_wp2
        go_round
        case rel=>exact⟨i+1,n+1,_,c7,by omega,by go_num,rfl,by omega,HSet,hall2,Lib.hid ((hB8.out.setCell (p:=⟨g7,j*2,none⟩) hgb8 _).setCell (p:=⟨g7,j*2+1,none⟩) hgb8 _)⟩
        case measure=>simp[intOf];omega
   ·have hER:=Lib.hid (HAt.out i (by have:=HL.out;omega) hall.out hf)
    have hfb:(flawI (l.getD i nil2).1 (l.getD i nil2).2 !=0)=true:=by simpa using hf
    have hf0:=hf
    clear hall hf
    generalize T (l.getD i nil2).1=E1 at*
    generalize T (l.getD i nil2).2=E2 at*
    generalize flawI (l.getD i nil2).1 (l.getD i nil2).2=F at*
    have HF0:=Lib.hid hf0
    clear hf0
    go_wp2_with(go_at_call 159;(with_reducible refine(HFk.out _).mono ?_);rintro e w2 ⟨A6,m6,c6,rfl,hb⟩;have B2:=Lib.hid (hB.out.trans (hb.mono hB.out.size));clear hb)
    go_ret2
    exact listedC_none hER.out HF0.out B2.out
  ·obtain rfl:i=len:=by omega
   have ht:l.take i=l:=List.take_of_length_le (by have:=HL.out;omega)
   have hrow:rowL l i=sortP (ded l):=by unfold rowL;rw[ht]
   have hE:=HAll.out hall.out
   have hlen:=hO.out.2.1
   rw[hrow]at hO hlen
   rw[sortP_len]at hlen
   clear ht hall hrow
   by_cases h16:(ded l).length≤16
   ·rw[if_pos h16]at hE
    have HE:=Lib.hid hE
    have HLs:=Lib.hid (show listL l=sortP (ded l)from if_pos hE)
    have h16n:n≤16:=by omega
    have HLn:=Lib.hid hlen
    clear hE hlen
    go_wp2
    go_ret2
    unfold ListedC
    rw[HLs.out,HE.out,sortP_len,HLn.out]
    exact⟨_,_,rfl,hO.out.prs,hB.out,fun b off e h0=>ownP_new hO.out b off e (by rw[sortP_len,HLn.out];exact h0),ownP_cap hO.out⟩
   ·rw[if_neg h16]at hE
    have HE:=Lib.hid hE
    have h16n:16<n:=by omega
    clear hE hlen
    go_wp2
    go_ret2
    exact listedC_none HE.out (by decide) hB.out
end Pr3
namespace Nrs
open Bytes8 Blk8 Own8 OwnE Fa Fb Rows2 Seq8 SeqP Pr8 Ps8 Pl8 Pq8 Nq Np
def NV (p:PR):Prop:=p.1∈nameLs∧p.2∈valueLs
def Told (L:List PR):Prop:=(∃L0,L=listL L0)∧ ∀q∈L,NV q
theorem told_list {L0:List PR}(h: ∀q∈L0,NV q):Told (listL L0):=⟨⟨L0,rfl⟩,fun q hq=>by
 unfold listL at hq
 split at hq
 ·rw[sortP_mem,ded_mem]at hq
  exact h q hq
 ·cases hq⟩
def PairedS (gq:Nat)(a:Option Addr)(len cap:Nat)(f:Nat→Int)(w:World)(e:Ending)(w':World):Prop:=
 ∃n v k',e= .returned (pv n v)∧(AllB n∧AllB v∧flawI n v=0)∧NV (n,v)∧SeqIn w' gq a len cap f k'∧KeptB w.heap.size gq w w'
set_option maxRecDepth 100000 in
theorem pair_anyS (gq:Nat)(a:Option Addr)(len cap:Nat)(f:Nat→Int)(k:Nat)(w:World)(h:SeqIn w gq a len cap f k):
 Calls Tryz.prog 160 #[.pointer (some ⟨gq,0,none⟩)] w (PairedS gq a len cap f w):=by
 have hgq:=h.1.lt
 have B0:=Lib.hid ((Below.refl w.heap.size w).alloc (Nat.le_refl _) (.cells #[.string {data:= #[]},.string {data:= #[]}] 58))
 have S0:=Lib.hid (h.below B0.out)
 have R0:=Lib.hid (Blk.new w [.string {data:= #[]},.string {data:= #[]}] 58)
 have HI:=Lib.hid h.2.1
 have HNe:=Lib.hid h.2.2.1
 clear h
 unfold PairedS
 have hm:Tryz.prog.follows .mixedOrders=true:=by kernel_rfl
 go_enter Tryz.func160,Tryz.ntmps160
 go_wp2_with fail
 go_region_with (first
  |(go_at_call 20;(with_reducible refine(names_at _ (w.heap.size+1) (by simp)).mono ?_);rintro e w1 ⟨rfl,hN,hb1,hs1⟩;have N1:=Lib.hid hN;have S1:=Lib.hid (SeqIn.below (w:=(w.alloc (.cells #[.string {data:= #[]},.string {data:= #[]}] 58)).drew) S0.out hb1);have R1:=Lib.hid (Blk.below (w:=(w.alloc (.cells #[.string {data:= #[]},.string {data:= #[]}] 58)).drew) R0.out hb1 R0.out.lt);have B1:=Lib.hid (B0.out.drew.trans (hb1.mono B0.out.size));clear hN hb1)
  |(go_at_call 84;(with_reducible refine(seqN_any gq a len cap f k 6 w1 (by decide) (by decide) S1.out).mono ?_);rintro e w2 ⟨i,k2,rfl,hi,hS2,hK2⟩;have S2:=Lib.hid hS2;have N2:=Lib.hid (Blk.keptB N1.out hK2 N1.out.lt (by omega));have R2:=Lib.hid (Blk.keptB R1.out hK2 R1.out.lt (by omega));have K2:=Lib.hid ((KeptB.of_below (g:=gq) B1.out).trans (hK2.mono B1.out.size));obtain⟨nm,hnm⟩: ∃nm,nm=nameLs.getD i []:=⟨_,rfl⟩;have HNm:=Lib.hid hnm;clear hnm;have hi6:i<nameLs.length:=(by simp;omega);have HI6:=Lib.hid hi6;clear hi6;have x2:=text_is N2.out i HI6.out HNm.out;clear hS2 hK2)
  |(go_at_call 21;(with_reducible refine(values_at _ w2.heap.size rfl).mono ?_);rintro e w3 ⟨rfl,hV,hb3,hs3⟩;have V3:=Lib.hid hV;have S3:=Lib.hid (SeqIn.below S2.out hb3);have R3:=Lib.hid (R2.out.below hb3 R2.out.lt);have N3:=Lib.hid (N2.out.below hb3 N2.out.lt);have K3:=Lib.hid (K2.out.trans (KeptB.of_below (hb3.mono K2.out.size)));have x3:=text_is N3.out i HI6.out HNm.out;clear hV hb3)
  |(go_at_call 84;(with_reducible refine(seqN_any gq a len cap f k2 10 w3 (by decide) (by decide) S3.out).mono ?_);rintro e w4 ⟨j,k4,rfl,hj,hS4,hK4⟩;have S4:=Lib.hid hS4;have N4:=Lib.hid (Blk.keptB N3.out hK4 N3.out.lt (by omega));have R4:=Lib.hid (Blk.keptB R3.out hK4 R3.out.lt (by omega));have V4:=Lib.hid (Blk.keptB V3.out hK4 V3.out.lt (by have:=K2.out.size;omega));have K4:=Lib.hid (K3.out.trans (hK4.mono K3.out.size));have x4:=text_is N4.out i HI6.out HNm.out;obtain⟨vl,hvl⟩: ∃vl,vl=valueLs.getD j []:=⟨_,rfl⟩;have HVl:=Lib.hid hvl;clear hvl;have hj10:j<valueLs.length:=(by simp;omega);have HJ10:=Lib.hid hj10;clear hj10;have y4:=text_is V4.out j HJ10.out HVl.out;have f0:=R4.out.frozen 0;have f1:=R4.out.frozen 1;have c0:=R4.out.cell (i:=0) rfl;have c1:=R4.out.cell (i:=1) rfl;clear hS4 hK4))
 all_goals
  go_wp2
  obtain⟨n1,n2⟩:=names_ok nm (by rw[HNm.out];exact getD_mem HI6.out)
  obtain⟨v1,v2⟩:=values_ok vl (by rw[HVl.out];exact getD_mem HJ10.out)
  have HK:=(K4.out.setCell (p:=⟨w.heap.size,0,none⟩) (Or.inl (Nat.le_refl _)) (.string (T nm))).setCell (p:=⟨w.heap.size,1,none⟩) (Or.inl (Nat.le_refl _)) (.string (T vl))
  refine bodyPost_ret (v:=pv nm vl) (by simp[results,Tryz.results160,go_sem,c0,c1]) rfl ⟨nm,vl,k4,rfl,⟨n1,v1,flaw_ok n2 v2⟩,⟨by rw[HNm.out];exact getD_mem HI6.out,by rw[HVl.out];exact getD_mem HJ10.out⟩,⟨?_,ints_keptB HI.out HK HNe.out,S4.out.2.2⟩,HK⟩
  exact(S4.out.1.far (p:=⟨w.heap.size,0,none⟩) (show gq≠w.heap.size by omega) _).far (p:=⟨w.heap.size,1,none⟩) (show gq≠w.heap.size by omega) _
def MadePS (gq:Nat)(a:Option Addr)(len cap:Nat)(f:Nat→Int)(w:World)(e:Ending)(w':World):Prop:=
 ∃(L:List PR) (A:Option Addr) (c k':Nat),e= .returned (.slice A L.length c)∧OwnP w' w.heap.size A L.length c L∧((∀p∈L,okR p)∧0<L.length∧L.length≤16)∧(∀p∈L,NV p)∧SeqIn w' gq a len cap f k'∧KeptB w.heap.size gq w w'
theorem pairs_mostS (most:Int)(hm:1≤most∧most≤16)(gq:Nat)(a:Option Addr)(len cap:Nat)(f:Nat→Int)(k:Nat)(w:World)(h:SeqIn w gq a len cap f k):
 Calls Tryz.prog 108 #[.pointer (some ⟨gq,0,none⟩),.int .i64 most] w (MadePS gq a len cap f w):=by
 have hgq:=h.1.lt
 have S0:=Lib.hid h
 clear h
 unfold MadePS
 go_enter Tryz.func108,Tryz.ntmps108
 go_wp2_with(go_at_call 84;(with_reducible refine(seqN_any gq a len cap f k most w hm.1 (by omega) S0.out).mono ?_);rintro e w1 ⟨r,k1,rfl,hr,hS,hK⟩;have S1:=Lib.hid hS;have K1:=Lib.hid hK;clear hS hK)
 go_loopw [5,6] (fun s i wr=> ∃(j n:Nat) (A:Option Addr) (c k2:Nat) (L:List PR),i= .int .i64 (j:Int)∧s= .slice A n c∧n+j=r+1∧n≤16∧j≤16∧Hid (OwnP wr w.heap.size A n c L)∧Hid (∀p∈L,okR p)∧Hid (∀p∈L,NV p)∧Hid (SeqIn wr gq a len cap f k2)∧Hid (KeptB w.heap.size gq w wr)) (fun _ i _=>(intOf i).toNat)
 case atStart=>exact⟨r+1,0,none,0,k1,[],by go_num,rfl,by omega,by omega,by omega,Lib.hid (OwnP.nil w1 _ K1.out.size),Lib.hid (fun p hp=>by cases hp),Lib.hid (fun p hp=>by cases hp),S1,K1⟩
 case round=>
  obtain⟨j,n,A,c,k2,L,rfl,rfl,hnj,hn,hj,hO,hR,hNV,hS,hK⟩:=hrel
  cases j with
  |zero=>
   have hlen:=hO.out.2.1
   go_wp2
   go_ret
   exact⟨L,A,c,k2,by rw[hlen];rfl,by rw[hlen];exact hO.out,⟨hR.out,by omega,by omega⟩,hNV.out,hS.out,hK.out⟩
  |succ j=>
   have e:((j+1:Nat):Int)=(j:Int)+1:=by omega
   have hpos:(0:Int)<(j:Int)+1:=by omega
   rw[e]
   go_wp2_with(first
    |(go_at_call 160;(with_reducible refine(pair_anyS gq a len cap f k2 wr hS.out).mono ?_);rintro e w2 ⟨p1,p2,k3,rfl,hok,hnv,hS2,hK2⟩;have HOk:=Lib.hid hok;have HNv:=Lib.hid hnv;have S2:=Lib.hid hS2;have O2:=Lib.hid (OwnP.keptB hO.out hK2 hgq);have K2:=Lib.hid (hK.out.trans (hK2.mono hK.out.size));dsimp only[pv];clear hok hnv hS2 hK2)
    |(at_builtin;refine wpList_append_elt pairElt rfl (.tmp 15) (.tmp 18) rfl w.heap.size A n c (cellsP L) rfl (O2.out.2.2.alloc (.cells #[.string (T p1),.string (T p2)] 58)) ⟨w2.heap.size,0,none⟩ 1 1 [.string (T p1),.string (T p2)] rfl rfl (Blk.news (Blk.new w2 [.string (T p1),.string (T p2)] 58)) (by intro u hu;simp at hu;rcases hu with rfl|rfl<;>rfl) (by omega) (by omega) ?_;intro A2 c2 w3 ho2 hbel2;have HO4:=Lib.hid ho2;have K4:=Lib.hid ((K2.out.alloc K2.out.size (.cells #[.string (T p1),.string (T p2)] 58)).trans (KeptB.of_below hbel2));have S4:=Lib.hid ((Blk.alloc S2.out.1 (.cells #[.string (T p1),.string (T p2)] 58)).below hbel2 hgq);clear ho2 hbel2))
   go_round
   case rel=>
    refine⟨j,n+1,A2,c2,k3,L++ [(p1,p2)],rfl,rfl,by omega,by omega,by omega,Lib.hid ⟨?_,?_,?_⟩,Lib.hid ?_,Lib.hid ?_,Lib.hid ⟨S4.out,ints_keptB S0.out.2.1 K4.out S0.out.2.2.1,S2.out.2.2⟩,K4⟩
    ·intro q hq
     rcases List.mem_append.1 hq with h|h
     ·exact hO.out.1 q h
     ·simp at h;subst h;exact okR_okP HOk.out
    ·rw[List.length_append,hO.out.2.1];rfl
    ·rw[cellsP_app];exact HO4.out
    ·intro q hq
     rcases List.mem_append.1 hq with h|h
     ·exact hR.out q h
     ·simp at h;subst h;exact HOk.out
    ·intro q hq
     rcases List.mem_append.1 hq with h|h
     ·exact hNV.out q h
     ·simp at h;subst h;exact HNv.out
   case measure=>simp[intOf]<;>omega
attribute [local irreducible] wpList Code.wp
end Nrs
namespace Nrc
open Bytes8 Blk8 Own8 OwnE Fb Rows2 Seq8 Pr8 Pl8 Pq8 Mi Nq Nr Nrs Gb Np
def RecordedC (gq:Nat)(a:Option Addr)(len cap:Nat)(f:Nat→Int)(seq:Int)(w:World)(e:Ending)(w':World):Prop:=
 ∃(L:List PR) (A:Option Addr) (n c k':Nat) (r m:Nat) (x:Int),e= .returned (.agg (recL seq r m (mkId x) (.slice A n c)).toArray)∧L.length=n∧n≤16∧Prs w' A L∧r<40∧m<9∧(0≤x∧x<5)∧SeqIn w' gq a len cap f k'∧KeptB w.heap.size gq w w'∧(∀b off,A=some ⟨b,off,none⟩→0<n→w.heap.size≤b)∧Nrs.Told L∧n≤c∧c≤maxLen
attribute [local irreducible] wpList Code.wp
theorem record_anyC (gq:Nat)(a:Option Addr)(len cap:Nat)(f:Nat→Int)(k:Nat)(seq:Int)(w:World)(h:SeqIn w gq a len cap f k):
 Calls Tryz.prog 59 #[.pointer (some ⟨gq,0,none⟩),.int .u64 seq] w (RecordedC gq a len cap f seq w):=by
 obtain⟨s,hs⟩: ∃x,w.heap.size=x:=⟨_,rfl⟩
 have hgs:gq<s:=hs▸h.1.lt
 have Z0:=Lib.hid (show(w.alloc (.cells zR 64)).heap[s]? =some (.cells zR 64 (0,0))from hs▸heap_alloc_new w _)
 have s0:=Lib.hid (show s<(w.alloc (.cells zR 64)).heap.size by simp[hs])
 have Q0:=Lib.hid (h.below ((Below.refl _ _).alloc (Nat.le_refl _) (.cells zR 64)))
 have K0:=Lib.hid (show KeptB s gq w (w.alloc (.cells zR 64))from(KeptB.refl s gq w).alloc (by omega) _)
 have HS:=Lib.hid fun(b:Int) (h1:1≤b) (h2:b≤1000000) (j:Nat) (W:World) (hW:SeqIn W gq a len cap f j)=>seqN_at gq a len cap f j b W h1 h2 hW
 have HP:=Lib.hid fun(j:Nat) (W:World) (hW:SeqIn W gq a len cap f j)=>pairs_mostS 4 (by decide) gq a len cap f j W hW
 unfold MadePS at HP
 have HD:=Lib.hid fun(n:Int) (W:World)=>mid_any n W
 have W9:=Lib.hid (show 0<len→ ∀b off,a=some ⟨b,off,none⟩→b<s from fun h0 b off e=>by obtain⟨b',off',e',h1,_⟩:=h.2.1 0 h0;rw[e]at e';injection e' with e';injection e' with e';omega)
 clear h
 unfold RecordedC
 rw[hs]
 go_enter Tryz.func59,Tryz.ntmps59
 go_upto_region 1 with fail
 rw[hs]at*
 clear hs
 generalize w.alloc (.cells zR 64)=w0 at*
 go_upto_region 2 with(first
  |(go_at_call 108;(with_reducible refine(HP.out _ _ Q0.out).mono ?_);rintro e w1 ⟨L0,A0,c0,k1,rfl,ho1,hr1,hv1,hq1,hk1⟩;have HTo:=Lib.hid (Nrs.told_list hv1);have HO1:=Lib.hid ho1;have HR1:=Lib.hid hr1;have Q1:=Lib.hid hq1;have K1:=Lib.hid (K0.out.trans (hk1.mono (Nat.le_of_lt s0.out)));have Z1:=Lib.hid ((hk1.block s s0.out (Nat.ne_of_gt hgs)).trans Z0.out);have s1:=Lib.hid (Nat.lt_of_lt_of_le s0.out hk1.size);have HLi:=Lib.hid (Pr3.rlist_newC A0 L0 L0.length c0 w1 ho1.prs rfl (by have:=hr1.2.2;omega));clear ho1 hr1 hv1 hq1 hk1;unfold Pr3.ListedC at HLi)
  |(go_at_call 107;(refine HLi.out.mono ?_);rintro e w2 ⟨A2,c2,rfl,hp2,hb2,hn2,hcp⟩;have HCp:=Lib.hid hcp;have HP2:=Lib.hid hp2;have HN2:=Lib.hid hn2;have Q2:=Lib.hid (Q1.out.below hb2);have K2:=Lib.hid (K1.out.trans (KeptB.of_below (hb2.mono (Nat.le_of_lt s1.out))));have Z2:=Lib.hid ((hb2.block s s1.out).trans Z1.out);have s2:=Lib.hid (Nat.lt_of_lt_of_le s1.out hb2.size);clear hp2 hb2 hn2 hcp)
  |fail)
 have HL16:=Lib.hid (listL_le HR1.out.2.2)
 have hn1:=Lib.hid (Nat.le_of_lt s1.out)
 clear HLi
 generalize listE L0=le0 at*
 generalize listL L0=L at*
 obtain⟨n,hn⟩: ∃x,L.length=x:=⟨_,rfl⟩
 have HNn:=Lib.hid hn
 rw[hn]at HL16 HN2 HCp⊢
 clear hn
 have hzz: ∀(r m:Int) (K:Nat→Int),zR.size=(recL seq r m K (.slice A2 n c2)).toArray.size:=fun _ _ _=>rfl
 go_wp2_with(first
  |(go_at_call 84;(with_reducible refine(HS.out 40 (by decide) (by decide) _ _ Q2.out).mono ?_);rintro e w3 ⟨r1,rfl,hr1,q3,k3⟩;have Q3:=Lib.hid q3;have K3:=Lib.hid (K2.out.trans (k3.mono (Nat.le_of_lt s2.out)));have Z3:=Lib.hid ((k3.block s s2.out (Nat.ne_of_gt hgs)).trans Z2.out);have s3:=Lib.hid (Nat.lt_of_lt_of_le s2.out k3.size);have P3:=Lib.hid (show KeptB w2.heap.size gq w2 w3 from k3);clear q3 k3)
  |(go_at_call 84;(with_reducible refine(HS.out 9 (by decide) (by decide) _ _ Q3.out).mono ?_);rintro e w4 ⟨r2,rfl,hr2,q4,k4⟩;have Q4:=Lib.hid q4;have K4:=Lib.hid (K3.out.trans (k4.mono (Nat.le_of_lt s3.out)));have Z4:=Lib.hid ((k4.block s s3.out (Nat.ne_of_gt hgs)).trans Z3.out);have s4:=Lib.hid (Nat.lt_of_lt_of_le s3.out k4.size);have P4:=Lib.hid (show KeptB w2.heap.size gq w2 w4 from P3.out.trans (k4.mono P3.out.size));clear q4 k4)
  |(go_at_call 84;(with_reducible refine(HS.out 3 (by decide) (by decide) _ _ Q4.out).mono ?_);rintro e w5 ⟨r3,rfl,hr3,q5,k5⟩;have Q5:=Lib.hid q5;have K5:=Lib.hid (K4.out.trans (k5.mono (Nat.le_of_lt s4.out)));have Z5:=Lib.hid ((k5.block s s4.out (Nat.ne_of_gt hgs)).trans Z4.out);have s5:=Lib.hid (Nat.lt_of_lt_of_le s4.out k5.size);have P5:=Lib.hid (show KeptB w2.heap.size gq w2 w5 from P4.out.trans (k5.mono P4.out.size));clear q5 k5)
  |(go_at_call 109;(with_reducible refine(HD.out (r3:Int) w5).mono ?_);rintro e w6 ⟨x1,hx1,rfl,k6⟩;have Q6:=Lib.hid (Q5.out.below k6);have K6:=Lib.hid (K5.out.trans (KeptB.of_below (k6.mono (Nat.le_of_lt s5.out))));have Z6:=Lib.hid ((k6.block s s5.out).trans Z5.out);have s6:=Lib.hid (Nat.lt_of_lt_of_le s5.out k6.size);have KP:=Lib.hid (show KeptB w2.heap.size gq w2 w6 from P5.out.trans (KeptB.of_below (k6.mono P5.out.size)));clear k6)
  |((with_reducible apply at_slot 24);refine wpList_build_as rfl 64 _ rfl (recL seq (r1:Int) (r2:Int) (mkId x1) (.slice A2 n c2)).toArray (by kernel_rfl) ?_)
  |((with_reducible apply at_store (.tmp 4) (.tmp 24));refine wpList_store_row rfl 64 (.tmp 4) (.tmp 24) rfl s (recL seq (r1:Int) (r2:Int) (mkId x1) (.slice A2 n c2)).toArray rfl rfl 64 zR Z6.out (recInfo _ _ _ _ _) rfl (by simp[Value.oneCell']) ?_)
  |fail)
 refine bodyPost_ret (v:= .agg (recL seq (r1:Int) (r2:Int) (mkId x1) (.slice A2 n c2)).toArray) (by exact results_cell_row Tryz.results59 _ _ s 64 _ (0,0) _ rfl (setRow_heap _ s _ _ _ (0,0) Z6.out) Tryz.underlying64 rfl (recInfo _ _ _ _ _)) rfl ?_
 have b9:=Lib.hid (show Below s w6 (w6.setRow s (recL seq (r1:Int) (r2:Int) (mkId x1) (.slice A2 n c2)).toArray)from below_setRow (Below.refl _ _) (Nat.le_refl _) _)
 refine⟨L,A2,n,c2,_,r1,r2,x1,rfl,HNn.out,HL16.out,?_,by omega,by omega,hx1,seq_low Q6.out b9.out hgs W9.out,K6.out.trans (KeptB.of_below b9.out),fun b off e h0=>Nat.le_trans hn1.out (HN2.out b off e h0),HTo.out,HCp.out⟩
 have hsz:w2.heap.size≤(w6.setRow s (recL seq (r1:Int) (r2:Int) (mkId x1) (.slice A2 n c2)).toArray).heap.size:=Nat.le_trans KP.out.size b9.out.size
 rcases Nat.eq_zero_or_pos n with h0|h0
 ·rw[List.eq_nil_of_length_eq_zero (HNn.out.trans h0)]
  exact Prs.nil _ _
 refine HP2.out.keptB hsz fun b off e hb=>?_
 have hb1:=HN2.out b off e h0
 have hs1:=s1.out
 rw[setRow_other _ _ _ _ (by omega)]
 exact KP.out.block b hb (by omega)
end Nrc
end Go.Proofs.YtjecmgkmcfkcjaaGreat
