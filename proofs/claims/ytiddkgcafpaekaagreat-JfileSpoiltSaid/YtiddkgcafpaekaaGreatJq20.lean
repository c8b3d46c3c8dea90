/-
  Texts beneath the proof.
-/
import Derived.Lib.SmallJoins
import Derived.Deep.SlicePairs
import Derived.Test.YtiddkgcafpaekaaGreatJq7
import Derived.Test.YtiddkgcafpaekaaGreatJq19
set_option linter.unusedVariables false
set_option linter.unusedSimpArgs false
set_option maxRecDepth 100000
set_option maxHeartbeats 4000000
open Go.ChangeShapes Go.WideShapes Go.ChangeAt Go.RowKit
namespace Go.Proofs.YtiddkgcafpaekaaGreat
namespace Zc
open Bytes8 Ob Ga Ma Mg Na Nc Yd Za Zb
structure ArrW (os:List O)(t:Nat)(arr its:List Nat):Prop where
 le:its.length≤rooms arr.length
 ge:0<arr.length→rooms (arr.length-1)<its.length
 sh: ∀k (h:k<arr.length),shp os arr[k]=some ⟨6,1+roomN k,[],(t,k)⟩
 nx: ∀k (h:k<arr.length),wd os arr[k] 0=(arr.getD (k+1) 0:Nat)
 it: ∀k (h:k<arr.length) j,j<roomN k→wd os arr[k] (1+j)=(its.getD (rooms k+j) 0:Nat)
 asc:arr.Pairwise (· < ·)
theorem ArrW.nil (os:List O)(t:Nat):ArrW os t [] []:=⟨Nat.zero_le _,fun h=>absurd h (by simp),fun k h=>absurd h (by simp),fun k h=>absurd h (by simp),fun k h=>absurd h (by simp),List.Pairwise.nil⟩
theorem ArrW.stp {os os':List O}{t:Nat}{arr its:List Nat}(h:ArrW os t arr its){S:Nat→Nat→Prop}(p:Stp os os' S)(hS: ∀x i k n,shp os x=some ⟨6,n,[],(t,k)⟩→ ¬S x i):ArrW os' t arr its:=
 {le:=h.le,ge:=h.ge,asc:=h.asc
  sh:=fun k hk=>p.shp _ _ (h.sh k hk)
  nx:=fun k hk=>(p.wd _ _ _ (h.sh k hk) (hS _ _ _ _ (h.sh k hk))).trans (h.nx k hk)
  it:=fun k hk j hj=>(p.wd _ _ _ (h.sh k hk) (hS _ _ _ _ (h.sh k hk))).trans (h.it k hk j hj)}
theorem ArrW.inj {os:List O}{t:Nat}{arr its:List Nat}(h:ArrW os t arr its){i j:Nat}(hi:i<arr.length)(hj:j<arr.length)(e:arr[i]=arr[j]):i=j:=by
 have h1:=h.sh i hi
 have h2:=h.sh j hj
 rw[e,h2]at h1
 injection h1 with h1
 injection h1 with _ _ _ h1
 injection h1 with _ h1
 exact h1.symm
theorem arr_last {arr:List Nat}(h:arr≠ []): ∃hk:arr.length-1<arr.length,arr.getLastD 0=arr[arr.length-1]:=⟨by have:=List.length_pos_iff.2 h;omega,getLastD_mem h⟩
theorem getD_snoc (l:List Nat)(x i:Nat):(l++ [x]).getD i 0=if i=l.length then x else l.getD i 0:=by
 rw[List.getD_eq_getElem?_getD,List.getD_eq_getElem?_getD]
 by_cases h:i=l.length
 ·subst h;simp
 ·rw[if_neg h]
  rcases Nat.lt_or_ge i l.length with h1|h1
  ·rw[List.getElem?_append_left h1]
  ·rw[List.getElem?_eq_none (by simp;omega),List.getElem?_eq_none h1]
def arrO (t k:Nat):O:=⟨6,0::List.replicate (roomN k) 0,[],(t,k)⟩
theorem arrO_enc (t k:Nat):(arrO t k).enc=aobj k:=by
 unfold O.enc O.body arrO aobj arrB
 rw[nums_cons,List.append_nil,nums_one]
theorem arrO_ok (t k:Nat):(arrO t k).Ok:=
 {k:=⟨by show(1:Int)≤6;decide,by show(6:Int)≤7;decide⟩
  ws:=fun x hx=>by
   rcases List.mem_cons.1 hx with rfl|hx
   ·decide
   ·rw[List.eq_of_mem_replicate hx];decide
  tl:=fun x hx=>by cases hx
  n:=by
   rw[O.body_len]
   show 8*(0::List.replicate (roomN k) (0:Int)).length+0≤_
   have:=(roomN_bd k).2
   rw[List.length_cons,List.length_replicate];omega}
def FromW (os:List O)(fr:Nat)(fx:Option (Nat×Nat)):Prop:=match fx with
 |none=>fr+8≤272
 |some (a,j)=>fr=a+16+8*j∧ ∃s,shp os a=some s∧j<s.n∧s.k≠6
def LinkS (os:List O)(t:Nat)(fx:Option (Nat×Nat))(x i:Nat):Prop:=fx=some (x,i)∨ ∃k n,shp os x=some ⟨6,n,[],(t,k)⟩
theorem link_W {m:Mk}{os:List O}{t:Nat}{arr its:List Nat}{fr item:Nat}{fx:Option (Nat×Nat)}(h:RepO m.b os)(w:ArrW os t arr its)(hf:FromW os fr fx)(hb:m.b.length≤10000000)(hit:item≤10000000):
 ∃os',RepO (Mk.link m arr its.length fr item).1.b os'∧ArrW os' t (Mk.link m arr its.length fr item).2.1 (its++ [item])∧Stp os os' (LinkS os t fx)∧
  (∀x s,shp os' x=some s→shp os x=some s∨ ∃k n,s=⟨6,n,[],(t,k)⟩)∧
  (∀a j,fx=some (a,j)→arr.length=0→wd os' a j=((Mk.link m arr its.length fr item).2.1.headD 0:Nat))∧
  (∀a j,fx=some (a,j)→0<arr.length→wd os' a j=wd os a j)∧
  (0<arr.length→(Mk.link m arr its.length fr item).2.1.headD 0=arr.headD 0):=by
 have hsz:=h.size
 unfold Mk.link
 by_cases hn:its.length=rooms arr.length
 ·rw[if_pos hn]
  dsimp only
  have hr:=roomN_bd arr.length
  have r1:=h.push (arrO t arr.length) (arrO_ok _ _)
  rw[arrO_enc]at r1
  have q1:=shp_push os (arrO t arr.length)
  have w1:=wd_push os (arrO t arr.length)
  have s1:=Stp.push os (arrO t arr.length) (LinkS os t fx)
  rw[←hsz]at q1 w1
  generalize os++ [arrO t arr.length]=o1 at*
  have hnew:shp o1 m.b.length=some ⟨6,1+roomN arr.length,[],(t,arr.length)⟩:=by
   rw[q1,if_pos rfl]
   show some (Sh.mk 6 (0::List.replicate (roomN arr.length) (0:Int)).length [] (t,arr.length))=_
   rw[List.length_cons,List.length_replicate,Nat.add_comm]
  have hlt: ∀ {x:Nat} {s:Sh},shp os x=some s→x≠m.b.length:=fun hx=>by have:=shp_lt hx;omega
  have hv: ∀x:Nat,x≤10000000→0≤(x:Int)∧(x:Int)≤18446744073709551615:=fun x hx=>by omega
  have hw0: ∀i,wd o1 m.b.length i=0:=fun i=>by
   rw[w1,if_pos rfl]
   show(0::List.replicate (roomN arr.length) (0:Int)).getD i 0=0
   rw[←List.replicate_succ,List.getD_eq_getElem?_getD,List.getElem?_replicate]
   split<;>rfl
  have mid: ∃o2,RepO (put8 (m.b++aobj arr.length) (if arr=[]then fr else arr.getLastD 0+16) m.b.length) o2∧Stp os o2 (LinkS os t fx)∧(∀x,shp o2 x=shp o1 x)∧
   (∀x i,wd o2 x i=if(arr=[]∧fx=some (x,i))∨(arr≠ []∧x=arr.getLastD 0∧i=0)then(m.b.length:Int)else wd o1 x i):=by
   by_cases he:arr=[]
   ·rw[if_pos he]
    cases fx with
    |none=>
     refine⟨o1,r1.front hf _,s1,fun _=>rfl,fun x i=>?_⟩
     rw[if_neg]
     rintro(⟨_,h2⟩|⟨h2,_⟩)
     ·cases h2
     ·exact h2 he
    |some p=>
     obtain⟨a,j⟩:=p
     obtain⟨f1,s,f2,f3,f4⟩:=hf
     have g1:shp o1 a=some s:=by rw[q1,if_neg (hlt f2)];exact f2
     refine⟨_,r1.put g1 f3 f1 (hv _ hb),?_,fun x=>shp_set o1 a j x _,fun x i=>?_⟩
     ·exact s1.trans ((Stp.set g1 f3 _).mono fun x i _ _ h2=> .inl (by rw[h2.1,h2.2]))
     ·rw[wd_set g1 f3]
      by_cases h2:x=a∧i=j
      ·rw[if_pos h2,if_pos (.inl ⟨he,by rw[h2.1,h2.2]⟩)]
      ·rw[if_neg h2,if_neg]
       rintro(⟨_,h3⟩|⟨h3,_⟩)
       ·injection h3 with h3
        injection h3 with h3 h4
        exact h2 ⟨h3.symm,h4.symm⟩
       ·exact h3 he
   ·rw[if_neg he]
    obtain⟨hk,hl⟩:=arr_last he
    have f2:=w.sh _ hk
    rw[←hl]at f2
    have g1:shp o1 (arr.getLastD 0)=some ⟨6,1+roomN (arr.length-1),[],(t,arr.length-1)⟩:=by rw[q1,if_neg (hlt f2)];exact f2
    have g2:0<(Sh.mk 6 (1+roomN (arr.length-1)) [] (t,arr.length-1)).n:=by show 0<1+_;omega
    refine⟨_,r1.put g1 g2 (by omega) (hv _ hb),?_,fun x=>shp_set o1 _ 0 x _,fun x i=>?_⟩
    ·exact s1.trans ((Stp.set g1 g2 _).mono fun x i s _ h2=>by obtain⟨h3,_⟩:=h2;subst h3;exact .inr ⟨_,_,f2⟩)
    ·rw[wd_set g1 g2]
     by_cases h2:x=arr.getLastD 0∧i=0
     ·rw[if_pos h2,if_pos (.inr ⟨he,h2⟩)]
     ·rw[if_neg h2,if_neg]
      rintro(⟨h3,_⟩|⟨_,h3⟩)
      ·exact he h3
      ·exact h2 h3
  obtain⟨o2,r2,s2,q2,w2⟩:=mid
  have hnew2:shp o2 m.b.length=some ⟨6,1+roomN arr.length,[],(t,arr.length)⟩:=(q2 _).trans hnew
  have g3:1<(Sh.mk 6 (1+roomN arr.length) [] (t,arr.length)).n:=by show 1<1+_;omega
  have r3:=r2.put hnew2 g3 (x:=m.b.length+24) (by omega) (hv _ hit)
  have q3:=fun x=>shp_set o2 m.b.length 1 x (item:Int)
  have w3:=wd_set hnew2 g3 (item:Int)
  have s3:Stp os (upd 272 o2 m.b.length (O.setW 1 (item:Int))) (LinkS os t fx):=
   ⟨fun x s e=>by rw[q3];exact s2.shp x s e,fun x i s e n=>by rw[w3,if_neg (fun h2=>hlt e h2.1)];exact s2.wd x i s e n⟩
  generalize upd 272 o2 m.b.length (O.setW 1 (item:Int))=o3 at*
  have W: ∀ {x i:Nat} {s:Sh},shp os x=some s→wd o3 x i=if(arr=[]∧fx=some (x,i))∨(arr≠ []∧x=arr.getLastD 0∧i=0)then(m.b.length:Int)else wd os x i:=fun {x i s} e=>by
   rw[w3,if_neg (fun h2=>hlt e h2.1),w2]
   split
   ·rfl
   ·rw[w1,if_neg (hlt e)]
  have hfxa: ∀ {x i:Nat},fx=some (x,i)→ ∃s,shp os x=some s∧s.k≠6:=fun {x i} e=>by
   subst e
   obtain⟨_,s,f2,_,f4⟩:=hf
   exact⟨s,f2,f4⟩
  refine⟨o3,r3,?_,s3,fun x s e=>?_,fun a j e he=>?_,fun a j e he=>?_,fun he=>?_⟩
  ·have hlen:(its++ [item]).length=its.length+1:=by simp
   have hget: ∀k (hk:k<(arr++ [m.b.length]).length),(arr++ [m.b.length])[k]=if h2:k<arr.length then arr[k]else m.b.length:=fun k hk=>by
    by_cases h2:k<arr.length
    ·rw[dif_pos h2,List.getElem_append_left h2]
    ·rw[dif_neg h2,List.getElem_append_right (by omega)]
     simp
   refine⟨?_,fun _=>?_,fun k hk=>?_,fun k hk=>?_,fun k hk j hj=>?_,by
    rw[List.pairwise_append]
    refine⟨w.asc,by simp,fun a ha b hb2=>?_⟩
    rw[List.mem_singleton]at hb2
    obtain⟨k,hk,e⟩:=List.mem_iff_getElem.1 ha
    have:=shp_lt (w.sh k hk)
    dsimp only at this
    omega⟩
   ·rw[hlen,List.length_append,List.length_singleton,rooms_succ];omega
   ·rw[hlen,List.length_append,List.length_singleton,Nat.add_sub_cancel];omega
   ·rw[hget k hk,q3,q2]
    by_cases h2:k<arr.length
    ·rw[dif_pos h2,q1,if_neg (hlt (w.sh k h2))]
     exact w.sh k h2
    ·rw[dif_neg h2]
     have:k=arr.length:=by rw[List.length_append,List.length_singleton]at hk;omega
     rw[this];exact hnew
   ·rw[hget k hk,getD_snoc]
    by_cases h2:k<arr.length
    ·rw[dif_pos h2,W (w.sh k h2)]
     have hne:arr≠ []:=List.ne_nil_of_length_pos (by omega)
     obtain⟨hk1,hl⟩:=arr_last hne
     by_cases h3:k=arr.length-1
     ·rw[if_pos (.inr ⟨hne,by rw[hl];simp[h3],rfl⟩),if_pos (by omega)]
     ·rw[if_neg,if_neg (by omega)]
      ·exact w.nx k h2
      ·rintro(⟨h4,_⟩|⟨_,h4,_⟩)
       ·exact hne h4
       ·rw[hl]at h4;exact h3 (w.inj h2 hk1 h4)
    ·rw[dif_neg h2]
     have h3:k=arr.length:=by rw[List.length_append,List.length_singleton]at hk;omega
     rw[if_neg (by omega),w3,if_neg (by omega),w2,if_neg,hw0,List.getD_eq_getElem?_getD,List.getElem?_eq_none (by omega)]
     ·rfl
     ·rintro(⟨_,h4⟩|⟨hne,h4,_⟩)
      ·obtain⟨s,h5,_⟩:=hfxa h4
       exact hlt h5 rfl
      ·obtain⟨hk1,hl⟩:=arr_last hne
       rw[hl]at h4
       exact hlt (w.sh _ hk1) h4.symm
   ·rw[hget k hk,getD_snoc]
    by_cases h2:k<arr.length
    ·rw[dif_pos h2,W (w.sh k h2),if_neg,if_neg,w.it k h2 j hj]
     ·have h3:=rooms_mono (show k+1≤arr.length by omega)
      rw[rooms_succ]at h3
      omega
     ·rintro(⟨h4,_⟩|⟨_,_,h4⟩)
      ·subst h4;simp at h2
      ·omega
    ·rw[dif_neg h2]
     have h3:k=arr.length:=by rw[List.length_append,List.length_singleton]at hk;omega
     subst h3
     by_cases h4:j=0
     ·subst h4
      rw[w3,if_pos ⟨rfl,rfl⟩,if_pos (by omega)]
     ·rw[w3,if_neg (by omega),w2,if_neg,hw0,if_neg (by omega),List.getD_eq_getElem?_getD,List.getElem?_eq_none (by omega)]
      ·rfl
      ·rintro(⟨_,h4⟩|⟨hne,h4,_⟩)
       ·obtain⟨s,h5,_⟩:=hfxa h4
        exact hlt h5 rfl
       ·omega
  ·rw[q3,q2,q1]at e
   split at e
   ·injection e with e
    exact .inr ⟨_,_,e.symm⟩
   ·exact .inl e
  ·have hnil:arr=[]:=List.eq_nil_of_length_eq_zero he
   obtain⟨s,h5,_⟩:=hfxa e
   rw[W h5,if_pos (.inl ⟨hnil,e⟩),hnil]
   rfl
  ·obtain⟨s,h5,h6⟩:=hfxa e
   have hne:arr≠ []:=List.ne_nil_of_length_pos he
   rw[W h5,if_neg]
   rintro(⟨h4,_⟩|⟨_,h4,_⟩)
   ·exact hne h4
   ·obtain⟨hk1,hl⟩:=arr_last hne
    have h7:=w.sh _ hk1
    rw[←hl,←h4,h5]at h7
    injection h7 with h7
    rw[h7]at h6
    exact h6 rfl
  ·cases arr with
   |nil=>simp at he
   |cons x r=>rfl
 ·rw[if_neg hn]
  dsimp only
  have hne:arr≠ []:=by
   intro e
   subst e
   have:=w.le
   rw[show rooms ([]:List Nat).length=0 from rfl]at this hn
   omega
  obtain⟨hk1,hl⟩:=arr_last hne
  have hp:=List.length_pos_iff.2 hne
  have h1:=w.ge hp
  have h2:=w.le
  have h3:=rooms_succ (arr.length-1)
  rw[show arr.length-1+1=arr.length by omega]at h3
  have f2:=w.sh _ hk1
  have hj:1+(its.length-rooms (arr.length-1))<(Sh.mk 6 (1+roomN (arr.length-1)) [] (t,arr.length-1)).n:=by
   show 1+_<1+_
   omega
  have hv:0≤(item:Int)∧(item:Int)≤18446744073709551615:=by omega
  have r1:=h.put f2 hj (x:=arr.getLastD 0+24+8*(its.length-rooms (arr.length-1))) (by rw[hl];omega) hv
  have q1:=fun x=>shp_set os arr[arr.length-1] (1+(its.length-rooms (arr.length-1))) x (item:Int)
  have w1:=wd_set f2 hj (item:Int)
  have s1:=(Stp.set f2 hj (item:Int)).mono (S':=LinkS os t fx) fun x i s _ h2=>by obtain⟨h3,_⟩:=h2;subst h3;exact .inr ⟨_,_,f2⟩
  generalize upd 272 os arr[arr.length-1] (O.setW (1+(its.length-rooms (arr.length-1))) (item:Int))=o1 at*
  refine⟨o1,r1,?_,s1,fun x s e=> .inl (by rw[←q1];exact e),fun a j e he=>by omega,fun a j e he=>?_,fun _=>rfl⟩
  ·have hlen:(its++ [item]).length=its.length+1:=by simp
   refine⟨by rw[hlen];omega,fun _=>by rw[hlen];omega,fun k hk=>by rw[q1];exact w.sh k hk,fun k hk=>?_,fun k hk j hj2=>?_,w.asc⟩
   ·rw[w1,if_neg (by omega)]
    exact w.nx k hk
   ·rw[w1,getD_snoc]
    by_cases h4:k=arr.length-1
    ·subst h4
     by_cases h5:j=its.length-rooms (arr.length-1)
     ·rw[if_pos ⟨rfl,by omega⟩,if_pos (by omega)]
     ·rw[if_neg (by omega),if_neg (by omega)]
      exact w.it _ hk j hj2
    ·rw[if_neg (fun h6=>h4 (w.inj hk hk1 h6.1)),if_neg,w.it k hk j hj2]
     have h5:=rooms_mono (show k+1≤arr.length-1 by omega)
     rw[rooms_succ]at h5
     omega
  ·subst e
   obtain⟨_,s,f5,_,f4⟩:=hf
   rw[w1,if_neg]
   intro h6
   rw[←h6.1,f5]at f2
   injection f2 with f2
   rw[f2]at f4
   exact f4 rfl
end Zc
namespace Ng
open Bytes8 Blk8 Own8 OwnE Rows2 Od Ga Ma Kf Mb Mc Md Mf Mg Fa Fb Dc Gb Na Nc Nd Nf
theorem mk_info:(Tryz.prog.info? 168).map (·.size)=some 147:=by kernel_rfl
theorem mcells_info (m:Mk)(S:Sl):(Tryz.prog.info? 168).map (·.size)=some (Mk.cells m S).toArray.size:=by rw[mk_info];simp[Mk.cells]
theorem mzeros_size (m:Mk)(S:Sl):Tryz.zeroCells168.size=(Mk.cells m S).toArray.size:=by rw[show Tryz.zeroCells168.size=147 by kernel_rfl];simp[Mk.cells]
theorem mk_one (m:Mk)(S:Sl)(hb:S.b.oneCell'=true)(hd:S.d.oneCell'=true)(hf:S.f.oneCell'=true)(hm:S.m.oneCell'=true):(Mk.cells m S).toArray.all (·.oneCell')=true:=by
 rw[Array.all_eq_true_iff_forall_mem]
 intro x hx
 simp only[Mk.cells,List.mem_toArray,List.mem_map,List.mem_range]at hx
 obtain⟨i,_,rfl⟩:=hx
 unfold Mk.at_ Cf.at_ HD.at_
 repeat' split
 all_goals first|assumption|rfl
theorem wpList_append_bnew {w:World}{ops:Array Oper}{rest:List Oper}{o:Oper}{a:Act}{Q:Exit→Act→World→Prop}(hgd:o.guard=none)(s x:Operand)
 (hop:o.op= .call {callee:= .builtin .append,args:= #[s,x],argTypes:= #[24,24]})
 (base:Nat)(A:Option Addr)(c:Nat)(hs:a.eval s= .slice A 0 c)(ho:Own w base A 0 c [])(A2:Option Addr)(m c2:Nat)(ys:List Int)(hx:a.eval x= .slice A2 m c2)(hb:Bytes w A2 ys)(hm:ys.length=m)(hm0:0<m)(hsz:m≤70368744177664)
 (h: ∀b' c' w',Own w' base (some ⟨b',0,none⟩) m c' ys→Below base w w'→wpList Tryz.prog ops Q rest (a.put o.dst (.slice (some ⟨b',0,none⟩) m c')) w'):wpList Tryz.prog ops Q (o::rest) a w:=by
 refine wpList_append_bytes hgd s x hop base A 0 c [] hs ho A2 m c2 ys hx hb hm (by omega) fun A' c' w' h2 h3=>?_
 rw[Nat.zero_add,List.nil_append]at h2
 rw[Nat.zero_add]
 rcases h2.2.2.2.2 with⟨he,h0⟩|⟨g,cap,cur,hv,hbg,hg,_⟩
 ·exfalso;omega
 ·injection hv with e1 e2 e3
  subst e1
  exact h g c' w' h2 h3
theorem chain_len {L n:Nat}{arr:List Nat}(h:Chain L arr n)(hn:n≤100000):arr.length≤25001:=by
 rcases Nat.eq_zero_or_pos arr.length with h0|h0
 ·omega
 ·have h4:=h.ge h0
  have h5:=rooms_ge (arr.length-1)
  omega
attribute [local irreducible] Mk.cells wpList Code.wp
variable {B g : Nat} {p : Pl} {m : Mk}
def Copied (m:Mk)(w:World)(e:Ending)(w':World):Prop:= ∃p2,e= .returned (.pointer (some ⟨w.heap.size,0,none⟩))∧At w' w.heap.size w.heap.size p2 m∧Below w.heap.size w w'
theorem copy_any (w:World)(h:At w B g p m)(I:Inv m)(hb:m.b.length≤100000):
 Calls Tryz.prog 97 #[.pointer (some ⟨g,0,none⟩)] w (Copied m w):=by
 have HA:=yH h
 have HI:=yH I
 have HB:=yH h.st.st
 have hpos:=I.len
 obtain⟨AM,nM,cM,eM,hlM,_⟩:=h.ma
 have hone:(Mk.cells m {p.S with b:= .slice (some ⟨p.bb,0,none⟩) m.b.length p.cb}).toArray.all (·.oneCell')=true:=mk_one _ _ rfl rfl rfl (by show p.M.oneCell'=true;rw[eM];rfl)
 have hM9:nM≤25001:=by
  obtain⟨n,h1,h2,h3⟩:=I.mn
  rw[←hlM]
  rcases Nat.eq_zero_or_pos m.main.length with h0|h0
  ·omega
  ·have h4:=h2.ge h0
   have h5:=rooms_ge (m.main.length-1)
   omega
 have HEM:=yH eM
 have Z1:=yH (heap_alloc_new w (.cells Tryz.zeroCells168 168))
 have b1:=yH ((Below.refl w.heap.size w).alloc (yR _) (.cells Tryz.zeroCells168 168))
 have B1:=yH (below_setRow b1.out (yR _) (Mk.cells m {p.S with b:= .slice (some ⟨p.bb,0,none⟩) m.b.length p.cb}).toArray)
 have R1:=yH (show Blk ((w.alloc (.cells Tryz.zeroCells168 168)).setRow w.heap.size (Mk.cells m {p.S with b:= .slice (some ⟨p.bb,0,none⟩) m.b.length p.cb}).toArray) w.heap.size (Mk.cells m {p.S with b:= .slice (some ⟨p.bb,0,none⟩) m.b.length p.cb}) 168 from setRow_heap _ w.heap.size _ _ 168 (0,0) Z1.out)
 clear h I eM
 unfold Copied
 go_enter Tryz.func97,Tryz.ntmps97
 go_upto_region 2 with(first
  |((with_reducible apply at_slot 8);refine wpList_load_row rfl 168 (.tmp 7) rfl g rfl 168 (Mk.cells m {p.S with b:= .slice (some ⟨p.bb,0,none⟩) m.b.length p.cb}).toArray (0,0) _ HB.out Tryz.underlying168 rfl (mcells_info _ _) ?_)
  |((with_reducible apply at_store (.tmp 3) (.tmp 8));refine wpList_store_row rfl 168 (.tmp 3) (.tmp 8) rfl w.heap.size (Mk.cells m {p.S with b:= .slice (some ⟨p.bb,0,none⟩) m.b.length p.cb}).toArray rfl rfl 168 Tryz.zeroCells168 Z1.out (mcells_info _ _) (mzeros_size _ _) hone ?_)
  |fail)
 generalize (w.alloc (.cells Tryz.zeroCells168 168)).setRow w.heap.size (Mk.cells m {p.S with b:= .slice (some ⟨p.bb,0,none⟩) m.b.length p.cb}).toArray=w1 at*
 obtain⟨G,hG⟩: ∃x,x=w.heap.size:=⟨_,rfl⟩
 have HG:=yH hG
 rw[←hG]at R1 B1
 have hGs:=R1.out.lt
 have hwG:w.heap.size≤G:=by omega
 have hgG: ∀k,p.foot g k→k<G:=fun k hk=>by have:=(At.lt HA.out k hk).2;omega
 rw[←hG]
 clear hG Z1 b1
 have HA1:=yH (At.below HA.out (HG.out▸B1.out))
 have ba1:=yH ((Below.refl w1.heap.size w1).alloc (yR _) (.cells #[] 5))
 have y143:=At.cb (At.below HA1.out ba1.out)
 have HBy:=yH ((At.below HA1.out ba1.out).st.own.bytes)
 have HO1:=yH (Own.made w1 (G+1) hGs)
 have R2:=yH (R1.out.alloc (.cells #[] 5))
 go_upto_region 3 with(first
  |(at_builtin;(refine wpList_append_bnew rfl (.tmp 9) (.tmp 13) rfl (G+1) (some ⟨w1.heap.size,0,none⟩) 0 rfl HO1.out (some ⟨p.bb,0,none⟩) m.b.length p.cb m.b rfl HBy.out rfl (by omega) (by omega) ?_);intro b3 c3 w3 ho3 hb3;have HO3:=yH ho3;have R3:=yH (R2.out.below hb3 (Nat.lt_succ_self _));have HB3:=yH (show Below G w1 w3 from((Below.refl G w1).alloc (Nat.le_of_lt hGs) _).trans (hb3.mono (Nat.le_succ _)));have z3:=R3.out.frozen 143;have x3:=R3.out.cell (Mk.get_b _ _);clear ho3 hb3)
  |fail)
 have hb3:=own_lt HO3.out
 have HO4:=yH (HO3.out.far (a:=⟨G,143,none⟩) (Nat.lt_succ_self _) (.slice (some ⟨b3,0,none⟩) m.b.length c3))
 have R4':=R3.out.set_ 143 (.slice (some ⟨b3,0,none⟩) m.b.length c3)
 rw[Mk.set_b]at R4'
 have R4:=yH R4'
 have B4:=yH (B1.out.trans (HB3.out.setCell (p:=⟨G,143,none⟩) (yR _) (.slice (some ⟨b3,0,none⟩) m.b.length c3)))
 generalize w3.setCell ⟨G,143,none⟩ (.slice (some ⟨b3,0,none⟩) m.b.length c3)=w4 at*
 clear R4' x3 z3 y143 HBy HO1 R2
 have HA4:=yH (At.below HA.out (HG.out▸B4.out))
 have ba4:=yH ((Below.refl w4.heap.size w4).alloc (yR _) (.cells #[] 27))
 have HA5:=yH (At.below HA4.out ba4.out)
 have y146:=At.cm HA5.out
 rw[HEM.out]at y146
 have HMa:=HA5.out.ma
 rw[HEM.out]at HMa
 obtain⟨nl,nc⟩:=arr_news HMa
 have HE4:=yH (empty_own w4 w4.heap.size (yR _))
 have R5:=yH (R4.out.alloc (.cells #[] 27))
 have HO5:=yH (HO4.out.alloc (.cells #[] 27))
 go_upto_region 4 with(first
  |(at_builtin;(refine wpList_append_new wordE rfl (.tmp 16) (.tmp 20) rfl w4.heap.size (some ⟨w4.heap.size,0,none⟩) 0 rfl HE4.out AM nM cM (wv m.main) rfl nl nc (wv_one _) (by omega) (by omega) (by unfold maxLen;omega) ?_);intro A6 c6 w6 ho6 hb6;have HM6:=yH ho6;have R6:=yH (R5.out.below hb6 R4.out.lt);have HB6:=yH (show Below w4.heap.size w4 w6 from ba4.out.trans hb6);have z6:=R6.out.frozen 146;have x6:=R6.out.cell (Mk.get_m _ _);clear ho6 hb6)
  |fail)
 have hb4:=own_lt HO4.out
 have hG4:=R4.out.lt
 have R7':=R6.out.set_ 146 (.slice A6 nM c6)
 rw[Mk.set_m]at R7'
 have R7:=yH R7'
 have x7:=R7.out.cell (Mk.get_d _ _)
 have z7:=R7.out.frozen 144
 have R8':=R7.out.set_ 144 (.slice none 0 0)
 rw[Mk.set_d]at R8'
 have R8:=yH R8'
 have x8:=R8.out.cell (Mk.get_f _ _)
 have z8:=R8.out.frozen 145
 have R9':=R8.out.set_ 145 (.slice none 0 0)
 rw[Mk.set_f]at R9'
 have R9:=yH R9'
 clear R7' R8' R9' x6 z6 y146 nl nc HMa
 have K9:=yH (((KeptF.set1 w6 G 146 (.slice A6 nM c6)).setCell (p:=⟨G,144,none⟩) (fun _=>rfl) (.slice none 0 0)).setCell (p:=⟨G,145,none⟩) (fun _=>rfl) (.slice none 0 0))
 have HO9:=yH (Own.base (Kf.Own.keptF (HO4.out.kept HB6.out (yR _)) K9.out (fun j hj e=>by injection hj with hj;have e2:G=b3:=e.symm.trans hj.symm;omega)) (b2:=G) (Nat.le_succ _))
 have HM9:=yH (Mf.OwnE.keptF HM6.out K9.out (fun j hj e=>by have:=(OwnE.ltB HM6.out j hj).1;have e:j=G:=e;omega))
 have B9:=yH ((((B4.out.trans (HB6.out.mono (Nat.le_of_lt hG4))).setCell (p:=⟨G,146,none⟩) (yR _) (.slice A6 nM c6)).setCell (p:=⟨G,144,none⟩) (yR _) (.slice none 0 0)).setCell (p:=⟨G,145,none⟩) (yR _) (.slice none 0 0))
 go_upto_region 5 with fail
 have e9:=K9.out.size
 generalize ((w6.setCell ⟨G,146,none⟩ (.slice A6 nM c6)).setCell ⟨G,144,none⟩ (.slice none 0 0)).setCell ⟨G,145,none⟩ (.slice none 0 0)=w9 at*
 have HAt:=yH (show At w9 G G ⟨b3,c3,none,0,0,none,0,0,.slice A6 nM c6,[],[]⟩ {m with datas:=m.datas.take 0,fields:=[]}from
  {st:=⟨by
    have e:=Mk.cells_same (m:=m) (m':={m with datas:=m.datas.take 0,fields:=[]}) rfl rfl rfl ⟨.slice (some ⟨b3,0,none⟩) m.b.length c3,.slice none 0 0,.slice none 0 0,.slice A6 nM c6⟩
    have h9:Blk w9 G (Mk.cells m ⟨.slice (some ⟨b3,0,none⟩) m.b.length c3,.slice none 0 0,.slice none 0 0,.slice A6 nM c6⟩) 168:=R9.out
    rw[e]at h9
    exact h9,HO9.out,by show G≠b3;omega⟩
   dr:=OwnE.nil _ _ (Nat.le_of_lt R9.out.lt)
   fr:=OwnE.nil _ _ (Nat.le_of_lt R9.out.lt)
   dm:=rfl
   fm:=rfl
   da:=fun q hq=>by cases hq
   ma:=arr_own HM9.out (fun k h1 h2 h3=>by
    rcases h3 with(e|e|e|e)|e
    ·have e:k=G:=e;omega
    ·have e:k=b3:=e;omega
    ·cases e
    ·cases e
    ·omega)
   dg:=fun k hk=>by cases hk
   fg:=fun k hk=>by cases hk
   df:=fun k hk=>by cases hk
   gB:=yR _
   fo:=fun q hq=>by cases hq})
 clear R7 R8 R9 x7 z7 x8 z8 K9 HM9 HO9 R1 R4 R5 R6 HO3 HO4 HO5 HE4
 have HL:=yH (ownK_len HA.out.dr)
 obtain⟨nd,hnd⟩: ∃n,p.nd=n:=⟨_,rfl⟩
 have HN:=yH hnd
 rw[hnd]at HL
 clear hnd
 have hnd8:nd≤100000:=by
  have h1:=HI.out.dn
  rw[←HA.out.dm,List.length_map,HL.out]at h1
  omega
 go_wp2
 go_loopw [4] (fun i wr=> ∃(k:Nat) (q:Pl),k≤nd∧i= .int .i64 (k:Int)∧Hid (At wr G G q {m with datas:=m.datas.take k,fields:=[]})∧Hid (q.nd=k∧q.F=none∧q.nf=0∧q.cf=0)∧Hid (Below G w wr)) (fun i _=>nd-(intOf i).toNat)
 case atStart=>exact⟨0,_,Nat.zero_le _,rfl,HAt,yH ⟨rfl,rfl,rfl,rfl⟩,B9⟩
 case round=>
  obtain⟨k,q,hkk,rfl,hAq,hq,hB⟩:=hrel
  have HAr:=yH (At.below HA.out (HG.out▸hB.out))
  have c144:wr.cell? ⟨g,144,none⟩=some (.slice p.D nd p.cd):=HN.out▸At.cd HAr.out
  by_cases hlt:k<nd
  ·have hki:k<p.dl.length:=by rw[HL.out];exact hlt
   obtain⟨b,hDb,hbl,d0,d1,d2,d3,d4⟩:=ownK_at HAr.out.dr k hki
   rw[hDb]at c144
   have hArr:=HAr.out.da _ (List.getElem_mem hki)
   have hmk:m.datas[k]'(by rw[←HA.out.dm,List.length_map];exact hki)=p.dl[k].1:=by simp only[←HA.out.dm,List.getElem_map]
   have hmt:m.datas.take (k+1)=m.datas.take k++ [p.dl[k].1]:=by rw[take_snoc_kn m.datas k (by rw[←HA.out.dm,List.length_map];exact hki),hmk]
   have hch:=(HI.out.dat p.dl[k].1 (by rw[←hmk];exact List.getElem_mem _)).2.2.2
   generalize p.dl[k]=x at*
   obtain⟨⟨tx,ax,sx,nx,rx⟩,vx⟩:=x
   dsimp only at d0 d1 d2 d3 d4 hArr hch hmt
   obtain⟨Ax,lx,cx,eX,hlx,_⟩:=id hArr
   subst eX
   have hlx5:lx≤25001:=by
    rw[←hlx]
    exact chain_len hch.1 (by omega)
   have HT:=yH hmt
   have HX:=yH hArr
   clear hArr hmt hmk hch hDb
   obtain⟨X,hX⟩: ∃X,T tx=X:=⟨_,rfl⟩
   have HTx:=yH hX
   rw[hX]at d0
   clear hX
   go_upto_region 9 with fail
   have ba:=yH ((Below.refl wr.heap.size wr).alloc (yR _) (.cells #[.string X,.int .u64 (ax:Int),.int .i64 (sx:Int),.int .i64 (nx:Int),.slice Ax lx cx] 197))
   have RK:=yH (Blk.new wr [.string X,.int .u64 (ax:Int),.int .i64 (sx:Int),.int .i64 (nx:Int),.slice Ax lx cx] 197)
   generalize wr.alloc (.cells #[.string X,.int .u64 (ax:Int),.int .i64 (sx:Int),.int .i64 (nx:Int),.slice Ax lx cx] 197)=wk at*
   have RK2:=yH (RK.out.alloc (.cells #[] 27))
   have xk4:=RK2.out.cell (i:=4) rfl
   have bk:=yH (ba.out.trans ((Below.refl wr.heap.size wk).alloc (Nat.le_of_lt RK.out.lt) (.cells #[] 27)))
   obtain⟨nl,nc⟩:=arr_news (HX.out.kept (KeptF.of_below (F:=None') bk.out) (fun _ _ _ h=>h.elim) (fun _ _ h=>h))
   have HE:=yH (empty_own wk wk.heap.size (yR _))
   go_upto_region 10 with(first
    |(at_builtin;(refine wpList_append_new wordE rfl (.tmp 41) (.tmp 43) rfl wk.heap.size (some ⟨wk.heap.size,0,none⟩) 0 rfl HE.out Ax lx cx (wv rx) rfl nl nc (wv_one _) (by omega) (by omega) (by unfold maxLen;omega) ?_);intro A9 c9 w9 ho9 hb9;have HO9:=yH ho9;have R9:=yH (RK2.out.below hb9 RK.out.lt);have HB9:=yH (show Below wk.heap.size wk w9 from((Below.refl wk.heap.size wk).alloc (yR _) _).trans hb9);have z9:=R9.out.frozen 4;have x9:=R9.out.cell (i:=4) rfl;clear ho9 hb9)
    |fail)
   have hKlt:=RK.out.lt
   have R10:=yH (show Blk _ wr.heap.size [.string X,.int .u64 (ax:Int),.int .i64 (sx:Int),.int .i64 (nx:Int),.slice A9 lx c9] 197 from R9.out.set_ 4 (.slice A9 lx c9))
   have HO10:=yH (Mf.OwnE.keptF HO9.out (KeptF.set1 w9 wr.heap.size 4 (.slice A9 lx c9)) (fun j hj e=>by have:=(OwnE.ltB HO9.out j hj).1;have e:j=wr.heap.size:=e;omega))
   have B10:=yH ((ba.out.trans (HB9.out.mono (Nat.le_of_lt hKlt))).setCell (p:=⟨wr.heap.size,4,none⟩) (yR _) (.slice A9 lx c9))
   generalize w9.setCell ⟨wr.heap.size,4,none⟩ (.slice A9 lx c9)=w10 at*
   have HA10:=yH (At.below hAq.out B10.out)
   have q144:w10.cell? ⟨G,144,none⟩=some (.slice q.D k q.cd):=hq.out.1▸At.cd HA10.out
   have e0:=R10.out.cell (i:=0) rfl
   have e1:=R10.out.cell (i:=1) rfl
   have e2:=R10.out.cell (i:=2) rfl
   have e3:=R10.out.cell (i:=3) rfl
   have e4:=R10.out.cell (i:=4) rfl
   have HArr:=yH (arr_own (Ft:=q.away G G) HO10.out (fun j h1 h2 h3=>h3.elim (fun h3=>by have:=(At.lt hAq.out j h3).2;omega) (fun h3=>by have:=(At.lt hAq.out G (.inl rfl)).2;omega)))
   have hK5:knC ⟨tx,ax,sx,nx,rx⟩ (.slice A9 lx c9)=[.string X,.int .u64 (ax:Int),.int .i64 (sx:Int),.int .i64 (nx:Int),.slice A9 lx c9]:=by unfold knC;rw[HTx.out]
   have HK5:=yH hK5
   clear hK5 x9 z9 xk4 nl nc
   go_wp2_with(first
    |(at_builtin;(refine wpList_append_elt_at knElt rfl (.tmp 47) (.tmp 49) rfl G q.D k q.cd (kf q.dl) rfl (hq.out.1▸OwnE.alloc HA10.out.dr _) ⟨w10.heap.size,0,none⟩ 1 1 [.string X,.int .u64 (ax:Int),.int .i64 (sx:Int),.int .i64 (nx:Int),.slice A9 lx c9] rfl rfl (Blk.news (Blk.new w10 _ 197)) (by simp[Value.oneCell']) (by omega) (by omega) (by unfold maxLen;omega) ?_);intro D11 c11 w11 ho11 hgr11 hat11;have HX11:=yH (At.pushD HA10.out w11 _ ⟨tx,ax,sx,nx,rx⟩ (.slice A9 lx c9) D11 c11 (congrArg (· +1) hq.out.1.symm) (HK5.out.symm▸ho11) hgr11 hat11 HArr.out);have x11:w11.cell? ⟨G,144,none⟩=some (.slice q.D k q.cd):=hq.out.1▸(pushed_st HA10.out hgr11).cell (Mk.get_d _ _);have z11:w11.frozen? ⟨G,144,none⟩=false:=(pushed_st HA10.out hgr11).frozen 144;clear ho11 hgr11)
    |fail)
   go_roundw
   case rel=>
    refine⟨k+1,{q with D:=D11,nd:=k+1,cd:=c11,dl:=q.dl++ [(⟨tx,ax,sx,nx,rx⟩,.slice A9 lx c9)]},by omega,by go_num,yH ?_,yH ⟨rfl,hq.out.2⟩,yH ?_⟩
    ·rw[HT.out]
     exact HX11.out.1
    ·have h1:=HX11.out.2.base (B:=G) (by have:=B10.out.size;have:=(At.lt hAq.out G (.inl rfl)).2;omega) (fun j hj=>(At.lt HA10.out j hj).1)
     exact(hB.out.trans (B10.out.mono (by have:=(At.lt hAq.out G (.inl rfl)).2;omega))).trans h1
   case measure=>simp[intOf];omega
  ·obtain rfl:k=nd:=by omega
   have hdl:m.datas.take k=m.datas:=List.take_of_length_le (by rw[←HA.out.dm,List.length_map,HL.out];exact yR _)
   have hAq2:=hAq.out
   rw[hdl]at hAq2
   have HA12:=yH (At.drew hAq2)
   have t145:wr.drew.cell? ⟨g,145,none⟩=some (.slice p.F p.nf p.cf):=At.cf (At.drew HAr.out)
   have hqS:some (Value.slice q.F q.nf q.cf)=some (.slice none 0 0):=by rw[hq.out.2.1,hq.out.2.2.1,hq.out.2.2.2]
   have u145:wr.drew.cell? ⟨G,145,none⟩=some (.slice none 0 0):=(At.cf HA12.out).trans hqS
   have hgneG:g≠G:=by have:=hgG g (.inl rfl);omega
   obtain⟨nl,nc⟩:=own_news (At.drew HAr.out).fr
   have hfn:p.nf≤100000:=by
    have h1:=HI.out.fn
    rw[←HA.out.fm,List.length_map,ownK_len HA.out.fr]at h1
    omega
   have hone5: ∀u∈kf p.fl,u.oneCell'=true:=by
    intro u hu
    unfold kf at hu
    obtain⟨y,hy,hu⟩:=List.mem_flatMap.1 hu
    have hv:=HA.out.fo y hy
    unfold knC at hu
    simp only[List.mem_cons,List.not_mem_nil,or_false]at hu
    rcases hu with rfl|rfl|rfl|rfl|rfl
    all_goals first|rfl|(rw[hv];rfl)
   go_upto_region 11 with fail
   refine wp_region_noPanic ?_
   refine wp_region_held_drew (S:=fun W:World=>W.cell? ⟨g,145,none⟩=some (.slice p.F p.nf p.cf)) (by kernel_rfl) (by exact t145) (fun hHeld=>?_)
   refine tk (i:=0) (oi:=⟨some 52,_,_,_,_,_⟩) (v:=?_) rfl (Or.inl ⟨by rfl,?_⟩) ?_
   rotate_left
   ·intro W hSw;go_simp;try (with_reducible rfl)
   try simp only[Act.put,sA,sZ,sS]
   refine tk (i:=2) (oi:=⟨some 54,_,_,_,_,_⟩) (v:=?_) rfl (Or.inl ⟨by rfl,?_⟩) ?_
   rotate_left
   ·intro W hSw;go_simp;try (with_reducible rfl)
   try simp only[Act.put,sA,sZ,sS]
   refine tk (i:=3) (oi:=⟨some 55,_,_,_,_,_⟩) (v:=?_) rfl (Or.inl ⟨by rfl,?_⟩) ?_
   rotate_left
   ·intro W hSw;go_simp;try (with_reducible rfl)
   try simp only[Act.put,sA,sZ,sS]
   refine tk (i:=4) (oi:=⟨some 56,_,_,_,_,_⟩) (v:=?_) rfl (Or.inl ⟨by rfl,?_⟩) ?_
   rotate_left
   ·intro W hSw;go_simp;try (with_reducible rfl)
   try simp only[Act.put,sA,sZ,sS]
   refine tk (i:=5) (oi:=⟨some 57,_,_,_,_,_⟩) (v:=?_) rfl (Or.inl ⟨by rfl,?_⟩) ?_
   rotate_left
   ·intro W hSw;have hSx:=hSw;go_simp;try (with_reducible rfl)
   try simp only[Act.put,sA,sZ,sS]
   refine wpAnyH_ready (rs:=[1]) (by kernel_rfl) (by simp) ?_
   refine AllReadyH.cons (o:=⟨some 53,_,_,_,_,_⟩) rfl (fun K hK=>?_) AllReadyH.nil
   go_simp
   skip
   try go_wp2_with fail
   refine hK.out _ _ (by exact t145) (fun hHeld=>?_)
   clear hK K
   try simp only[Act.put,sA,sZ,sS]
   refine wpAnyH_ready (rs:=[6]) (by kernel_rfl) (by simp) ?_
   refine AllReadyH.cons (o:=⟨some 58,_,_,_,_,_⟩) rfl (fun K hK=>?_) AllReadyH.nil
   refine step_append_new (o:=⟨some 58,_,_,_,_,_⟩) knElt rfl (.tmp 53) (.tmp 57) rfl G none 0 rfl (OwnE.nil _ _ (by have:=HA12.out.st.st.lt;omega)) p.F p.nf p.cf (kf p.fl) rfl nl nc hone5 (by omega) (by omega) (by unfold maxLen;omega) ?_
   intro F13 c13 w13 ho13 hgr13 hat13
   have HX13:=yH (At.allF HA12.out (by rw[hq.out.2.1];rfl) w13 p.fl m.fields F13 c13 ho13 hgr13 hat13 HA.out.fm HA.out.fo)
   have hb13:Below wr.heap.size wr w13:=(Below.refl _ _).drew.trans (below_grown hgr13 (yR _) (fun j hj=>by cases hj))
   have s145:w13.cell? ⟨g,145,none⟩=some (.slice p.F p.nf p.cf):=At.cf (At.below HAr.out hb13)
   have x145:w13.cell? ⟨G,145,none⟩=some (.slice none 0 0):=(At.below HA12.out (below_grown hgr13 (yR _) (fun j hj=>by cases hj))).st.st.cell (Mk.get_f _ _) |>.trans hqS
   have z145:w13.frozen? ⟨G,145,none⟩=false:=(At.below HA12.out (below_grown hgr13 (yR _) (fun j hj=>by cases hj))).st.st.frozen 145
   have v145: ∀v,(w13.setCell ⟨G,145,none⟩ v).cell? ⟨g,145,none⟩=some (.slice p.F p.nf p.cf):=fun v=>(World.cell?_of_block (a:=⟨g,145,none⟩) (Below.heap_setCell w13 ⟨G,145,none⟩ v g hgneG)).trans s145
   clear ho13 hgr13 hat13
   refine hK.out _ _ (by exact s145) (fun hHeld=>?_)
   clear hK K
   try simp only[Act.put,sA,sZ,sS]
   refine tk (i:=7) (oi:=⟨some 59,_,_,_,_,_⟩) (v:=?_) rfl (Or.inl ⟨by rfl,?_⟩) ?_
   rotate_left
   ·intro W hSw;go_simp;try (with_reducible rfl)
   try simp only[Act.put,sA,sZ,sS]
   refine wpAnyH_ready (rs:=[8]) (by kernel_rfl) (by simp) ?_
   refine AllReadyH.cons (o:=⟨none,_,_,_,_,_⟩) rfl (fun K hK=>?_) AllReadyH.nil
   go_simp
   skip
   try go_wp2_with fail
   refine hK.out _ _ (by exact v145 _) (fun hHeld=>?_)
   clear hK K
   try simp only[Act.put,sA,sZ,sS]
   refine wpAnyH_done (by kernel_rfl) ?_ _
   refine NoPanic.normal ?_
   go_wp2
   go_ret
   obtain rfl:=HG.out
   refine⟨_,rfl,HX13.out.1,?_⟩
   have h1:=HX13.out.2.base (B:=w.heap.size) (by have:=(At.lt hAq.out w.heap.size (.inl rfl)).2;exact Nat.le_of_lt this) (fun j hj=>(At.lt HA12.out j hj).1)
   exact(hB.out.drew).trans h1
end Ng
namespace In8
open Go.ChangeShapes Go.WideShapes Go.ChangeAt Go.RowKit Go.Deep
end In8
namespace Pr8
open Bytes8 Blk8 Own8 OwnE Fa Fb
abbrev PR:=List Int×List Int
abbrev nil2:PR:=([],[])
def okP (p:PR):Prop:=AllB p.1∧AllB p.2∧p.1.length≤maxLen∧p.2.length≤maxLen
def AllP (l:List PR):Prop:= ∀p∈l,okP p
theorem AllP.at_ {l:List PR}(h:AllP l)(i:Nat):okP (l.getD i nil2):=by
 by_cases hi:i<l.length
 ·rw[List.getD_eq_getElem?_getD,List.getElem?_eq_getElem hi];exact h _ (List.getElem_mem hi)
 ·rw[List.getD_eq_getElem?_getD,List.getElem?_eq_none (by omega)]
  exact⟨(fun x hx=>by cases hx),(fun x hx=>by cases hx),Nat.zero_le _,Nat.zero_le _⟩
theorem getD_mem' {l:List PR}{i:Nat}(hi:i<l.length):l.getD i nil2∈l:=by
 rw[List.getD_eq_getElem?_getD,List.getElem?_eq_getElem hi];exact List.getElem_mem hi
theorem mem_getD {l:List PR}{p:PR}(h:p∈l): ∃i,i<l.length∧l.getD i nil2=p:=by
 obtain⟨i,hi,rfl⟩:=List.mem_iff_getElem.1 h
 exact⟨i,hi,by rw[List.getD_eq_getElem?_getD,List.getElem?_eq_getElem hi];rfl⟩
def cellsP:List PR→List Value
 | []=>[]
 |p::r=> .string (T p.1):: .string (T p.2)::cellsP r
theorem cellsP_app: ∀l m,cellsP (l++m)=cellsP l++cellsP m
 | [],_=>rfl
 |p::l,m=>by simp[cellsP,cellsP_app l m]
theorem cellsP_len: ∀l,(cellsP l).length=l.length*2
 | []=>rfl
 |p::l=>by simp[cellsP,cellsP_len l];omega
theorem cellsP_at: ∀(l:List PR) (i:Nat),i<l.length→(cellsP l)[i*2]? =some (.string (T (l.getD i nil2).1))∧(cellsP l)[i*2+1]? =some (.string (T (l.getD i nil2).2))
 |p::l,0,_=>⟨rfl,rfl⟩
 |p::l,i+1,h=>by
  have:=cellsP_at l i (by simpa using h)
  rw[show(i+1)*2=i*2+1+1 by omega]
  simpa [cellsP]using this
def Prs (w:World)(a:Option Addr)(l:List PR):Prop:=
 AllP l∧ ∀i,i<l.length→ ∃b off,a=some ⟨b,off,none⟩∧b<w.heap.size∧w.cell? ⟨b,off+i*2,none⟩=some (.string (T (l.getD i nil2).1))∧w.cell? ⟨b,off+i*2+1,none⟩=some (.string (T (l.getD i nil2).2))
theorem Prs.nil (w:World)(a:Option Addr):Prs w a []:=⟨(fun _ h=>by cases h),fun i hi=>absurd hi (by simp)⟩
theorem Prs.keptB {w w':World}{a:Option Addr}{l:List PR}(h:Prs w a l)(hs:w.heap.size≤w'.heap.size)(hk: ∀b off,a=some ⟨b,off,none⟩→b<w.heap.size→w'.heap[b]? =w.heap[b]?):Prs w' a l:=by
 refine⟨h.1,fun i hi=>?_⟩
 obtain⟨b,off,e,h1,h2,h3⟩:=h.2 i hi
 have hb:=hk b off e h1
 exact⟨b,off,e,yL h1 hs,(World.cell?_of_block (a:=⟨b,off+i*2,none⟩) hb).trans h2,(World.cell?_of_block (a:=⟨b,off+i*2+1,none⟩) hb).trans h3⟩
theorem Prs.below {w w':World}{a:Option Addr}{l:List PR}(h:Prs w a l)(hb:Below w.heap.size w w'):Prs w' a l:=h.keptB hb.size fun b _ _ h1=>hb.block b h1
def OwnP (w:World)(base:Nat)(A:Option Addr)(n c:Nat)(l:List PR):Prop:=AllP l∧l.length=n∧OwnE 77 2 w base A n c (cellsP l)
theorem OwnP.nil (w:World)(base:Nat)(h:base≤w.heap.size):OwnP w base none 0 0 []:=⟨(fun _ h=>by cases h),rfl,OwnE.nil w base h⟩
theorem OwnP.prs {w:World}{base:Nat}{A:Option Addr}{n c:Nat}{l:List PR}(h:OwnP w base A n c l):Prs w A l:=by
 refine⟨h.1,fun i hi=>?_⟩
 obtain⟨h0,h1⟩:=cellsP_at l i hi
 have hl:=cellsP_len l
 obtain⟨g,e,hb,hlt,hc⟩:=h.2.2.cell (i:=i*2) (by omega)
 obtain⟨g',e',_,_,hc'⟩:=h.2.2.cell (i:=i*2+1) (by omega)
 rw[e]at e';simp at e';subst e'
 exact⟨g,0,e,hlt,by rw[Nat.zero_add,hc,h0],by rw[Nat.zero_add,hc',h1]⟩
theorem OwnP.kept {w w':World}{base B:Nat}{A:Option Addr}{n c:Nat}{l:List PR}(h:OwnP w base A n c l)(hb:Below B w w')(hB:w.heap.size≤B):OwnP w' base A n c l:=⟨h.1,h.2.1,h.2.2.kept hb hB⟩
theorem pairElt:Elt 77 72 2 32 (.agg #[.string {data:= #[]},.string {data:= #[]}]):=⟨Tryz.underlying72,by kernel_rfl,rfl,by decide⟩
def addU (acc:List PR)(p:PR):List PR:=if p∈acc then acc else acc++ [p]
def ded (l:List PR):List PR:=l.foldl addU []
theorem take_step {l:List PR}{k:Nat}(hk:k<l.length):l.take (k+1)=l.take k++ [l.getD k nil2]:=by
 rw[List.take_add_one,List.getElem?_eq_getElem hk]
 simp[List.getElem?_eq_getElem hk]
theorem addU_mem (acc:List PR)(p q:PR):q∈addU acc p↔q∈acc∨q=p:=by
 unfold addU;split
 ·constructor
  ·exact Or.inl
  ·rintro(h|rfl)<;>assumption
 ·simp
theorem foldl_mem (l:List PR): ∀acc q,q∈l.foldl addU acc↔q∈acc∨q∈l:=by
 induction l with
 |nil=>simp
 |cons p l ih=>intro acc q;rw[List.foldl_cons,ih,addU_mem];simp[or_assoc]
theorem ded_mem (l:List PR)(q:PR):q∈ded l↔q∈l:=by unfold ded;rw[foldl_mem];simp
theorem addU_nodup {acc:List PR}(h:acc.Nodup)(p:PR):(addU acc p).Nodup:=by
 unfold addU;split
 ·exact h
 ·rename_i hp
  rw[List.nodup_append]
  exact⟨h,by simp,fun a ha b hb=>by simp at hb;subst hb;rintro rfl;exact hp ha⟩
theorem foldl_nodup (l:List PR): ∀acc:List PR,acc.Nodup→(l.foldl addU acc).Nodup:=by
 induction l with
 |nil=>exact fun _ h=>h
 |cons p l ih=>exact fun acc h=>ih _ (addU_nodup h p)
theorem ded_nodup (l:List PR):(ded l).Nodup:=foldl_nodup l [] (by simp)
end Pr8
namespace Pa8
open Bytes8 Fa Pr8
theorem pair_eq (p q:PR):decide (p.1=q.1∧p.2=q.2)=decide (p=q):=by
 obtain⟨a,b⟩:=p;obtain⟨c,d⟩:=q
 simp[Prod.mk.injEq]
theorem eql_pr {p q:PR}(hp:okP p)(hq:okP q)(w:World):(binOp .eql 77 (.agg #[.string (T p.1),.string (T p.2)]) (.agg #[.string (T q.1),.string (T q.2)])).run Tryz.prog w= .ok (.bool (decide (p=q))) w:=by
 rw[←pair_eq];exact eql_pair hp.1 hp.2.1 hq.1 hq.2.1 w
end Pa8
namespace Ps8
open Go.ChangeShapes Go.WideShapes Go.ChangeAt Go.RowKit Go.Lib
open Bytes8 Fa Fb Fo Pr8
theorem pay_inj {n v m u:List Int}(h:flawI n v=0)(k:flawI m u=0)(e:pay n v=pay m u):n=m∧v=u:=by
 obtain⟨_,h1,h2⟩:=split_pay h
 obtain⟨_,k1,k2⟩:=split_pay k
 rw[e]at h1 h2
 exact⟨h1.symm.trans k1,h2.symm.trans k2⟩
def okR (p:PR):Prop:=AllB p.1∧AllB p.2∧flawI p.1 p.2=0
def ltP (p q:PR):Bool:=lessP p.1 p.2 q.1 q.2
theorem ltP_total {p q:PR}(hp:okR p)(hq:okR q)(h:ltP p q=false)(k:ltP q p=false):p=q:=by
 obtain⟨e1,e2⟩:=pay_inj hp.2.2 hq.2.2 (ltL_total _ _ h k)
 exact Prod.ext e1 e2
def sortP (l:List PR):List PR:=l.mergeSort fun x y=> !ltP y x
theorem sortP_perm (l:List PR):(sortP l).Perm l:=List.mergeSort_perm _ _
theorem sortP_mem (l:List PR)(p:PR):p∈sortP l↔p∈l:=(sortP_perm l).mem_iff
theorem sortP_len (l:List PR):(sortP l).length=l.length:=(sortP_perm l).length_eq
theorem own_block {w:World}{base n c g:Nat}{l:List PR}(h:OwnP w base (some ⟨g,0,none⟩) n c l):
 base≤g∧ ∃cur:Array Value,w.heap[g]? =some (.cells cur 77 (0,0))∧cur.toList.take (n*2)=cellsP l:=by
 rcases h.2.2.2.2 with⟨he,_⟩|⟨g',cap,cur,he,hb,hg,_,_,_,ht⟩
 ·cases he
 ·injection he with e1 e2 e3
  simp at e1
  subst e1
  exact⟨hb,cur,hg,ht⟩
end Ps8
namespace Pa8
end Pa8
end Go.Proofs.YtiddkgcafpaekaaGreat
