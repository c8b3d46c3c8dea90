/-
  Texts beneath.
-/
import Derived.Lib.SmallJoins
import Derived.Deep.SlicePairs
import Derived.Test.YteaikbodkgjkdaaGreatQl7
import Derived.Test.YteaikbodkgjkdaaGreatQl19
set_option linter.unusedVariables false
set_option linter.unusedSimpArgs false
set_option maxRecDepth 100000
set_option maxHeartbeats 4000000
open Go.ChangeShapes Go.WideShapes Go.ChangeAt Go.RowKit
namespace Go.Proofs.YteaikbodkgjkdaaGreat
namespace Zc
open Bytes8 Ob Ga Ma Mg Na Nc Yd Za Zb
structure ArrW (os:List O)(t:Nat)(arr its:List Nat):Prop where
 le:its.length≤rooms arr.length
 ge:0<arr.length→rooms (arr.length-1)<its.length
 sh: ∀k (h:k<arr.length),shp os arr[k]=some ⟨6,1+roomN k,[],(t,k)⟩
 nx: ∀k (h:k<arr.length),wd os arr[k] 0=(arr.getD (k+1) 0:Nat)
 it: ∀k (h:k<arr.length) j,j<roomN k→wd os arr[k] (1+j)=(its.getD (rooms k+j) 0:Nat)
 asc:arr.Pairwise (· < ·)
theorem ArrW.nil (a:List O)(t:Nat):ArrW a t [] []:=⟨Nat.zero_le _,fun h=>absurd h (by simp),fun k h=>absurd h (by simp),fun k h=>absurd h (by simp),fun k h=>absurd h (by simp),List.Pairwise.nil⟩
theorem ArrW.stp {os a:List O}{t:Nat}{arr its:List Nat}(h:ArrW os t arr its){S:Nat→Nat→Prop}(p:Stp os a S)(b: ∀x i k n,shp os x=some ⟨6,n,[],(t,k)⟩→ ¬S x i):ArrW a t arr its:=
 {le:=h.le,ge:=h.ge,asc:=h.asc
  sh:=fun k hk=>p.shp _ _ (h.sh k hk)
  nx:=fun k hk=>(p.wd _ _ _ (h.sh k hk) (b _ _ _ _ (h.sh k hk))).trans (h.nx k hk)
  it:=fun k hk j hj=>(p.wd _ _ _ (h.sh k hk) (b _ _ _ _ (h.sh k hk))).trans (h.it k hk j hj)}
theorem ArrW.inj {b:List O}{t:Nat}{arr its:List Nat}(h:ArrW b t arr its){i j:Nat}(f:i<arr.length)(d:j<arr.length)(e:arr[i]=arr[j]):i=j:=by
 have a:=h.sh i f
 have c:=h.sh j d
 rw[e,c]at a
 injection a with a
 injection a with _ _ _ a
 injection a with _ a
 exact a.symm
theorem aCF {arr:List Nat}(h:arr≠ []): ∃hk:arr.length-1<arr.length,arr.getLastD 0=arr[arr.length-1]:=⟨by have:=List.length_pos_iff.2 h;omega,aDn h⟩
theorem aD9 (l:List Nat)(x i:Nat):(l++ [x]).getD i 0=if i=l.length then x else l.getD i 0:=by
 rw[yD,yD]
 by_cases h:i=l.length
 ·subst h;simp
 ·rw[if_neg h]
  rcases Nat.lt_or_ge i l.length with a|a
  ·rw[List.getElem?_append_left a]
  ·rw[List.getElem?_eq_none (by simp;omega),List.getElem?_eq_none a]
def arrO (t k:Nat):O:=⟨6,0::List.replicate (roomN k) 0,[],(t,k)⟩
theorem aMU (t k:Nat):(arrO t k).enc=aobj k:=by
 unfold O.enc O.body arrO aobj arrB
 rw[aAZ,List.append_nil,nums_one]
theorem aOH (t k:Nat):(arrO t k).Ok:=
 {k:=⟨by show(1:Int)≤6;decide,by show(6:Int)≤7;decide⟩
  ws:=fun x a=>by
   rcases List.mem_cons.1 a with rfl|a
   ·decide
   ·rw[List.eq_of_mem_replicate a];decide
  tl:=fun x a=>by cases a
  n:=by
   rw[O.body_len]
   show 8*(0::List.replicate (roomN k) (0:Int)).length+0≤_
   have:=(aAE k).2
   rw[List.length_cons,List.length_replicate];omega}
def FromW (os:List O)(fr:Nat)(fx:Option (Nat×Nat)):Prop:=match fx with
 |none=>fr+8≤272
 |some (a,j)=>fr=a+16+8*j∧ ∃s,shp os a=some s∧j<s.n∧s.k≠6
def LinkS (os:List O)(t:Nat)(fx:Option (Nat×Nat))(x i:Nat):Prop:=fx=some (x,i)∨ ∃k n,shp os x=some ⟨6,n,[],(t,k)⟩
theorem aN8 {m:Mk}{os:List O}{t:Nat}{arr its:List Nat}{fr item:Nat}{fx:Option (Nat×Nat)}(h:RepO m.b os)(w:ArrW os t arr its)(Z:FromW os fr fx)(hb:m.b.length≤10000000)(aa:item≤10000000):
 ∃os',RepO (Mk.link m arr its.length fr item).1.b os'∧ArrW os' t (Mk.link m arr its.length fr item).2.1 (its++ [item])∧Stp os os' (LinkS os t fx)∧
  (∀x s,shp os' x=some s→shp os x=some s∨ ∃k n,s=⟨6,n,[],(t,k)⟩)∧
  (∀a j,fx=some (a,j)→arr.length=0→wd os' a j=((Mk.link m arr its.length fr item).2.1.headD 0:Nat))∧
  (∀a j,fx=some (a,j)→0<arr.length→wd os' a j=wd os a j)∧
  (0<arr.length→(Mk.link m arr its.length fr item).2.1.headD 0=arr.headD 0):=by
 have ab:=h.size
 unfold Mk.link
 by_cases hn:its.length=rooms arr.length
 ·rw[if_pos hn]
  dsimp only
  have hr:=aAE arr.length
  have r1:=h.push (arrO t arr.length) (aOH _ _)
  rw[aMU]at r1
  have F:=aCT os (arrO t arr.length)
  have w1:=aFS os (arrO t arr.length)
  have M:=Stp.push os (arrO t arr.length) (LinkS os t fx)
  rw[←ab]at F w1
  generalize os++ [arrO t arr.length]=B at*
  have H:shp B m.b.length=some ⟨6,1+roomN arr.length,[],(t,arr.length)⟩:=by
   rw[F,if_pos rfl]
   show some (Sh.mk 6 (0::List.replicate (roomN arr.length) (0:Int)).length [] (t,arr.length))=_
   rw[List.length_cons,List.length_replicate,Nat.add_comm]
  have o: ∀ {x:Nat} {s:Sh},shp os x=some s→x≠m.b.length:=fun hx=>by have:=aBn hx;omega
  have R: ∀x:Nat,x≤10000000→0≤(x:Int)∧(x:Int)≤18446744073709551615:=fun x hx=>by omega
  have X: ∀i,wd B m.b.length i=0:=fun i=>by
   rw[w1,if_pos rfl]
   show(0::List.replicate (roomN arr.length) (0:Int)).getD i 0=0
   rw[←List.replicate_succ,yD,List.getElem?_replicate]
   split<;>rfl
  have ac: ∃G,RepO (put8 (m.b++aobj arr.length) (if arr=[]then fr else arr.getLastD 0+16) m.b.length) G∧Stp os G (LinkS os t fx)∧(∀x,shp G x=shp B x)∧
   (∀x i,wd G x i=if(arr=[]∧fx=some (x,i))∨(arr≠ []∧x=arr.getLastD 0∧i=0)then(m.b.length:Int)else wd B x i):=by
   by_cases y:arr=[]
   ·rw[if_pos y]
    cases fx with
    |none=>
     refine⟨B,r1.front Z _,M,fun _=>rfl,fun x i=>?_⟩
     rw[if_neg]
     rintro(⟨_,c⟩|⟨c,_⟩)
     ·cases c
     ·exact c y
    |some p=>
     obtain⟨a,j⟩:=p
     obtain⟨f1,s,q,f3,N⟩:=Z
     have J:shp B a=some s:=by rw[F,if_neg (o q)];exact q
     refine⟨_,r1.put J f3 f1 (R _ hb),?_,fun x=>aAU B a j x _,fun x i=>?_⟩
     ·exact M.trans ((Stp.set J f3 _).mono fun x i _ _ c=> .inl (by rw[c.1,c.2]))
     ·rw[aBz J f3]
      by_cases c:x=a∧i=j
      ·rw[if_pos c,if_pos (.inl ⟨y,by rw[c.1,c.2]⟩)]
      ·rw[if_neg c,if_neg]
       rintro(⟨_,g⟩|⟨g,_⟩)
       ·injection g with g
        injection g with g d
        exact c ⟨g.symm,d.symm⟩
       ·exact g y
   ·rw[if_neg y]
    obtain⟨l,E⟩:=aCF y
    have q:=w.sh _ l
    rw[←E]at q
    have J:shp B (arr.getLastD 0)=some ⟨6,1+roomN (arr.length-1),[],(t,arr.length-1)⟩:=by rw[F,if_neg (o q)];exact q
    have g2:0<(Sh.mk 6 (1+roomN (arr.length-1)) [] (t,arr.length-1)).n:=by show 0<1+_;omega
    refine⟨_,r1.put J g2 (by omega) (R _ hb),?_,fun x=>aAU B _ 0 x _,fun x i=>?_⟩
    ·exact M.trans ((Stp.set J g2 _).mono fun x i s _ c=>by obtain⟨g,_⟩:=c;subst g;exact .inr ⟨_,_,q⟩)
    ·rw[aBz J g2]
     by_cases c:x=arr.getLastD 0∧i=0
     ·rw[if_pos c,if_pos (.inr ⟨y,c⟩)]
     ·rw[if_neg c,if_neg]
      rintro(⟨g,_⟩|⟨_,g⟩)
      ·exact y g
      ·exact c g
  obtain⟨G,r2,s2,q2,w2⟩:=ac
  have C:shp G m.b.length=some ⟨6,1+roomN arr.length,[],(t,arr.length)⟩:=(q2 _).trans H
  have g3:1<(Sh.mk 6 (1+roomN arr.length) [] (t,arr.length)).n:=by show 1<1+_;omega
  have r3:=r2.put C g3 (x:=m.b.length+24) (by omega) (R _ aa)
  have q3:=fun x=>aAU G m.b.length 1 x (item:Int)
  have w3:=aBz C g3 (item:Int)
  have s3:Stp os (upd 272 G m.b.length (O.setW 1 (item:Int))) (LinkS os t fx):=
   ⟨fun x s e=>by rw[q3];exact s2.shp x s e,fun x i s e n=>by rw[w3,if_neg (fun c=>o e c.1)];exact s2.wd x i s e n⟩
  generalize upd 272 G m.b.length (O.setW 1 (item:Int))=o3 at*
  have W: ∀ {x i:Nat} {s:Sh},shp os x=some s→wd o3 x i=if(arr=[]∧fx=some (x,i))∨(arr≠ []∧x=arr.getLastD 0∧i=0)then(m.b.length:Int)else wd os x i:=fun {x i s} e=>by
   rw[w3,if_neg (fun c=>o e c.1),w2]
   split
   ·rfl
   ·rw[w1,if_neg (o e)]
  have z: ∀ {x i:Nat},fx=some (x,i)→ ∃s,shp os x=some s∧s.k≠6:=fun {x i} e=>by
   subst e
   obtain⟨_,s,q,_,N⟩:=Z
   exact⟨s,q,N⟩
  refine⟨o3,r3,?_,s3,fun x s e=>?_,fun a j e y=>?_,fun a j e y=>?_,fun y=>?_⟩
  ·have v:(its++ [item]).length=its.length+1:=by simp
   have D: ∀k (l:k<(arr++ [m.b.length]).length),(arr++ [m.b.length])[k]=if c:k<arr.length then arr[k]else m.b.length:=fun k l=>by
    by_cases c:k<arr.length
    ·rw[dif_pos c,List.getElem_append_left c]
    ·rw[dif_neg c,List.getElem_append_right (by omega)]
     simp
   refine⟨?_,fun _=>?_,fun k l=>?_,fun k l=>?_,fun k l j V=>?_,by
    rw[List.pairwise_append]
    refine⟨w.asc,by simp,fun a ha b hb2=>?_⟩
    rw[List.mem_singleton]at hb2
    obtain⟨k,l,e⟩:=List.mem_iff_getElem.1 ha
    have:=aBn (w.sh k l)
    dsimp only at this
    omega⟩
   ·rw[v,yA,List.length_singleton,aAv];omega
   ·rw[v,yA,List.length_singleton,Nat.add_sub_cancel];omega
   ·rw[D k l,q3,q2]
    by_cases c:k<arr.length
    ·rw[dif_pos c,F,if_neg (o (w.sh k c))]
     exact w.sh k c
    ·rw[dif_neg c]
     have:k=arr.length:=by rw[yA,List.length_singleton]at l;omega
     rw[this];exact H
   ·rw[D k l,aD9]
    by_cases c:k<arr.length
    ·rw[dif_pos c,W (w.sh k c)]
     have f:arr≠ []:=List.ne_nil_of_length_pos (by omega)
     obtain⟨u,E⟩:=aCF f
     by_cases g:k=arr.length-1
     ·rw[if_pos (.inr ⟨f,by rw[E];simp[g],rfl⟩),if_pos (by omega)]
     ·rw[if_neg,if_neg (by omega)]
      ·exact w.nx k c
      ·rintro(⟨d,_⟩|⟨_,d,_⟩)
       ·exact f d
       ·rw[E]at d;exact g (w.inj c u d)
    ·rw[dif_neg c]
     have g:k=arr.length:=by rw[yA,List.length_singleton]at l;omega
     rw[if_neg (by omega),w3,if_neg (by omega),w2,if_neg,X,yD,List.getElem?_eq_none (by omega)]
     ·rfl
     ·rintro(⟨_,d⟩|⟨f,d,_⟩)
      ·obtain⟨s,A,_⟩:=z d
       exact o A rfl
      ·obtain⟨u,E⟩:=aCF f
       rw[E]at d
       exact o (w.sh _ u) d.symm
   ·rw[D k l,aD9]
    by_cases c:k<arr.length
    ·rw[dif_pos c,W (w.sh k c),if_neg,if_neg,w.it k c j V]
     ·have g:=rooms_mono (show k+1≤arr.length by omega)
      rw[aAv]at g
      omega
     ·rintro(⟨d,_⟩|⟨_,_,d⟩)
      ·subst d;simp at c
      ·omega
    ·rw[dif_neg c]
     have g:k=arr.length:=by rw[yA,List.length_singleton]at l;omega
     subst g
     by_cases d:j=0
     ·subst d
      rw[w3,if_pos ⟨rfl,rfl⟩,if_pos (by omega)]
     ·rw[w3,if_neg (by omega),w2,if_neg,X,if_neg (by omega),yD,List.getElem?_eq_none (by omega)]
      ·rfl
      ·rintro(⟨_,d⟩|⟨f,d,_⟩)
       ·obtain⟨s,A,_⟩:=z d
        exact o A rfl
       ·omega
  ·rw[q3,q2,F]at e
   split at e
   ·injection e with e
    exact .inr ⟨_,_,e.symm⟩
   ·exact .inl e
  ·have I:arr=[]:=List.eq_nil_of_length_eq_zero y
   obtain⟨s,A,_⟩:=z e
   rw[W A,if_pos (.inl ⟨I,e⟩),I]
   rfl
  ·obtain⟨s,A,L⟩:=z e
   have f:arr≠ []:=List.ne_nil_of_length_pos y
   rw[W A,if_neg]
   rintro(⟨d,_⟩|⟨_,d,_⟩)
   ·exact f d
   ·obtain⟨u,E⟩:=aCF f
    have Y:=w.sh _ u
    rw[←E,←d,A]at Y
    injection Y with Y
    rw[Y]at L
    exact L rfl
  ·cases arr with
   |nil=>simp at y
   |cons x r=>rfl
 ·rw[if_neg hn]
  dsimp only
  have f:arr≠ []:=by
   intro e
   subst e
   have:=w.le
   rw[show rooms ([]:List Nat).length=0 from rfl]at this hn
   omega
  obtain⟨u,E⟩:=aCF f
  have hp:=List.length_pos_iff.2 f
  have h1:=w.ge hp
  have c:=w.le
  have g:=aAv (arr.length-1)
  rw[show arr.length-1+1=arr.length by omega]at g
  have q:=w.sh _ u
  have V:1+(its.length-rooms (arr.length-1))<(Sh.mk 6 (1+roomN (arr.length-1)) [] (t,arr.length-1)).n:=by
   show 1+_<1+_
   omega
  have R:0≤(item:Int)∧(item:Int)≤18446744073709551615:=by omega
  have r1:=h.put q V (x:=arr.getLastD 0+24+8*(its.length-rooms (arr.length-1))) (by rw[E];omega) R
  have F:=fun x=>aAU os arr[arr.length-1] (1+(its.length-rooms (arr.length-1))) x (item:Int)
  have w1:=aBz q V (item:Int)
  have M:=(Stp.set q V (item:Int)).mono (S':=LinkS os t fx) fun x i s _ c=>by obtain⟨g,_⟩:=c;subst g;exact .inr ⟨_,_,q⟩
  generalize upd 272 os arr[arr.length-1] (O.setW (1+(its.length-rooms (arr.length-1))) (item:Int))=B at*
  refine⟨B,r1,?_,M,fun x s e=> .inl (by rw[←F];exact e),fun a j e y=>by omega,fun a j e y=>?_,fun _=>rfl⟩
  ·have v:(its++ [item]).length=its.length+1:=by simp
   refine⟨by rw[v];omega,fun _=>by rw[v];omega,fun k l=>by rw[F];exact w.sh k l,fun k l=>?_,fun k l j hj2=>?_,w.asc⟩
   ·rw[w1,if_neg (by omega)]
    exact w.nx k l
   ·rw[w1,aD9]
    by_cases d:k=arr.length-1
    ·subst d
     by_cases A:j=its.length-rooms (arr.length-1)
     ·rw[if_pos ⟨rfl,by omega⟩,if_pos (by omega)]
     ·rw[if_neg (by omega),if_neg (by omega)]
      exact w.it _ l j hj2
    ·rw[if_neg (fun L=>d (w.inj l u L.1)),if_neg,w.it k l j hj2]
     have A:=rooms_mono (show k+1≤arr.length-1 by omega)
     rw[aAv]at A
     omega
  ·subst e
   obtain⟨_,s,f5,_,N⟩:=Z
   rw[w1,if_neg]
   intro L
   rw[←L.1,f5]at q
   injection q with q
   rw[q]at N
   exact N rfl
end Zc
namespace Ng
open Bytes8 Blk8 Own8 OwnE Rows2 Od Ga Ma Kf Mb Mc Md Mf Mg Fa Fb Dc Gb Na Nc Nd Nf
theorem aOI:(Tryz.prog.info? 126).map (·.size)=some 147:=by kernel_rfl
theorem aBE (m:Mk)(S:Sl):(Tryz.prog.info? 126).map (·.size)=some (Mk.cells m S).toArray.size:=by rw[aOI];simp[Mk.cells]
theorem aHn (m:Mk)(S:Sl):Tryz.zeroCells126.size=(Mk.cells m S).toArray.size:=by rw[show Tryz.zeroCells126.size=147 by kernel_rfl];simp[Mk.cells]
theorem aN9 (m:Mk)(S:Sl)(j:S.b.oneCell'=true)(c:S.d.oneCell'=true)(g:S.f.oneCell'=true)(e:S.m.oneCell'=true):(Mk.cells m S).toArray.all (·.oneCell')=true:=by
 rw[Array.all_eq_true_iff_forall_mem]
 intro x a
 simp only[Mk.cells,List.mem_toArray,List.mem_map,List.mem_range]at a
 obtain⟨i,_,rfl⟩:=a
 unfold Mk.at_ Cf.at_ HD.at_
 repeat' split
 all_goals first|assumption|rfl
theorem aCG {w:World}{b:Array Oper}{rest:List Oper}{o:Oper}{a:Act}{Q:Exit→Act→World→Prop}(e:o.guard=none)(s x:Operand)
 (f:o.op= .call {callee:= .builtin .append,args:= #[s,x],argTypes:= #[26,26]})
 (base:Nat)(A:Option Addr)(c:Nat)(hs:a.eval s= .slice A 0 c)(r:Own w base A 0 c [])(i:Option Addr)(m j:Nat)(d:List Int)(u:a.eval x= .slice i m j)(k:Bytes w i d)(v:d.length=m)(n:0<m)(p:m≤70368744177664)
 (h: ∀b' c' w',Own w' base (some ⟨b',0,none⟩) m c' d→Below base w w'→wpList Tryz.prog b Q rest (a.put o.dst (.slice (some ⟨b',0,none⟩) m c')) w'):wpList Tryz.prog b Q (o::rest) a w:=by
 refine aAd e s x f base A 0 c [] hs r i m j d u k v (by omega) fun A' c' w' h2 h3=>?_
 rw[Nat.zero_add,List.nil_append]at h2
 rw[Nat.zero_add]
 rcases h2.2.2.2.2 with⟨C,z⟩|⟨g,l,q,y,t,B,_⟩
 ·exfalso;omega
 ·injection y with e1 e2 e3
  subst e1
  exact h g c' w' h2 h3
theorem aGe {L n:Nat}{arr:List Nat}(h:Chain L arr n)(d:n≤100000):arr.length≤25001:=by
 rcases Nat.eq_zero_or_pos arr.length with a|a
 ·omega
 ·have b:=h.ge a
  have c:=aFl (arr.length-1)
  omega
attribute [local irreducible] Mk.cells wpList Code.wp
variable {B g : Nat} {p : Pl} {m : Mk}
def Copied (m:Mk)(w:World)(e:Ending)(w':World):Prop:= ∃p2,e= .returned (.pointer (some ⟨w.heap.size,0,none⟩))∧At w' w.heap.size w.heap.size p2 m∧Below w.heap.size w w'
theorem aMV (w:World)(h:At w B g p m)(I:Inv m)(hb:m.b.length≤100000):
 Calls Tryz.prog 65 #[.pointer (some ⟨g,0,none⟩)] w (Copied m w):=by
 have r:=yH h
 have HI:=yH I
 have HB:=yH h.st.st
 have br:=I.len
 obtain⟨AM,Z,cM,eM,bn,_⟩:=h.ma
 have aG:(Mk.cells m {p.S with b:= .slice (some ⟨p.bb,0,none⟩) m.b.length p.cb}).toArray.all (·.oneCell')=true:=aN9 _ _ rfl rfl rfl (by show p.M.oneCell'=true;rw[eM];rfl)
 have bz:Z≤25001:=by
  obtain⟨n,V,h2,h3⟩:=I.mn
  rw[←bn]
  rcases Nat.eq_zero_or_pos m.main.length with h0|h0
  ·omega
  ·have h4:=h2.ge h0
   have h5:=aFl (m.main.length-1)
   omega
 have aO:=yH eM
 have Z1:=yH (heap_alloc_new w (.cells Tryz.zeroCells126 126))
 have b1:=yH ((yB w.heap.size w).alloc (yR _) (.cells Tryz.zeroCells126 126))
 have B1:=yH (below_setRow b1.out (yR _) (Mk.cells m {p.S with b:= .slice (some ⟨p.bb,0,none⟩) m.b.length p.cb}).toArray)
 have R1:=yH (show Blk ((w.alloc (.cells Tryz.zeroCells126 126)).setRow w.heap.size (Mk.cells m {p.S with b:= .slice (some ⟨p.bb,0,none⟩) m.b.length p.cb}).toArray) w.heap.size (Mk.cells m {p.S with b:= .slice (some ⟨p.bb,0,none⟩) m.b.length p.cb}) 126 from setRow_heap _ w.heap.size _ _ 126 (0,0) Z1.out)
 clear h I eM
 unfold Copied
 go_enter Tryz.func65,Tryz.ntmps65
 go_upto_region 2 with(first
  |((with_reducible apply aAb 8);refine wpList_load_row rfl 126 (.tmp 7) rfl g rfl 126 (Mk.cells m {p.S with b:= .slice (some ⟨p.bb,0,none⟩) m.b.length p.cb}).toArray (0,0) _ HB.out Tryz.underlying126 rfl (aBE _ _) ?_)
  |((with_reducible apply aAa (.tmp 3) (.tmp 8));refine wpList_store_row rfl 126 (.tmp 3) (.tmp 8) rfl w.heap.size (Mk.cells m {p.S with b:= .slice (some ⟨p.bb,0,none⟩) m.b.length p.cb}).toArray rfl rfl 126 Tryz.zeroCells126 Z1.out (aBE _ _) (aHn _ _) aG ?_)
  |fail)
 generalize (w.alloc (.cells Tryz.zeroCells126 126)).setRow w.heap.size (Mk.cells m {p.S with b:= .slice (some ⟨p.bb,0,none⟩) m.b.length p.cb}).toArray=w1 at*
 obtain⟨G,hG⟩: ∃x,x=w.heap.size:=⟨_,rfl⟩
 have HG:=yH hG
 rw[←hG]at R1 B1
 have aL:=R1.out.lt
 have bC:w.heap.size≤G:=by omega
 have a6: ∀k,p.foot g k→k<G:=fun k hk=>by have:=(At.lt r.out k hk).2;omega
 rw[←hG]
 clear hG Z1 b1
 have aE:=yH (At.below r.out (HG.out▸B1.out))
 have aR:=yH ((yB w1.heap.size w1).alloc (yR _) (.cells #[] 5))
 have aP:=At.cb (At.below aE.out aR.out)
 have a5:=yH ((At.below aE.out aR.out).st.own.bytes)
 have aH:=yH (Own.made w1 (G+1) aL)
 have R2:=yH (R1.out.alloc (.cells #[] 5))
 go_upto_region 3 with(first
  |(at_builtin;(refine aCG rfl (.tmp 9) (.tmp 13) rfl (G+1) (some ⟨w1.heap.size,0,none⟩) 0 rfl aH.out (some ⟨p.bb,0,none⟩) m.b.length p.cb m.b rfl a5.out rfl (by omega) (by omega) ?_);intro L c3 w3 a0 ab;have aA:=yH a0;have R3:=yH (R2.out.below ab (Nat.lt_succ_self _));have bl:=yH (show Below G w1 w3 from((yB G w1).alloc (Nat.le_of_lt aL) _).trans (ab.mono (Nat.le_succ _)));have z3:=R3.out.frozen 143;have x3:=R3.out.cell (Mk.get_b _ _);clear a0 ab)
  |fail)
 have ab:=aEI aA.out
 have aa:=yH (aA.out.far (a:=⟨G,143,none⟩) (Nat.lt_succ_self _) (.slice (some ⟨L,0,none⟩) m.b.length c3))
 have aw:=R3.out.set_ 143 (.slice (some ⟨L,0,none⟩) m.b.length c3)
 rw[Mk.set_b]at aw
 have R4:=yH aw
 have B4:=yH (B1.out.trans (bl.out.setCell (p:=⟨G,143,none⟩) (yR _) (.slice (some ⟨L,0,none⟩) m.b.length c3)))
 generalize w3.setCell ⟨G,143,none⟩ (.slice (some ⟨L,0,none⟩) m.b.length c3)=w4 at*
 clear aw x3 z3 aP a5 aH R2
 have a8:=yH (At.below r.out (HG.out▸B4.out))
 have aX:=yH ((yB w4.heap.size w4).alloc (yR _) (.cells #[] 59))
 have aI:=yH (At.below a8.out aX.out)
 have ah:=At.cm aI.out
 rw[aO.out]at ah
 have aB:=aI.out.ma
 rw[aO.out]at aB
 obtain⟨nl,nc⟩:=aDF aB
 have aW:=yH (aCA w4 w4.heap.size (yR _))
 have R5:=yH (R4.out.alloc (.cells #[] 59))
 have bc:=yH (aa.out.alloc (.cells #[] 59))
 go_upto_region 4 with(first
  |(at_builtin;(refine wpList_append_new aJh rfl (.tmp 16) (.tmp 20) rfl w4.heap.size (some ⟨w4.heap.size,0,none⟩) 0 rfl aW.out AM Z cM (wv m.main) rfl nl nc (aEN _) (by omega) (by omega) (by unfold maxLen;omega) ?_);intro A6 c6 w6 aT ar;have aV:=yH aT;have R6:=yH (R5.out.below ar R4.out.lt);have aK:=yH (show Below w4.heap.size w4 w6 from aX.out.trans ar);have z6:=R6.out.frozen 146;have x6:=R6.out.cell (Mk.get_m _ _);clear aT ar)
  |fail)
 have bE:=aEI aa.out
 have bj:=R4.out.lt
 have am:=R6.out.set_ 146 (.slice A6 Z c6)
 rw[Mk.set_m]at am
 have R7:=yH am
 have x7:=R7.out.cell (Mk.get_d _ _)
 have z7:=R7.out.frozen 144
 have al:=R7.out.set_ 144 (.slice none 0 0)
 rw[Mk.set_d]at al
 have R8:=yH al
 have x8:=R8.out.cell (Mk.get_f _ _)
 have z8:=R8.out.frozen 145
 have aq:=R8.out.set_ 145 (.slice none 0 0)
 rw[Mk.set_f]at aq
 have R9:=yH aq
 clear am al aq x6 z6 ah nl nc aB
 have K9:=yH (((KeptF.set1 w6 G 146 (.slice A6 Z c6)).setCell (p:=⟨G,144,none⟩) (fun _=>rfl) (.slice none 0 0)).setCell (p:=⟨G,145,none⟩) (fun _=>rfl) (.slice none 0 0))
 have E:=yH (Own.base (Kf.Own.keptF (aa.out.kept aK.out (yR _)) K9.out (fun j hj e=>by injection hj with hj;have e2:G=L:=e.symm.trans hj.symm;omega)) (b2:=G) (Nat.le_succ _))
 have a3:=yH (Mf.OwnE.keptF aV.out K9.out (fun j hj e=>by have:=(OwnE.ltB aV.out j hj).1;have e:j=G:=e;omega))
 have B9:=yH ((((B4.out.trans (aK.out.mono (Nat.le_of_lt bj))).setCell (p:=⟨G,146,none⟩) (yR _) (.slice A6 Z c6)).setCell (p:=⟨G,144,none⟩) (yR _) (.slice none 0 0)).setCell (p:=⟨G,145,none⟩) (yR _) (.slice none 0 0))
 go_upto_region 5 with fail
 have e9:=K9.out.size
 generalize ((w6.setCell ⟨G,146,none⟩ (.slice A6 Z c6)).setCell ⟨G,144,none⟩ (.slice none 0 0)).setCell ⟨G,145,none⟩ (.slice none 0 0)=w9 at*
 have a7:=yH (show At w9 G G ⟨L,c3,none,0,0,none,0,0,.slice A6 Z c6,[],[]⟩ {m with datas:=m.datas.take 0,fields:=[]}from
  {st:=⟨by
    have e:=Mk.cells_same (m:=m) (m':={m with datas:=m.datas.take 0,fields:=[]}) rfl rfl rfl ⟨.slice (some ⟨L,0,none⟩) m.b.length c3,.slice none 0 0,.slice none 0 0,.slice A6 Z c6⟩
    have h9:Blk w9 G (Mk.cells m ⟨.slice (some ⟨L,0,none⟩) m.b.length c3,.slice none 0 0,.slice none 0 0,.slice A6 Z c6⟩) 126:=R9.out
    rw[e]at h9
    exact h9,E.out,by show G≠L;omega⟩
   dr:=OwnE.nil _ _ (Nat.le_of_lt R9.out.lt)
   fr:=OwnE.nil _ _ (Nat.le_of_lt R9.out.lt)
   dm:=rfl
   fm:=rfl
   da:=fun q C=>by cases C
   ma:=aFo a3.out (fun k V h2 h3=>by
    rcases h3 with(e|e|e|e)|e
    ·have e:k=G:=e;omega
    ·have e:k=L:=e;omega
    ·cases e
    ·cases e
    ·omega)
   dg:=fun k hk=>by cases hk
   fg:=fun k hk=>by cases hk
   df:=fun k hk=>by cases hk
   gB:=yR _
   fo:=fun q C=>by cases C})
 clear R7 R8 R9 x7 z7 x8 z8 K9 a3 E R1 R4 R5 R6 aA aa bc aW
 have HL:=yH (aAy r.out.dr)
 obtain⟨nd,aC⟩: ∃n,p.nd=n:=⟨_,rfl⟩
 have HN:=yH aC
 rw[aC]at HL
 clear aC
 have bs:nd≤100000:=by
  have V:=HI.out.dn
  rw[←r.out.dm,List.length_map,HL.out]at V
  omega
 go_wp2
 go_loopw [4] (fun i wr=> ∃(k:Nat) (q:Pl),k≤nd∧i= .int .i64 (k:Int)∧Hid (At wr G G q {m with datas:=m.datas.take k,fields:=[]})∧Hid (q.nd=k∧q.F=none∧q.nf=0∧q.cf=0)∧Hid (Below G w wr)) (fun i _=>nd-(intOf i).toNat)
 case atStart=>exact⟨0,_,Nat.zero_le _,rfl,a7,yH ⟨rfl,rfl,rfl,rfl⟩,B9⟩
 case round=>
  obtain⟨k,q,bw,rfl,t,C,hB⟩:=hrel
  have A:=yH (At.below r.out (HG.out▸hB.out))
  have aD:wr.cell? ⟨g,144,none⟩=some (.slice p.D nd p.cd):=HN.out▸At.cd A.out
  by_cases bf:k<nd
  ·have Y:k<p.dl.length:=by rw[HL.out];exact bf
   obtain⟨b,a1,bx,d0,d1,d2,d3,d4⟩:=aBp A.out.dr k Y
   rw[a1]at aD
   have z:=A.out.da _ (List.getElem_mem Y)
   have ap:m.datas[k]'(by rw[←r.out.dm,List.length_map];exact Y)=p.dl[k].1:=by simp only[←r.out.dm,List.getElem_map]
   have av:m.datas.take (k+1)=m.datas.take k++ [p.dl[k].1]:=by rw[aDw m.datas k (by rw[←r.out.dm,List.length_map];exact Y),ap]
   have az:=(HI.out.dat p.dl[k].1 (by rw[←ap];exact List.getElem_mem _)).2.2.2
   generalize p.dl[k]=x at*
   obtain⟨⟨tx,ax,sx,nx,rx⟩,vx⟩:=x
   dsimp only at d0 d1 d2 d3 d4 z az av
   obtain⟨Ax,s,cx,eX,bd,_⟩:=id z
   subst eX
   have bu:s≤25001:=by
    rw[←bd]
    exact aGe az.1 (by omega)
   have HT:=yH av
   have HX:=yH z
   clear z av ap az a1
   obtain⟨X,hX⟩: ∃X,T tx=X:=⟨_,rfl⟩
   have bp:=yH hX
   rw[hX]at d0
   clear hX
   go_upto_region 9 with fail
   have ba:=yH ((yB wr.heap.size wr).alloc (yR _) (.cells #[.string X,.int .u64 (ax:Int),.int .i64 (sx:Int),.int .i64 (nx:Int),.slice Ax s cx] 142))
   have RK:=yH (Blk.new wr [.string X,.int .u64 (ax:Int),.int .i64 (sx:Int),.int .i64 (nx:Int),.slice Ax s cx] 142)
   generalize wr.alloc (.cells #[.string X,.int .u64 (ax:Int),.int .i64 (sx:Int),.int .i64 (nx:Int),.slice Ax s cx] 142)=wk at*
   have aF:=yH (RK.out.alloc (.cells #[] 59))
   have a9:=aF.out.cell (i:=4) rfl
   have bk:=yH (ba.out.trans ((yB wr.heap.size wk).alloc (Nat.le_of_lt RK.out.lt) (.cells #[] 59)))
   obtain⟨nl,nc⟩:=aDF (HX.out.kept (KeptF.of_below (F:=None') bk.out) (fun _ _ _ h=>h.elim) (fun _ _ h=>h))
   have HE:=yH (aCA wk wk.heap.size (yR _))
   go_upto_region 10 with(first
    |(at_builtin;(refine wpList_append_new aJh rfl (.tmp 41) (.tmp 43) rfl wk.heap.size (some ⟨wk.heap.size,0,none⟩) 0 rfl HE.out Ax s cx (wv rx) rfl nl nc (aEN _) (by omega) (by omega) (by unfold maxLen;omega) ?_);intro R N w9 aY ao;have E:=yH aY;have R9:=yH (aF.out.below ao RK.out.lt);have bg:=yH (show Below wk.heap.size wk w9 from((yB wk.heap.size wk).alloc (yR _) _).trans ao);have z9:=R9.out.frozen 4;have x9:=R9.out.cell (i:=4) rfl;clear aY ao)
    |fail)
   have aN:=RK.out.lt
   have H:=yH (show Blk _ wr.heap.size [.string X,.int .u64 (ax:Int),.int .i64 (sx:Int),.int .i64 (nx:Int),.slice R s N] 142 from R9.out.set_ 4 (.slice R s N))
   have aJ:=yH (Mf.OwnE.keptF E.out (KeptF.set1 w9 wr.heap.size 4 (.slice R s N)) (fun j hj e=>by have:=(OwnE.ltB E.out j hj).1;have e:j=wr.heap.size:=e;omega))
   have an:=yH ((ba.out.trans (bg.out.mono (Nat.le_of_lt aN))).setCell (p:=⟨wr.heap.size,4,none⟩) (yR _) (.slice R s N))
   generalize w9.setCell ⟨wr.heap.size,4,none⟩ (.slice R s N)=w10 at*
   have d:=yH (At.below t.out an.out)
   have bv:w10.cell? ⟨G,144,none⟩=some (.slice q.D k q.cd):=C.out.1▸At.cd d.out
   have e0:=H.out.cell (i:=0) rfl
   have e1:=H.out.cell (i:=1) rfl
   have e2:=H.out.cell (i:=2) rfl
   have e3:=H.out.cell (i:=3) rfl
   have e4:=H.out.cell (i:=4) rfl
   have aZ:=yH (aFo (Ft:=q.away G G) aJ.out (fun j V h2 h3=>h3.elim (fun h3=>by have:=(At.lt t.out j h3).2;omega) (fun h3=>by have:=(At.lt t.out G (.inl rfl)).2;omega)))
   have aM:knC ⟨tx,ax,sx,nx,rx⟩ (.slice R s N)=[.string X,.int .u64 (ax:Int),.int .i64 (sx:Int),.int .i64 (nx:Int),.slice R s N]:=by unfold knC;rw[bp.out]
   have bm:=yH aM
   clear aM x9 z9 a9 nl nc
   go_wp2_with(first
    |(at_builtin;(refine aAe aMN rfl (.tmp 47) (.tmp 49) rfl G q.D k q.cd (kf q.dl) rfl (C.out.1▸OwnE.alloc d.out.dr _) ⟨w10.heap.size,0,none⟩ 1 1 [.string X,.int .u64 (ax:Int),.int .i64 (sx:Int),.int .i64 (nx:Int),.slice R s N] rfl rfl (Blk.news (Blk.new w10 _ 142)) (by simp[Value.oneCell']) (by omega) (by omega) (by unfold maxLen;omega) ?_);intro aS a2 w11 af l au;have ac:=yH (At.pushD d.out w11 _ ⟨tx,ax,sx,nx,rx⟩ (.slice R s N) aS a2 (congrArg (· +1) C.out.1.symm) (bm.out.symm▸af) l au aZ.out);have bD:w11.cell? ⟨G,144,none⟩=some (.slice q.D k q.cd):=C.out.1▸(aCz d.out l).cell (Mk.get_d _ _);have bF:w11.frozen? ⟨G,144,none⟩=false:=(aCz d.out l).frozen 144;clear af l)
    |fail)
   go_roundw
   case rel=>
    refine⟨k+1,{q with D:=aS,nd:=k+1,cd:=a2,dl:=q.dl++ [(⟨tx,ax,sx,nx,rx⟩,.slice R s N)]},by omega,by go_num,yH ?_,yH ⟨rfl,C.out.2⟩,yH ?_⟩
    ·rw[HT.out]
     exact ac.out.1
    ·have V:=ac.out.2.base (B:=G) (by have:=an.out.size;have:=(At.lt t.out G (.inl rfl)).2;omega) (fun j hj=>(At.lt d.out j hj).1)
     exact(hB.out.trans (an.out.mono (by have:=(At.lt t.out G (.inl rfl)).2;omega))).trans V
   case measure=>simp[intOf];omega
  ·obtain rfl:k=nd:=by omega
   have bi:m.datas.take k=m.datas:=List.take_of_length_le (by rw[←r.out.dm,List.length_map,HL.out];exact yR _)
   have ag:=t.out
   rw[bi]at ag
   have f:=yH (At.drew ag)
   have ae:wr.drew.cell? ⟨g,145,none⟩=some (.slice p.F p.nf p.cf):=At.cf (At.drew A.out)
   have aU:some (Value.slice q.F q.nf q.cf)=some (.slice none 0 0):=by rw[C.out.2.1,C.out.2.2.1,C.out.2.2.2]
   have u145:wr.drew.cell? ⟨G,145,none⟩=some (.slice none 0 0):=(At.cf f.out).trans aU
   have ak:g≠G:=by have:=a6 g (.inl rfl);omega
   obtain⟨nl,nc⟩:=aFn (At.drew A.out).fr
   have bB:p.nf≤100000:=by
    have V:=HI.out.fn
    rw[←r.out.fm,List.length_map,aAy r.out.fr]at V
    omega
   have ay: ∀u∈kf p.fl,u.oneCell'=true:=by
    intro u hu
    unfold kf at hu
    obtain⟨y,hy,hu⟩:=List.mem_flatMap.1 hu
    have hv:=r.out.fo y hy
    unfold knC at hu
    simp only[List.mem_cons,List.not_mem_nil,or_false]at hu
    rcases hu with rfl|rfl|rfl|rfl|rfl
    all_goals first|rfl|(rw[hv];rfl)
   go_upto_region 11 with fail
   refine wp_region_noPanic ?_
   refine wp_region_held_drew (S:=fun W:World=>W.cell? ⟨g,145,none⟩=some (.slice p.F p.nf p.cf)) (by kernel_rfl) (by exact ae) (fun hHeld=>?_)
   refine tq 0 52 rfl (fun W hSw=>by go_simp;try (with_reducible rfl)) ?_
   try simp only[Act.put,sA,sZ,sS]
   refine tq 2 54 rfl (fun W hSw=>by go_simp;try (with_reducible rfl)) ?_
   try simp only[Act.put,sA,sZ,sS]
   refine tq 3 55 rfl (fun W hSw=>by go_simp;try (with_reducible rfl)) ?_
   try simp only[Act.put,sA,sZ,sS]
   refine tq 4 56 rfl (fun W hSw=>by go_simp;try (with_reducible rfl)) ?_
   try simp only[Act.put,sA,sZ,sS]
   refine tq 5 57 rfl (fun W hSw=>by have bA:=hSw;go_simp;try (with_reducible rfl)) ?_
   try simp only[Act.put,sA,sZ,sS]
   refine rd 1 rfl (fun K hK=>?_)
   go_simp
   skip
   try go_wp2_with fail
   refine hK.out _ _ (by exact ae) (fun hHeld=>?_)
   clear hK K
   try simp only[Act.put,sA,sZ,sS]
   refine rd 6 rfl (fun K hK=>?_)
   refine aD6 (o:=⟨some 58,_,_,_,_,_⟩) aMN rfl (.tmp 53) (.tmp 57) rfl G none 0 rfl (OwnE.nil _ _ (by have:=f.out.st.st.lt;omega)) p.F p.nf p.cf (kf p.fl) rfl nl nc ay (by omega) (by omega) (by unfold maxLen;omega) ?_
   intro bh bo w13 ai c J
   have aj:=yH (At.allF f.out (by rw[C.out.2.1];rfl) w13 p.fl m.fields bh bo ai c J r.out.fm r.out.fo)
   have a4:Below wr.heap.size wr w13:=(yB _ _).drew.trans (below_grown c (yR _) (fun j hj=>by cases hj))
   have ad:w13.cell? ⟨g,145,none⟩=some (.slice p.F p.nf p.cf):=At.cf (At.below A.out a4)
   have bq:w13.cell? ⟨G,145,none⟩=some (.slice none 0 0):=(At.below f.out (below_grown c (yR _) (fun j hj=>by cases hj))).st.st.cell (Mk.get_f _ _) |>.trans aU
   have bt:w13.frozen? ⟨G,145,none⟩=false:=(At.below f.out (below_grown c (yR _) (fun j hj=>by cases hj))).st.st.frozen 145
   have aQ: ∀v,(w13.setCell ⟨G,145,none⟩ v).cell? ⟨g,145,none⟩=some (.slice p.F p.nf p.cf):=fun v=>(World.cell?_of_block (a:=⟨g,145,none⟩) (Below.heap_setCell w13 ⟨G,145,none⟩ v g ak)).trans ad
   clear ai c J
   refine hK.out _ _ (by exact ad) (fun hHeld=>?_)
   clear hK K
   try simp only[Act.put,sA,sZ,sS]
   refine tq 7 59 rfl (fun W hSw=>by go_simp;try (with_reducible rfl)) ?_
   try simp only[Act.put,sA,sZ,sS]
   refine rd 8 rfl (fun K hK=>?_)
   go_simp
   skip
   try go_wp2_with fail
   refine hK.out _ _ (by exact aQ _) (fun hHeld=>?_)
   clear hK K
   try simp only[Act.put,sA,sZ,sS]
   refine wpAnyH_done (by kernel_rfl) ?_ _
   refine NoPanic.normal ?_
   go_wp2
   go_ret
   obtain rfl:=HG.out
   refine⟨_,rfl,aj.out.1,?_⟩
   have V:=aj.out.2.base (B:=w.heap.size) (by have:=(At.lt t.out w.heap.size (.inl rfl)).2;exact Nat.le_of_lt this) (fun j hj=>(At.lt f.out j hj).1)
   exact(hB.out.drew).trans V
end Ng
namespace Pr8
open Bytes8 Blk8 Own8 OwnE Fa Fb
abbrev PR:=List Int×List Int
abbrev nil2:PR:=([],[])
def okP (p:PR):Prop:=AllB p.1∧AllB p.2∧p.1.length≤maxLen∧p.2.length≤maxLen
def AllP (l:List PR):Prop:= ∀p∈l,okP p
theorem AllP.at_ {l:List PR}(h:AllP l)(i:Nat):okP (l.getD i nil2):=by
 by_cases a:i<l.length
 ·rw[yD,yG a];exact h _ (List.getElem_mem a)
 ·rw[yD,List.getElem?_eq_none (by omega)]
  exact⟨(fun x hx=>by cases hx),(fun x hx=>by cases hx),Nat.zero_le _,Nat.zero_le _⟩
theorem aEa {l:List PR}{i:Nat}(a:i<l.length):l.getD i nil2∈l:=by
 rw[yD,yG a];exact List.getElem_mem a
theorem aIr {l:List PR}{p:PR}(h:p∈l): ∃i,i<l.length∧l.getD i nil2=p:=by
 obtain⟨i,a,rfl⟩:=List.mem_iff_getElem.1 h
 exact⟨i,a,by rw[yD,yG a];rfl⟩
def cellsP:List PR→List Value
 | []=>[]
 |p::r=> .string (T p.1):: .string (T p.2)::cellsP r
theorem aBv: ∀l m,cellsP (l++m)=cellsP l++cellsP m
 | [],_=>rfl
 |p::l,m=>by simp[cellsP,aBv l m]
theorem aB0: ∀l,(cellsP l).length=l.length*2
 | []=>rfl
 |p::l=>by simp[cellsP,aB0 l];omega
theorem aGf: ∀(l:List PR) (i:Nat),i<l.length→(cellsP l)[i*2]? =some (.string (T (l.getD i nil2).1))∧(cellsP l)[i*2+1]? =some (.string (T (l.getD i nil2).2))
 |p::l,0,_=>⟨rfl,rfl⟩
 |p::l,i+1,h=>by
  have:=aGf l i (by simpa using h)
  rw[show(i+1)*2=i*2+1+1 by omega]
  simpa [cellsP]using this
def Prs (w:World)(a:Option Addr)(l:List PR):Prop:=
 AllP l∧ ∀i,i<l.length→ ∃b off,a=some ⟨b,off,none⟩∧b<w.heap.size∧w.cell? ⟨b,off+i*2,none⟩=some (.string (T (l.getD i nil2).1))∧w.cell? ⟨b,off+i*2+1,none⟩=some (.string (T (l.getD i nil2).2))
theorem Prs.nil (w:World)(a:Option Addr):Prs w a []:=⟨(fun _ h=>by cases h),fun i hi=>absurd hi (by simp)⟩
theorem Prs.keptB {w w':World}{a:Option Addr}{l:List PR}(h:Prs w a l)(hs:w.heap.size≤w'.heap.size)(g: ∀b c,a=some ⟨b,c,none⟩→b<w.heap.size→w'.heap[b]? =w.heap[b]?):Prs w' a l:=by
 refine⟨h.1,fun i hi=>?_⟩
 obtain⟨b,c,e,d,j,k⟩:=h.2 i hi
 have f:=g b c e d
 exact⟨b,c,e,yL d hs,(World.cell?_of_block (a:=⟨b,c+i*2,none⟩) f).trans j,(World.cell?_of_block (a:=⟨b,c+i*2+1,none⟩) f).trans k⟩
theorem Prs.below {w w':World}{a:Option Addr}{l:List PR}(h:Prs w a l)(c:Below w.heap.size w w'):Prs w' a l:=h.keptB c.size fun b _ _ h1=>c.block b h1
def OwnP (w:World)(base:Nat)(A:Option Addr)(n c:Nat)(l:List PR):Prop:=AllP l∧l.length=n∧OwnE 24 2 w base A n c (cellsP l)
theorem OwnP.nil (w:World)(base:Nat)(h:base≤w.heap.size):OwnP w base none 0 0 []:=⟨(fun _ h=>by cases h),rfl,OwnE.nil w base h⟩
theorem OwnP.prs {w:World}{base:Nat}{A:Option Addr}{n c:Nat}{l:List PR}(h:OwnP w base A n c l):Prs w A l:=by
 refine⟨h.1,fun i hi=>?_⟩
 obtain⟨f,j⟩:=aGf l i hi
 have k:=aB0 l
 obtain⟨g,e,m,a,hc⟩:=h.2.2.cell (i:=i*2) (by omega)
 obtain⟨o,d,_,_,b⟩:=h.2.2.cell (i:=i*2+1) (by omega)
 rw[e]at d;simp at d;subst d
 exact⟨g,0,e,a,by rw[Nat.zero_add,hc,f],by rw[Nat.zero_add,b,j]⟩
theorem OwnP.kept {w w':World}{base B:Nat}{A:Option Addr}{n c:Nat}{l:List PR}(h:OwnP w base A n c l)(b:Below B w w')(a:w.heap.size≤B):OwnP w' base A n c l:=⟨h.1,h.2.1,h.2.2.kept b a⟩
theorem aEb:Elt 24 62 2 32 (.agg #[.string {data:= #[]},.string {data:= #[]}]):=⟨Tryz.underlying62,by kernel_rfl,rfl,by decide⟩
def addU (acc:List PR)(p:PR):List PR:=if p∈acc then acc else acc++ [p]
def ded (l:List PR):List PR:=l.foldl addU []
theorem aEc {l:List PR}{k:Nat}(a:k<l.length):l.take (k+1)=l.take k++ [l.getD k nil2]:=by
 rw[List.take_add_one,yG a]
 simp[yG a]
theorem aMW (a:List PR)(p q:PR):q∈addU a p↔q∈a∨q=p:=by
 unfold addU;split
 ·constructor
  ·exact Or.inl
  ·rintro(h|rfl)<;>assumption
 ·simp
theorem aKy (l:List PR): ∀a q,q∈l.foldl addU a↔q∈a∨q∈l:=by
 induction l with
 |nil=>simp
 |cons p l ih=>intro a q;rw[List.foldl_cons,ih,aMW];simp[or_assoc]
theorem aC0 (l:List PR)(q:PR):q∈ded l↔q∈l:=by unfold ded;rw[aKy];simp
theorem aJn {c:List PR}(h:c.Nodup)(p:PR):(addU c p).Nodup:=by
 unfold addU;split
 ·exact h
 ·rename_i hp
  rw[List.nodup_append]
  exact⟨h,by simp,fun a ha b hb=>by simp at hb;subst hb;rintro rfl;exact hp ha⟩
theorem aHo (l:List PR): ∀acc:List PR,acc.Nodup→(l.foldl addU acc).Nodup:=by
 induction l with
 |nil=>exact fun _ h=>h
 |cons p l ih=>exact fun acc h=>ih _ (aJn h p)
theorem aGg (l:List PR):(ded l).Nodup:=aHo l [] (by simp)
end Pr8
namespace Pa8
open Bytes8 Fa Pr8
theorem aOJ (p q:PR):decide (p.1=q.1∧p.2=q.2)=decide (p=q):=by
 obtain⟨a,b⟩:=p;obtain⟨c,d⟩:=q
 simp[Prod.mk.injEq]
theorem aOa {p q:PR}(a:okP p)(b:okP q)(w:World):(binOp .eql 24 (.agg #[.string (T p.1),.string (T p.2)]) (.agg #[.string (T q.1),.string (T q.2)])).run Tryz.prog w= .ok (.bool (decide (p=q))) w:=by
 rw[←aOJ];exact aMR a.1 a.2.1 b.1 b.2.1 w
end Pa8
namespace Ps8
open Go.ChangeShapes Go.WideShapes Go.ChangeAt Go.RowKit Go.Lib
open Bytes8 Fa Fb Fo Pr8
theorem aOK {n v m u:List Int}(h:flawI n v=0)(k:flawI m u=0)(e:pay n v=pay m u):n=m∧v=u:=by
 obtain⟨_,b,a⟩:=aBa h
 obtain⟨_,c,d⟩:=aBa k
 rw[e]at b a
 exact⟨b.symm.trans c,a.symm.trans d⟩
def okR (p:PR):Prop:=AllB p.1∧AllB p.2∧flawI p.1 p.2=0
def ltP (p q:PR):Bool:=lessP p.1 p.2 q.1 q.2
theorem aGh {p q:PR}(a:okR p)(c:okR q)(h:ltP p q=false)(k:ltP q p=false):p=q:=by
 obtain⟨b,d⟩:=aOK a.2.2 c.2.2 (aD7 _ _ h k)
 exact Prod.ext b d
def sortP (l:List PR):List PR:=l.mergeSort fun x y=> !ltP y x
theorem aB1 (l:List PR):(sortP l).Perm l:=List.mergeSort_perm _ _
theorem aBb (l:List PR)(p:PR):p∈sortP l↔p∈l:=(aB1 l).mem_iff
theorem aBw (l:List PR):(sortP l).length=l.length:=(aB1 l).length_eq
theorem aGi {w:World}{base n c g:Nat}{l:List PR}(h:OwnP w base (some ⟨g,0,none⟩) n c l):
 base≤g∧ ∃a:Array Value,w.heap[g]? =some (.cells a 24 (0,0))∧a.toList.take (n*2)=cellsP l:=by
 rcases h.2.2.2.2 with⟨b,_⟩|⟨j,d,a,b,i,e,_,_,_,f⟩
 ·cases b
 ·injection b with e1 e2 e3
  simp at e1
  subst e1
  exact⟨i,a,e,f⟩
end Ps8
namespace Pa8
end Pa8
end Go.Proofs.YteaikbodkgjkdaaGreat
