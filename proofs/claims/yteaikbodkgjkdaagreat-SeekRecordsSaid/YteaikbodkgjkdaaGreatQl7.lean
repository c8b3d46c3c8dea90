/-
  Texts beneath.
-/
import Derived.Test.YteaikbodkgjkdaaGreatQl6
set_option linter.unusedVariables false
set_option linter.unusedSimpArgs false
set_option maxRecDepth 100000
set_option maxHeartbeats 4000000
open Go.ChangeShapes Go.WideShapes Go.ChangeAt Go.RowKit
namespace Go.Proofs.YteaikbodkgjkdaaGreat
namespace Za
open Bytes8 LeNum Ob Ga Ma
structure O where
 k:Int
 ws:List Int
 tl:List Int
 g:Nat×Nat
def O.body (o:O):List Int:=nums o.ws++o.tl
def O.enc (o:O):List Int:=objB o.k o.body
def O.n (o:O):Nat:=o.enc.length
def O.setW (j:Nat)(v:Int)(o:O):O:={o with ws:=o.ws.set j v}
theorem O.body_len (o:O):o.body.length=8*o.ws.length+o.tl.length:=by unfold O.body;rw[yA,nums_len]
theorem O.n_is (o:O):o.n=16+(8*o.ws.length+o.tl.length)+padN (8*o.ws.length+o.tl.length):=by
 unfold O.n O.enc
 rw[aBj,O.body_len]
theorem O.n8 (o:O):o.n%8=0∧16≤o.n:=by
 rw[O.n_is]
 have:=aFs (8*o.ws.length+o.tl.length)
 omega
theorem O.setW_n (j:Nat)(v:Int)(o:O):(o.setW j v).n=o.n:=by rw[O.n_is,O.n_is];simp[O.setW]
def enc (os:List O):List Int:=os.flatMap O.enc
theorem aAY (o:O)(a:List O):enc (o::a)=o.enc++enc a:=by simp[enc]
theorem aPq (l m:List O):enc (l++m)=enc l++enc m:=by simp[enc]
theorem aPr (o:O):enc [o]=o.enc:=by simp[enc]
def obj:Nat→List O→Nat→Option O
 |_,[],_=>none
 |s,o::os,a=>if a=s then some o else obj (s+o.n) os a
def upd:Nat→List O→Nat→(O→O)→List O
 |_,[],_,_=>[]
 |s,o::os,a,f=>if a=s then f o::os else o::upd (s+o.n) os a f
theorem aIZ: ∀(b:List O) (s a:Nat) (o:O),obj s b a=some o→s≤a∧a+o.n≤s+(enc b).length
 | [],s,a,o,h=>by cases h
 |x::b,s,a,o,h=>by
  unfold obj at h
  rw[aAY,yA]
  have hx:x.enc.length=x.n:=rfl
  by_cases e:a=s
  ·rw[if_pos e]at h
   injection h with h
   subst h
   omega
  ·rw[if_neg e]at h
   have:=aIZ b (s+x.n) a o h
   omega
theorem aHX: ∀(b:List O) (s a:Nat) (o:O),obj s (b++ [o]) a=if a=s+(enc b).length then some o else obj s b a
 | [],s,a,o=>by
   show(if a=s then some o else none)=_
   by_cases e:a=s
   ·rw[if_pos e,if_pos (by simpa [enc]using e)]
   ·rw[if_neg e,if_neg (by simpa [enc]using e)];rfl
 |x::b,s,a,o=>by
  have hx:x.enc.length=x.n:=rfl
  have c:=x.n8
  show(if a=s then some x else obj (s+x.n) (b++ [o]) a)=if a=s+(enc (x::b)).length then some o else(if a=s then some x else obj (s+x.n) b a)
  rw[aAY,yA,hx]
  by_cases e:a=s
  ·rw[if_pos e,if_neg (by omega),if_pos e]
  ·rw[if_neg e,if_neg e,aHX b (s+x.n) a o,Nat.add_assoc]
theorem aHY {f:O→O}(b: ∀o,(f o).n=o.n): ∀(os:List O) (s a x:Nat),obj s (upd s os a f) x=if x=a then(obj s os a).map f else obj s os x
 | [],s,a,x=>by
   show none=if x=a then none else none
   split<;>rfl
 |o::os,s,a,x=>by
  unfold upd
  by_cases e:a=s
  ·rw[if_pos e]
   show(if x=s then some (f o)else obj (s+(f o).n) os x)=if x=a then(if a=s then some o else obj (s+o.n) os a).map f else(if x=s then some o else obj (s+o.n) os x)
   rw[b,if_pos e]
   by_cases e2:x=s
   ·rw[if_pos e2,if_pos (by omega)];rfl
   ·rw[if_neg e2,if_neg (by omega),if_neg e2]
  ·rw[if_neg e]
   show(if x=s then some o else obj (s+o.n) (upd (s+o.n) os a f) x)=if x=a then(if a=s then some o else obj (s+o.n) os a).map f else(if x=s then some o else obj (s+o.n) os x)
   rw[aHY b os (s+o.n) a x,if_neg e]
   by_cases e2:x=s
   ·rw[if_pos e2,if_neg (by omega),if_pos e2]
   ·rw[if_neg e2,if_neg e2]
theorem aL2 {f:O→O}: ∀(os:List O) (s a:Nat) (x:O),x∈upd s os a f→x∈os∨ ∃o,obj s os a=some o∧x=f o
 | [],s,a,x,h=>by cases h
 |o::os,s,a,x,h=>by
  unfold upd at h
  unfold obj
  split at h
  ·next e=>
   rw[if_pos e]
   rcases List.mem_cons.1 h with h|h
   ·exact .inr ⟨o,rfl,h⟩
   ·exact .inl (List.mem_cons_of_mem _ h)
  ·next e=>
   rw[if_neg e]
   rcases List.mem_cons.1 h with h|h
   ·exact .inl (h▸List.mem_cons_self ..)
   ·rcases aL2 os (s+o.n) a x h with h|h
    ·exact .inl (List.mem_cons_of_mem _ h)
    ·exact .inr h
theorem aCn: ∀(b:List O) (s a:Nat) (o:O),obj s b a=some o→o∈b
 | [],s,a,o,h=>by cases h
 |x::b,s,a,o,h=>by
  unfold obj at h
  split at h
  ·injection h with h;exact h▸List.mem_cons_self ..
  ·exact List.mem_cons_of_mem _ (aCn b _ a o h)
theorem aEy: ∀(b:List O) (s a:Nat) (o:O),obj s b a=some o→ ∃p q,enc b=p++(o.enc++q)∧s+p.length=a
 | [],s,a,o,h=>by cases h
 |x::b,s,a,o,h=>by
  unfold obj at h
  by_cases e:a=s
  ·rw[if_pos e]at h
   injection h with h
   subst h
   exact⟨[],enc b,by rw[aAY];rfl,e.symm⟩
  ·rw[if_neg e]at h
   obtain⟨p,q,h1,h2⟩:=aEy b (s+x.n) a o h
   have c:x.enc.length=x.n:=rfl
   exact⟨x.enc++p,q,by rw[aAY,h1,List.append_assoc],by rw[yA];omega⟩
theorem aQe: ∀(b:List O) (s a:Nat) (o:O),s%8=0→obj s b a=some o→a%8=0
 | [],s,a,o,_,h=>by cases h
 |x::b,s,a,o,h8,h=>by
  unfold obj at h
  have:=x.n8
  split at h
  ·omega
  ·exact aQe b (s+x.n) a o (by omega) h
theorem aEz (x y:List Int)(i:Nat)(l:List Int)(h:i+l.length≤x.length):over (x++y) i l=over x i l++y:=by
 unfold over
 rw[List.take_append_of_le_length (by omega),List.drop_append_of_le_length (by omega)]
 simp
theorem aB8 (x y:List Int)(n i:Nat)(l:List Int)(a:n=x.length+i):over (x++y) n l=x++over y i l:=by
 subst a
 unfold over
 rw[List.take_append,List.take_of_length_le (by omega),show x.length+i-x.length=i by omega,List.drop_append,List.drop_of_length_le (by omega),show x.length+i+l.length-x.length=i+l.length by omega]
 simp
theorem aI0: ∀(ws:List Int) (j:Nat) (v:Int),j<ws.length→nums (ws.set j v)=over (nums ws) (8*j) (lowB v 8)
 | [],j,v,h=>by simp at h
 |w::ws,0,v,h=>by
  show nums (v::ws)=_
  rw[aAZ,aAZ]
  unfold over
  rw[Nat.mul_zero,List.take_zero,List.nil_append,Nat.zero_add,aAj,List.drop_append,aAj,Nat.sub_self,List.drop_zero,List.drop_of_length_le (by rw[aAj];exact yR _),List.nil_append]
 |w::ws,j+1,v,h=>by
  show nums (w::ws.set j v)=_
  rw[aAZ,aAZ,aI0 ws j v (by simpa using h)]
  exact(aB8 (lowB w 8) (nums ws) (8*(j+1)) (8*j) (lowB v 8) (by rw[aAj];omega)).symm
theorem O.setW_enc (o:O)(j:Nat)(v:Int)(h:j<o.ws.length):(o.setW j v).enc=over o.enc (16+8*j) (lowB v 8):=by
 have a:(o.setW j v).body=over (nums o.ws) (8*j) (lowB v 8)++o.tl:=by
  show nums (o.ws.set j v)++o.tl=_
  rw[aI0 _ _ _ h]
 have b:(o.setW j v).body.length=o.body.length:=by rw[O.body_len,O.body_len];simp[O.setW]
 unfold O.enc objB
 rw[b]
 show front o.k _++_=_
 rw[aB8 (front o.k o.body.length) _ (16+8*j) (8*j) _ (by rw[front_len]),a]
 congr 1
 unfold O.body
 rw[List.append_assoc,List.append_assoc,aEz (nums o.ws) _ (8*j) _ (by rw[aAj,nums_len];omega)]
theorem aI1: ∀(b:List O) (s a:Nat) (o:O) (j:Nat) (v:Int),obj s b a=some o→j<o.ws.length→enc (upd s b a (O.setW j v))=over (enc b) (a-s+16+8*j) (lowB v 8)
 | [],s,a,o,j,v,h,_=>by cases h
 |x::b,s,a,o,j,v,h,hj=>by
  have hx:x.enc.length=x.n:=rfl
  unfold obj at h
  unfold upd
  by_cases e:a=s
  ·rw[if_pos e]at h⊢
   injection h with h
   subst h
   rw[aAY,aAY,O.setW_enc _ _ _ hj,e,Nat.sub_self,Nat.zero_add,aEz _ _ _ _ (by
    rw[aAj]
    have:=x.n_is
    omega)]
  ·rw[if_neg e]at h⊢
   have c:=aIZ _ _ _ _ h
   rw[aAY,aAY,aI1 b (s+x.n) a o j v h hj,aB8 x.enc (enc b) (a-s+16+8*j) (a-(s+x.n)+16+8*j) _ (by omega)]
structure Rep (b:List Int)(os:List O):Prop where
 len:272≤b.length
 eq:b.drop 272=enc os
theorem Rep.size {b:List Int}{a:List O}(h:Rep b a):b.length=272+(enc a).length:=by
 have c:=congrArg List.length h.eq
 have:=h.len
 rw[List.length_drop]at c
 omega
theorem Rep.is {b:List Int}{a:List O}(h:Rep b a):b=b.take 272++enc a:=by rw[←h.eq,List.take_append_drop]
theorem Rep.put {b:List Int}{c:List O}(h:Rep b c){a x j:Nat}{o:O}(d:obj 272 c a=some o)(i:j<o.ws.length)(l:x=a+16+8*j)(v:Int):Rep (put8 b x v) (upd 272 c a (O.setW j v)):=by
 have k:=aIZ _ _ _ _ d
 have m:=o.n_is
 have hs:=h.size
 have g:(put8 b x v).length=b.length:=aAp _ _ _ (by omega)
 have f:(b.take 272).length=272:=by rw[List.length_take];omega
 refine⟨by rw[g];exact h.len,?_⟩
 have e:put8 b x v=b.take 272++over (enc c) (a-272+16+8*j) (lowB v 8):=by
  conv=>lhs;rw[h.is]
  exact aB8 _ _ _ _ _ (by rw[f];omega)
 rw[e,aI1 c 272 a o j v d i,List.drop_append,f,Nat.sub_self,List.drop_zero,List.drop_of_length_le (by omega),List.nil_append]
theorem Rep.front {b:List Int}{a:List O}(h:Rep b a){x:Nat}(f:x+8≤272)(v:Int):Rep (put8 b x v) a:=by
 have g:(put8 b x v).length=b.length:=aAp _ _ _ (by have:=h.len;omega)
 have c:(b.take 272).length=272:=by rw[List.length_take];have:=h.len;omega
 refine⟨by rw[g];exact h.len,?_⟩
 have e:put8 b x v=over (b.take 272) x (lowB v 8)++enc a:=by
  conv=>lhs;rw[h.is]
  exact aEz _ _ _ _ (by rw[aAj,c];exact f)
 have d:(over (b.take 272) x (lowB v 8)).length=272:=by rw[aH8 _ _ _ (by rw[aAj,c];exact f),c]
 rw[e,List.drop_append,d,Nat.sub_self,List.drop_zero,List.drop_of_length_le (by omega),List.nil_append]
theorem Rep.push {b:List Int}{a:List O}(h:Rep b a)(o:O):Rep (b++o.enc) (a++ [o]):=by
 refine⟨by rw[yA];have:=h.len;omega,?_⟩
 rw[List.drop_append_of_le_length h.len,h.eq,aPq,aPr]
structure O.Ok (o:O):Prop where
 k:1≤o.k∧o.k≤7
 ws:I64 o.ws
 tl:AllB o.tl
 n:o.body.length≤900000
theorem O.Ok.setW {o:O}(h:o.Ok)(j:Nat){v:Int}(b:0≤v∧v≤18446744073709551615):(o.setW j v).Ok:=
 {k:=h.k
  ws:=fun x hx=>by
   rcases List.mem_or_eq_of_mem_set hx with a|a
   ·exact h.ws x a
   ·exact a▸b
  tl:=h.tl
  n:=by
   have c:(o.setW j v).body.length=o.body.length:=by rw[O.body_len,O.body_len];simp[O.setW]
   rw[c];exact h.n}
theorem aHZ {l b:List Int}{f:List O}(i:l=b++enc f)(r:b.length=272){a:Nat}{o:O}(d:obj 272 f a=some o)(c:o.Ok):
 code l a=0∧kindL l a=o.k∧sizeL l a=(16+o.body.length:Nat)∧bodyL l a=o.body:=by
 obtain⟨p,q,j,m⟩:=aEy _ _ _ _ d
 have g:=aQe _ _ _ _ (by decide) d
 have e:l=(b++p)++(objB o.k o.body++q):=by rw[i,j,List.append_assoc];rfl
 rw[e]
 exact aMT (b++p) q o.body o.k a (by rw[yA];omega) g c.k.1 c.k.2 (by have:=c.n;omega)
theorem aQf {o:O}(b:o.Ok)(i:Nat)(a:i<o.ws.length):u8 o.body (8*i)=o.ws.getD i 0:=by
 unfold O.body
 refine aD8 _ _ i a ?_
 have e:o.ws.getD i 0=o.ws[i]:=by simp[yG a]
 rw[e]
 exact b.ws _ (List.getElem_mem a)
end Za
namespace Zb
open Bytes8 Ob Ga Ma Za
def wd (os:List O)(a i:Nat):Int:=match obj 272 os a with
 |some o=>o.ws.getD i 0
 |none=>0
structure Sh where
 k:Int
 n:Nat
 tl:List Int
 g:Nat×Nat
def O.sh (o:O):Sh:=⟨o.k,o.ws.length,o.tl,o.g⟩
def shp (os:List O)(a:Nat):Option Sh:=(obj 272 os a).map O.sh
theorem aBm {b:List O}{a:Nat}{s:Sh}(h:shp b a=some s): ∃o,obj 272 b a=some o∧O.sh o=s:=Option.map_eq_some_iff.1 h
theorem aAU (b:List O)(a j x:Nat)(v:Int):shp (upd 272 b a (O.setW j v)) x=shp b x:=by
 unfold shp
 rw[aHY (O.setW_n j v)]
 split
 ·next e=>
  subst e
  cases obj 272 b x with
  |none=>rfl
  |some o=>simp[O.sh,O.setW]
 ·rfl
theorem aBz {c:List O}{a j:Nat}{s:Sh}(hs:shp c a=some s)(k:j<s.n)(v:Int)(x i:Nat):wd (upd 272 c a (O.setW j v)) x i=if x=a∧i=j then v else wd c x i:=by
 obtain⟨o,g,b⟩:=aBm hs
 subst b
 have d:j<o.ws.length:=k
 unfold wd
 rw[aHY (O.setW_n j v)]
 by_cases e:x=a
 ·subst e
  rw[if_pos rfl,g]
  show(o.ws.set j v).getD i 0=if x=x∧i=j then v else o.ws.getD i 0
  by_cases f:i=j
  ·subst f
   simp[yD,List.getElem?_set,d]
  ·rw[if_neg (fun h=>f h.2)]
   simp[yD,List.getElem?_set,Ne.symm f]
 ·rw[if_neg e,if_neg (fun h=>e h.1)]
def endO (os:List O):Nat:=272+(enc os).length
theorem aCT (a:List O)(o:O)(x:Nat):shp (a++ [o]) x=if x=endO a then some (O.sh o)else shp a x:=by
 unfold shp endO
 rw[aHX]
 split<;>rfl
theorem aFS (a:List O)(o:O)(x i:Nat):wd (a++ [o]) x i=if x=endO a then o.ws.getD i 0 else wd a x i:=by
 unfold wd endO
 rw[aHX]
 by_cases e:x=272+(enc a).length
 ·rw[if_pos e,if_pos e]
 ·rw[if_neg e,if_neg e]
theorem aBn {b:List O}{a:Nat}{s:Sh}(h:shp b a=some s):272≤a∧a+16+8*s.n≤endO b:=by
 obtain⟨o,c,hs⟩:=aBm h
 have e:=aIZ _ _ _ _ c
 have d:=o.n_is
 subst hs
 show 272≤a∧a+16+8*o.ws.length≤_
 unfold endO
 omega
structure Stp (os os':List O)(S:Nat→Nat→Prop):Prop where
 shp: ∀x s,shp os x=some s→shp os' x=some s
 wd: ∀x i s,Zb.shp os x=some s→ ¬S x i→wd os' x i=wd os x i
theorem Stp.refl (a:List O)(S:Nat→Nat→Prop):Stp a a S:=⟨fun _ _ h=>h,fun _ _ _ _ _=>rfl⟩
theorem Stp.trans {a b c:List O}{S:Nat→Nat→Prop}(h:Stp a b S)(k:Stp b c S):Stp a c S:=
 ⟨fun x s e=>k.shp x s (h.shp x s e),fun x i s e n=>(k.wd x i s (h.shp x s e) n).trans (h.wd x i s e n)⟩
theorem Stp.mono {a b:List O}{S S':Nat→Nat→Prop}(h:Stp a b S)(c: ∀x i s,Zb.shp a x=some s→S x i→S' x i):Stp a b S':=⟨h.shp,fun x i s e n=>h.wd x i s e (fun h2=>n (c x i s e h2))⟩
theorem Stp.set {b:List O}{a j:Nat}{s:Sh}(hs:Zb.shp b a=some s)(c:j<s.n)(v:Int):Stp b (upd 272 b a (O.setW j v)) (fun x i=>x=a∧i=j):=
 ⟨fun x s e=>by rw[aAU];exact e,fun x i _ _ n=>by rw[aBz hs c,if_neg n]⟩
theorem Stp.push (a:List O)(o:O)(S:Nat→Nat→Prop):Stp a (a++ [o]) S:=
 ⟨fun x s e=>by rw[aCT,if_neg (by have:=aBn e;omega)];exact e,fun x i s e _=>by rw[aFS,if_neg (by have:=aBn e;omega)]⟩
structure RepO (b:List Int)(os:List O):Prop where
 rep:Rep b os
 ok: ∀o∈os,o.Ok
theorem RepO.size {b:List Int}{a:List O}(h:RepO b a):b.length=endO a:=h.rep.size
theorem RepO.put {b:List Int}{d:List O}(h:RepO b d){a x j:Nat}{s:Sh}(hs:shp d a=some s)(i:j<s.n)(g:x=a+16+8*j){v:Int}(k:0≤v∧v≤18446744073709551615):RepO (put8 b x v) (upd 272 d a (O.setW j v)):=by
 obtain⟨o,f,c⟩:=aBm hs
 subst c
 refine⟨h.rep.put f i g v,fun y hy=>?_⟩
 rcases aL2 _ _ _ _ hy with e|⟨l,e,rfl⟩
 ·exact h.ok y e
 ·exact(h.ok l (aCn _ _ _ _ e)).setW j k
theorem RepO.front {b:List Int}{a:List O}(h:RepO b a){x:Nat}(c:x+8≤272)(v:Int):RepO (put8 b x v) a:=⟨h.rep.front c v,h.ok⟩
theorem RepO.push {b:List Int}{c:List O}(h:RepO b c)(o:O)(d:o.Ok):RepO (b++o.enc) (c++ [o]):=⟨h.rep.push o,fun y hy=>by
 rcases List.mem_append.1 hy with a|a
 ·exact h.ok y a
 ·rw[List.mem_singleton]at a;exact a▸d⟩
def Fol (nx:Nat→Int):Int→List Nat→Prop
 |a,[]=>a=0
 |a,x::xs=>a=(x:Int)∧Fol nx (nx x) xs
theorem Fol.cong {nx b:Nat→Int}: ∀(l:List Nat) (a:Int),Fol nx a l→(∀x∈l,b x=nx x)→Fol b a l
 | [],a,h,_=>h
 |x::xs,a,h,e=>⟨h.1,by
  rw[e x (List.mem_cons_self ..)]
  exact Fol.cong xs _ h.2 (fun y hy=>e y (List.mem_cons_of_mem _ hy))⟩
theorem Fol.snoc {nx b:Nat→Int}{z:Nat}: ∀(l:List Nat) (a:Int) (hne:l≠ []),Fol nx a l→l.Pairwise (· < ·)→(∀x∈l,x≠l.getLast hne→b x=nx x)→b (l.getLast hne)=(z:Int)→b z=0→Fol b a (l++ [z])
 | [],a,hne,_,_,_,_,_=>absurd rfl hne
 | [x],a,hne,h,_,_,h1,h2=>⟨h.1,h1,h2⟩
 |x::y::t,a,hne,h,hs,he,h1,h2=>by
  have hy:(x::y::t).getLast hne=(y::t).getLast (by simp):=rfl
  rw[List.pairwise_cons]at hs
  refine⟨h.1,?_⟩
  have c:x≠(x::y::t).getLast hne:=by
   rw[hy]
   have:=hs.1 _ (List.getLast_mem (l:=y::t) (by simp))
   omega
  show Fol b (b x) ((y::t)++ [z])
  rw[he x (List.mem_cons_self ..) c]
  exact Fol.snoc (y::t) _ (by simp) h.2 hs.2 (fun w hw hwn=>he w (List.mem_cons_of_mem _ hw) (by rw[hy];exact hwn)) (by rw[←hy];exact h1) h2
def pl (l:List Kn)(s:Nat):List Nat:=(l.filter fun k=>k.slot==s).map Kn.at_
abbrev Asc (l:List Kn):Prop:=(l.map Kn.at_).Pairwise (· < ·)
theorem Asc.pl {l:List Kn}(h:Asc l)(s:Nat):(pl l s).Pairwise (· < ·):=by
 unfold Zb.pl
 exact List.Pairwise.sublist ((List.filter_sublist).map Kn.at_) h
theorem Asc.inj: ∀ {l:List Kn},Asc l→ ∀ {d e:Kn},d∈l→e∈l→d.at_=e.at_→d=e
 | [],_,d,e,hd,_,_=>by cases hd
 |x::l,h,d,e,hd,he,h1=>by
  have h2:((x::l).map Kn.at_).Pairwise (· < ·):=h
  rw[List.map_cons,List.pairwise_cons]at h2
  rcases List.mem_cons.1 hd with f|b
  ·rcases List.mem_cons.1 he with c|a
   ·rw[f,c]
   ·have:=h2.1 _ (List.mem_map_of_mem a);rw[f]at h1;omega
  ·rcases List.mem_cons.1 he with c|a
   ·have:=h2.1 _ (List.mem_map_of_mem b);rw[c]at h1;omega
   ·exact Asc.inj h2.2 b a h1
theorem mem_pl {l:List Kn}{s x:Nat}(h:x∈pl l s): ∃d∈l,d.slot=s∧d.at_=x:=by
 obtain⟨d,a,e⟩:=List.mem_map.1 h
 rw[List.mem_filter]at a
 exact⟨d,a.1,by simpa using a.2,e⟩
theorem aL3 (l:List Kn)(k:Kn)(s:Nat):pl (l++ [k]) s=if k.slot=s then pl l s++ [k.at_]else pl l s:=by
 unfold pl
 rw[List.filter_append]
 by_cases h:k.slot=s
 ·simp[h]
 ·simp[h]
theorem aQg {l:List Kn}{s:Nat}(h:inSlot l s=0):pl l s=[]:=by
 unfold inSlot at h
 unfold pl
 rw[List.eq_nil_of_length_eq_zero h];rfl
theorem aPs {l:List Kn}{s:Nat}(h:inSlot l s≠0): ∃hne:pl l s≠ [],(pl l s).getLast hne=lastIn l s:=by
 unfold inSlot at h
 have a:(l.filter fun k=>k.slot==s)≠ []:=fun e=>h (by rw[e];rfl)
 have c:pl l s≠ []:=by unfold pl;simpa using a
 refine⟨c,?_⟩
 have b:(pl l s).getLast? =some (lastIn l s):=by
  unfold pl lastIn
  rw[List.getLast?_map,List.getLast?_eq_some_getLast a]
  rfl
 rw[List.getLast?_eq_some_getLast c]at b
 injection b
structure TabW (os:List O)(a:Nat)(k:Int)(n:Nat)(l:List Kn):Prop where
 sh: ∃g,shp os a=some ⟨k,2*n,[],g⟩
 fol: ∀s,s<n→Fol (fun x=>wd os x 1) (wd os a (2*s)) (pl l s)
 last: ∀s,s<n→wd os a (2*s+1)=(lastIn l s:Nat)
theorem TabW.stp {os b:List O}{a:Nat}{k:Int}{n:Nat}{l:List Kn}(h:TabW os a k n l){S:Nat→Nat→Prop}(t:Stp os b S)(f: ∀i,¬S a i)(m: ∀d∈l,(∃s,shp os d.at_=some s)∧ ¬S d.at_ 1):TabW b a k n l:=by
 obtain⟨g,c⟩:=h.sh
 refine⟨⟨g,t.shp _ _ c⟩,fun s hs=>?_,fun s hs=>?_⟩
 ·rw[t.wd _ _ _ c (f _)]
  refine Fol.cong _ _ (h.fol s hs) (fun x hx=>?_)
  obtain⟨d,j,_,e⟩:=mem_pl hx
  obtain⟨⟨q,o⟩,p⟩:=m d j
  rw[←e]
  exact t.wd _ _ _ o p
 ·rw[t.wd _ _ _ c (f _)]
  exact h.last s hs
theorem aOq {b:List Int}{os:List O}{a:Nat}{k:Int}{n:Nat}{l:List Kn}(h:RepO b os)(t:TabW os a k n l)(o:Kn){s:Sh}(hz:shp os o.at_=some s)(hn:1<s.n)(V:wd os o.at_ 1=0)(B:o.at_≠a)
 (hl: ∀d∈l,(∃p,shp os d.at_=some p∧1<p.n)∧d.at_≠a∧d.at_<o.at_)(v:Asc l)(hs:o.slot<n)(hb:b.length≤10000000):
 ∃os',RepO (hung b l (a+16) o.at_ o.slot) os'∧Stp os os' (fun x i=>x=a∨(i=1∧ ∃d∈l,d.at_=x))∧(∀x,shp os' x=shp os x)∧TabW os' a k n (l++ [o]):=by
 obtain⟨g,w⟩:=t.sh
 obtain⟨z,slot,aa⟩: ∃z slot,z=o.at_∧slot=o.slot:=⟨_,_,rfl,rfl⟩
 obtain⟨F,I⟩:=aa
 rw[←F]at hz V B⊢
 rw[←I]at hs⊢
 have r: ∀d∈l,(∃p,shp os d.at_=some p∧1<p.n)∧d.at_≠a∧d.at_<z:=by rw[F];exact hl
 have ae:=aBn hz
 have ad:=h.size
 have R:0≤(z:Int)∧(z:Int)≤18446744073709551615:=by omega
 unfold hung
 by_cases q:inSlot l slot=0
 ·rw[if_pos q]
  have r1:=h.put w (j:=2*slot) (x:=a+16+16*slot) (by show 2*slot<2*n;omega) (by omega) R
  have Y:=Stp.set w (j:=2*slot) (by show 2*slot<2*n;omega) (z:Int)
  have w1:=aBz w (j:=2*slot) (by show 2*slot<2*n;omega) (z:Int)
  have y:=fun x=>aAU os a (2*slot) x (z:Int)
  generalize upd 272 os a (O.setW (2*slot) (z:Int))=A at*
  have c:shp A a=some ⟨k,2*n,[],g⟩:=by rw[y];exact w
  have Z:=r1.put c (j:=2*slot+1) (x:=a+16+16*slot+8) (by show 2*slot+1<2*n;omega) (by omega) R
  have p:=Stp.set c (j:=2*slot+1) (by show 2*slot+1<2*n;omega) (z:Int)
  have w2:=aBz c (j:=2*slot+1) (by show 2*slot+1<2*n;omega) (z:Int)
  have J:=fun x=>aAU A a (2*slot+1) x (z:Int)
  generalize upd 272 A a (O.setW (2*slot+1) (z:Int))=f at*
  have st:Stp os f (fun x i=>x=a∨(i=1∧ ∃d∈l,d.at_=x)):=(Y.mono fun x i _ _ h=> .inl h.1).trans (p.mono fun x i _ _ h=> .inl h.1)
  have hw: ∀x i,x≠a→wd f x i=wd os x i:=fun x i hx=>by rw[w2,if_neg (fun h=>hx h.1),w1,if_neg (fun h=>hx h.1)]
  refine⟨f,Z,st,fun x=>by rw[J,y],⟨g,by rw[J,y];exact w⟩,fun s hsn=>?_,fun s hsn=>?_⟩
  ·rw[aL3,←F,←I]
   by_cases m:slot=s
   ·subst m
    rw[if_pos rfl,aQg q]
    refine⟨?_,?_⟩
    ·rw[w2,if_neg (by omega),w1,if_pos ⟨rfl,rfl⟩]
    ·show wd f z 1=0
     rw[hw z 1 B];exact V
   ·rw[if_neg m,w2,if_neg (by omega),w1,if_neg (by omega)]
    refine Fol.cong _ _ (t.fol s hsn) (fun x hx=>?_)
    obtain⟨d,E,_,e⟩:=mem_pl hx
    rw[←e]
    exact hw _ _ (r d E).2.1
  ·rw[aCm,←F,←I]
   by_cases m:slot=s
   ·subst m
    rw[if_pos rfl,w2,if_pos ⟨rfl,rfl⟩]
   ·rw[if_neg m,w2,if_neg (by omega),w1,if_neg (by omega)]
    exact t.last s hsn
 ·rw[if_neg q]
  obtain⟨G,C⟩:=aPs q
  obtain⟨dl,D,ac,u⟩:=mem_pl (List.getLast_mem G)
  rw[C]at u
  obtain⟨⟨s3,N,X⟩,M,h6⟩:=r dl D
  rw[u]at N M h6
  generalize ab:lastIn l slot=L at*
  have r1:=h.put N (j:=1) (x:=L+24) X (by omega) R
  have Y:=Stp.set N (j:=1) X (z:Int)
  have w1:=aBz N (j:=1) X (z:Int)
  have y:=fun x=>aAU os L 1 x (z:Int)
  generalize upd 272 os L (O.setW 1 (z:Int))=A at*
  have c:shp A a=some ⟨k,2*n,[],g⟩:=by rw[y];exact w
  have Z:=r1.put c (j:=2*slot+1) (x:=a+16+16*slot+8) (by show 2*slot+1<2*n;omega) (by omega) R
  have p:=Stp.set c (j:=2*slot+1) (by show 2*slot+1<2*n;omega) (z:Int)
  have w2:=aBz c (j:=2*slot+1) (by show 2*slot+1<2*n;omega) (z:Int)
  have J:=fun x=>aAU A a (2*slot+1) x (z:Int)
  generalize upd 272 A a (O.setW (2*slot+1) (z:Int))=f at*
  have st:Stp os f (fun x i=>x=a∨(i=1∧ ∃d∈l,d.at_=x)):=(Y.mono fun x i _ _ h=> .inr ⟨h.2,dl,D,by rw[u];exact h.1.symm⟩).trans (p.mono fun x i _ _ h=> .inl h.1)
  refine⟨f,Z,st,fun x=>by rw[J,y],⟨g,by rw[J,y];exact w⟩,fun s hsn=>?_,fun s hsn=>?_⟩
  ·have ea:wd f a (2*s)=wd os a (2*s):=by rw[w2,if_neg (by omega),w1,if_neg (fun h=>M h.1.symm)]
   rw[aL3,←F,←I,ea]
   by_cases m:slot=s
   ·subst m
    rw[if_pos rfl]
    refine Fol.snoc (nx:=fun x=>wd os x 1) _ _ G (t.fol slot hsn) (v.pl slot) (fun x hx hxl=>?_) ?_ ?_
    ·obtain⟨d,E,_,e⟩:=mem_pl hx
     rw[C]at hxl
     show wd f x 1=wd os x 1
     rw[w2,if_neg (fun h=>(r d E).2.1 (e.trans h.1)),w1,if_neg (fun h=>hxl h.1)]
    ·rw[C]
     show wd f L 1=z
     rw[w2,if_neg (fun h=>M h.1),w1,if_pos ⟨rfl,rfl⟩]
    ·show wd f z 1=0
     rw[w2,if_neg (fun h=>B h.1),w1,if_neg (by omega)]
     exact V
   ·rw[if_neg m]
    refine Fol.cong _ _ (t.fol s hsn) (fun x hx=>?_)
    obtain⟨d,E,H,e⟩:=mem_pl hx
    show wd f x 1=wd os x 1
    rw[w2,if_neg (fun h=>(r d E).2.1 (e.trans h.1)),w1,if_neg (fun h=>?_)]
    have:=v.inj E D (by rw[e,u];exact h.1)
    rw[this]at H
    omega
  ·rw[aCm,←F,←I]
   by_cases m:slot=s
   ·subst m
    rw[if_pos rfl,w2,if_pos ⟨rfl,rfl⟩]
   ·rw[if_neg m,w2,if_neg (by omega),w1,if_neg (fun h=>M h.1.symm)]
    exact t.last s hsn
end Zb
namespace Sd
open Bytes8 Blk8 Hm Sa Sm Sc
def QuadAt (w0:World)(g:Nat)(f:Quad)(w:World):Prop:=Blk w g [.int .u64 f.p,.int .u64 f.q,.int .u64 f.r,.int .u64 f.s] 356∧Below w0.heap.size w0 w
theorem aGY {w0 w:World}{g:Nat}{p q r s:Value}(h:Blk w g [p,q,r,s] 356)(b:Below w0.heap.size w0 w)(a:w0.heap.size≤g)(f:Quad):
 QuadAt w0 g f ((((w.setCell ⟨g,0,none⟩ (.int .u64 f.p)).setCell ⟨g,1,none⟩ (.int .u64 f.q)).setCell ⟨g,2,none⟩ (.int .u64 f.r)).setCell ⟨g,3,none⟩ (.int .u64 f.s)):=
 ⟨(((h.set_ 0 _).set_ 1 _).set_ 2 _).set_ 3 _,(((b.setCell a _).setCell a _).setCell a _).setCell a _⟩
theorem aH0 (f:Quad)(m:Int)(G:Quad)(a:quadPlus f m=G):sipEnd f m=bits .xor .u64 (bits .xor .u64 (bits .xor .u64 (rounds ⟨G.p,G.q,bits .xor .u64 G.r 255,G.s⟩ 4).p (rounds ⟨G.p,G.q,bits .xor .u64 G.r 255,G.s⟩ 4).q) (rounds ⟨G.p,G.q,bits .xor .u64 G.r 255,G.s⟩ 4).r) (rounds ⟨G.p,G.q,bits .xor .u64 G.r 255,G.s⟩ 4).s:=by subst a;rfl
theorem aI2 {w:World}{g:Nat}{a b c d e f:Value}{T:TypeId}(h:Blk w g [a,b,c,d,e,f] T):
 w.cell? ⟨g,0,none⟩=some a∧w.cell? ⟨g,1,none⟩=some b∧w.cell? ⟨g,2,none⟩=some c∧w.cell? ⟨g,3,none⟩=some d∧w.cell? ⟨g,4,none⟩=some e∧w.cell? ⟨g,5,none⟩=some f:=
 ⟨h.cell (i:=0) rfl,h.cell (i:=1) rfl,h.cell (i:=2) rfl,h.cell (i:=3) rfl,h.cell (i:=4) rfl,h.cell (i:=5) rfl⟩
theorem aNS {w:World}{g b:Nat}{c:List Value}{T:TypeId}(h:Blk w g c T)(a:g≠b)(p q r s:Value):
 Blk ((((w.setCell ⟨b,0,none⟩ p).setCell ⟨b,1,none⟩ q).setCell ⟨b,2,none⟩ r).setCell ⟨b,3,none⟩ s) g c T:=
 (((h.far (p:=⟨b,0,none⟩) a _).far (p:=⟨b,1,none⟩) a _).far (p:=⟨b,2,none⟩) a _).far (p:=⟨b,3,none⟩) a _
theorem aNT {w w3:World}(a:Below (World.drew (World.alloc w (.cells #[.int .u64 0,.int .u64 0,.int .u64 0,.int .u64 0] 356))).heap.size (World.drew (World.alloc w (.cells #[.int .u64 0,.int .u64 0,.int .u64 0,.int .u64 0] 356))) w3):Blk w3 w.heap.size [.int .u64 0,.int .u64 0,.int .u64 0,.int .u64 0] 356:=(Blk.new_at w _ _ _ rfl).drew.below a (by simp)
theorem aJU {w w3:World}(a:Below (World.drew (World.alloc w (.cells #[.int .u64 0,.int .u64 0,.int .u64 0,.int .u64 0] 356))).heap.size (World.drew (World.alloc w (.cells #[.int .u64 0,.int .u64 0,.int .u64 0,.int .u64 0] 356))) w3):Below w.heap.size w w3:=((yB _ _).alloc (yR _) _).drew.trans (a.mono (by simp))
theorem aCU {w w3:World}(b:Below (World.drew (World.alloc w (.cells #[.int .u64 0,.int .u64 0,.int .u64 0,.int .u64 0] 356))).heap.size (World.drew (World.alloc w (.cells #[.int .u64 0,.int .u64 0,.int .u64 0,.int .u64 0] 356))) w3)(i:Nat)(c:i<4):w3.cell? ⟨w.heap.size,i,none⟩=some (.int .u64 0):=by
 have a:Blk w3 w.heap.size [.int .u64 0,.int .u64 0,.int .u64 0,.int .u64 0] 356:=(Blk.new_at w _ _ _ rfl).drew.below b (by simp)
 match i,c with
 |0,_=>exact a.cell rfl
 |1,_=>exact a.cell rfl
 |2,_=>exact a.cell rfl
 |3,_=>exact a.cell rfl
theorem aBI {w w3:World}(a:Below (World.drew (World.alloc w (.cells #[.int .u64 0,.int .u64 0,.int .u64 0,.int .u64 0] 356))).heap.size (World.drew (World.alloc w (.cells #[.int .u64 0,.int .u64 0,.int .u64 0,.int .u64 0] 356))) w3)(i:Nat):w3.frozen? ⟨w.heap.size,i,none⟩=false:=by
 have b:Blk w3 w.heap.size [.int .u64 0,.int .u64 0,.int .u64 0,.int .u64 0] 356:=(Blk.new_at w _ _ _ rfl).drew.below a (by simp)
 exact b.frozen i
set_option maxRecDepth 100000 in
theorem aL4 (K:Nat→Int)(g:Nat)(l:List Int)(w:World)(hs:SumAt w g (idL K) l):
 Calls Tryz.prog 232 #[.pointer (some ⟨g,0,none⟩)] w fun e w'=>e= .returned (.int .u64 (sipS (idL K) l))∧Below w.heap.size w w':=by
 obtain⟨hA,c⟩:=hs
 obtain⟨z,x⟩: ∃z,(l.length:Int)%256=z:=⟨_,rfl⟩
 obtain⟨M,y⟩: ∃M,last8 l=M:=⟨_,rfl⟩
 obtain⟨G,B⟩: ∃G,quadPlus (quadAt (idL K) l (l.length/8)) M=G:=⟨_,rfl⟩
 have hE:=aH0 _ _ _ B
 have hS:sipS (idL K) l=sipEnd (quadAt (idL K) l (l.length/8)) M:=by unfold sipS;rw[y]
 have HE:=yH (hS.trans hE)
 rw[aI5,x]at y
 rw[x]at c
 have z0:0≤z:=by omega
 have z1:z≤255:=by omega
 have aa:bits .or .u64 (left8 l) (IntKind.u64.wrap (z*72057594037927936))=M:=by rw[IntKind.wrap_u64,show z*72057594037927936%18446744073709551616=z*72057594037927936 by omega];exact y
 have V:IntKind.u64.wrap z=z:=by rw[IntKind.wrap_u64];omega
 have N:=fun w=>aLF (quadAt (idL K) l (l.length/8)) M w (aDU _ _ _)
 rw[B]at N
 have HP:=yH N
 clear N
 have HO:Hid G.ok:=by rw[←B];exact yH (aDT _ _)
 generalize quadAt (idL K) l (l.length/8)=F at*
 generalize left8 l=L at*
 clear x B hE hS hA
 have I:=c.cell (i:=0) rfl
 have Z:=c.cell (i:=1) rfl
 have D:=c.cell (i:=2) rfl
 have g3:=c.cell (i:=3) rfl
 have g4:=c.cell (i:=4) rfl
 have g5:=c.cell (i:=5) rfl
 have R:=yH c
 have n:=c.lt
 have m:g≠w.heap.size:=by omega
 clear c
 go_enter Tryz.func232,Tryz.ntmps232
 go_wp2
 go_cut [3]from 4 to 19 (fun f wx=> ∃j,f= .pointer (some ⟨j,0,none⟩)∧w.heap.size≤j∧Hid (QuadAt w j G wx))
 case first=>
  go_region_held3 (fun w'=>w'.cell? ⟨g,0,none⟩=some (.int .u64 F.p)∧w'.cell? ⟨g,1,none⟩=some (.int .u64 F.q)∧w'.cell? ⟨g,2,none⟩=some (.int .u64 F.r)∧w'.cell? ⟨g,3,none⟩=some (.int .u64 F.s)∧w'.cell? ⟨g,4,none⟩=some (.int .u64 L)∧w'.cell? ⟨g,5,none⟩=some (.int .u8 z)) (first|(with_reducible exact⟨I,Z,D,g3,g4,g5⟩)|(with_reducible exact r3)|(with_reducible exact aI2 (aNS o m _ _ _ _))|(with_reducible exact aI2 (o.alloc _))|go_keep)
   (first|(go_at_call 241;(with_reducible refine(HP.out _).mono ?_);rintro e w3 ⟨rfl,a⟩;first|((with_reducible replace a:Below (World.drew (World.alloc w (.cells #[.int .u64 0,.int .u64 0,.int .u64 0,.int .u64 0] 356))).heap.size (World.drew (World.alloc w (.cells #[.int .u64 0,.int .u64 0,.int .u64 0,.int .u64 0] 356))) w3:=a);have b:=aJU a;have o:=R.out.below b n;have E:=o.lt;have r3:=aI2 o;have q0:=aCU a 0 (by decide);have y0:=aBI a 0;have q1:=aCU a 1 (by decide);have y1:=aBI a 1;have q2:=aCU a 2 (by decide);have y2:=aBI a 2;have q3:=aCU a 3 (by decide);have y3:=aBI a 3)|(have b:=(yB _ w).drew.trans a;have o:=R.out.below b n;have E:=o.lt;have r3:=aI2 o)))
  all_goals
   go_wp2_with fail
   go_meet
   case rel=>
    first
     |exact⟨_,rfl,b.size,yH ⟨Blk.new_at w3 _ _ _ rfl,b.alloc b.size _⟩⟩
     |exact⟨_,rfl,yR _,yH (aGY (aNT a) b (yR _) G)⟩
 case rest=>
  obtain⟨j,rfl,u,H⟩:=hcut
  have Q1:=yH H.out.1
  have Q2:=yH H.out.2
  have v0:=Q1.out.cell (i:=2) rfl
  have v1:=Q1.out.frozen 2
  clear y aa V I Z D g3 g4 g5 n m H
  have J:=yH fun k=>aDS ⟨G.p,G.q,bits .xor .u64 G.r 255,G.s⟩ ⟨HO.out.1,HO.out.2.1,b64 .xor _ _,HO.out.2.2.2⟩ k
  go_wp2
  clear v0 v1
  have A:QuadAt w j ⟨G.p,G.q,bits .xor .u64 G.r 255,G.s⟩ (wc.setCell ⟨j,2,none⟩ (.int .u64 (bits .xor .u64 G.r 255))):=⟨Q1.out.set_ 2 _,Q2.out.setCell u _⟩
  generalize wc.setCell ⟨j,2,none⟩ (.int .u64 (bits .xor .u64 G.r 255))=w5 at A⊢
  have A:=yH A
  generalize (⟨G.p,G.q,bits .xor .u64 G.r 255,G.s⟩:Quad)=Y at*
  go_loopw [24] (fun i wr=> ∃k:Nat,k≤4∧i= .int .i64 k∧Hid (QuadAt w j (rounds Y k) wr)) (fun i _=>4-(intOf i).toNat)
  case atStart=>exact⟨0,by omega,rfl,A⟩
  case round=>
   obtain⟨k,hk,rfl,hr⟩:=hrel
   have t:=yH hr.out.1
   have X:=yH hr.out.2
   have I:=t.out.cell (i:=0) rfl
   have Z:=t.out.cell (i:=1) rfl
   have D:=t.out.cell (i:=2) rfl
   have g3:=t.out.cell (i:=3) rfl
   have x:=t.out.lt
   by_cases C:k<4
   ·have hd:decide (k<4)=true:=by simpa using C
    have HR:=yH fun W=>aLD (rounds Y k) W (J.out k)
    have HN:rounds Y (k+1)=round (rounds Y k):=rfl
    have HN:=yH HN
    go_wp2_with(go_at_call 242;(with_reducible refine(HR.out _).mono ?_);rintro e w6 ⟨rfl,v⟩;have d:=yH (t.out.below v x);have a0:=d.out.cell (i:=0) rfl;have a1:=d.out.cell (i:=1) rfl;have a2:=d.out.cell (i:=2) rfl;have a3:=d.out.cell (i:=3) rfl;have b0:=d.out.frozen 0;have b1:=d.out.frozen 1;have b2:=d.out.frozen 2;have b3:=d.out.frozen 3)
    go_roundw
    case rel=>exact⟨k+1,by omega,by go_num,yH (aGY d.out (X.out.trans (v.mono X.out.size)) u (round (rounds Y k)))⟩
    case measure=>simp[intOf];omega
   ·obtain rfl:k=4:=by omega
    have hd:decide (4<4)=false:=rfl
    go_wp2
    go_ret
    exact⟨aCa HE.out.symm,X.out⟩
end Sd
namespace Se
open Bytes8 Blk8 Own8 Hm Sc Sd
theorem new_at (K:Nat→Int)(w:World)(n:Nat)(b:w.heap.size+1=n)(a:IdOk K):
 Calls Tryz.prog 230 #[idV K] w fun e w'=>e= .returned (.pointer (some ⟨n,0,none⟩))∧SumAt w' n (idL K) []∧Below w.heap.size w w':=by
 subst b;exact new_any K w a
theorem aJV {w:World}{A:Option Addr}{l:List Int}(h:Bytes w A l){B:Nat}(g:w.heap.size≤B):0<l.length→ ∀b off,A=some ⟨b,off,none⟩→b≠B:=by
 intro d b off e
 obtain⟨i,c,a,f,_⟩:=h.spot d
 rw[e]at a;simp at a;obtain⟨rfl,rfl⟩:=a;omega
set_option maxRecDepth 100000 in
theorem aPt (K:Nat→Int)(A:Option Addr)(l:List Int)(len d:Nat)(w:World)(u:IdOk K)(i:Bytes w A l)(t:l.length=len)(s:len≤800000):
 Calls Tryz.prog 216 #[idV K,.slice A len d] w fun e w'=>e= .returned (.int .u64 (sipS (idL K) l))∧Below w.heap.size w w':=by
 have f:=yH (new_at K (w.alloc (idC 61 K)) (w.heap.size+1+1) (by simp) u)
 have v:=yH i
 have q:=yH t
 have j:=yH (aJV i (B:=w.heap.size+1+1) (by omega))
 clear i t
 go_enter Tryz.func216,Tryz.ntmps216
 go_wp2_with(first|(go_at_call 230;(with_reducible refine f.out.mono ?_);rintro e w1 ⟨rfl,b,n⟩;have m:=yH b;clear b;have g:=((yB w.heap.size w).alloc (yR _) (idC 61 K)).trans (n.mono (by simp));have c:=yH (add_any K _ A [] l len d w1 m.out (v.out.below g (yR _)) q.out (by omega) (by rw[←q.out];exact j.out)))|(go_at_call 231;(with_reducible refine c.out.mono ?_);rintro e w2 ⟨rfl,a,p⟩;rw[List.nil_append]at a;have x:=yH (aL4 K _ l w2 a);clear a)|(go_at_call 232;(with_reducible refine x.out.mono ?_);rintro e w3 ⟨rfl,o⟩))
 go_ret
 have r:=g.grown p g.size (fun k h=>by injection h with h;omega)
 exact⟨rfl,r.trans (o.mono r.size)⟩
end Se
namespace Sf
end Sf
namespace Sg
open Bytes8 Blk8 Own8 Se
theorem aQh (t:Bool)(K:Nat→Int)(A:Option Addr)(l:List Int)(len a:Nat)(w:World)(k:IdOk K)(f:Bytes w A l)(j:l.length=len)(c:len≤800000)(g:len≤a)(b:a≤maxLen):
 Calls Tryz.prog 196 #[.bool t,idV K,.slice A len a] w fun e w'=>e= .returned (.int .u64 (ofS t (idL K) l))∧Below w.heap.size w w':=by
 have m:=yH f
 cases t with
 |true=>
  have i:=yH (aPt K A l len a (w.alloc (idC 61 K)) k (f.below ((yB _ _).alloc (yR _) _) (yR _)) j c)
  clear f
  go_enter Tryz.func196,Tryz.ntmps196
  go_wp2_with(go_at_call 216;(with_reducible refine i.out.mono ?_);rintro e w1 ⟨rfl,d⟩)
  go_ret
  exact⟨rfl,((yB w.heap.size w).alloc (yR _) _).trans (d.mono (by simp))⟩
 |false=>
  have i:=yH (aIT A l len a (w.alloc (idC 61 K)) (f.below ((yB _ _).alloc (yR _) _) (yR _)) j c g b)
  clear f b
  go_enter Tryz.func196,Tryz.ntmps196
  go_wp2_with(go_at_call 207;(with_reducible refine i.out.mono ?_);rintro e w1 ⟨rfl,d⟩)
  go_ret
  exact⟨rfl,((yB w.heap.size w).alloc (yR _) _).trans (d.mono (by simp))⟩
end Sg
end Go.Proofs.YteaikbodkgjkdaaGreat
