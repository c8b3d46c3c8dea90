/-
  Texts beneath the proof.
-/
import Derived.Test.YtiddkgcafpaekaaGreatJq6
set_option linter.unusedVariables false
set_option linter.unusedSimpArgs false
set_option maxRecDepth 100000
set_option maxHeartbeats 4000000
open Go.ChangeShapes Go.WideShapes Go.ChangeAt Go.RowKit
namespace Go.Proofs.YtiddkgcafpaekaaGreat
namespace Za
open Bytes8 LeNum Ob Ga Ma
structure O where
 k:Int
 ws:List Int
 tl:List Int
 g:Nat×Nat
def O.body (o:O):List Int:=nums o.ws++o.tl
def O.enc (o:O):List Int:=objB o.k o.body
def O.n (o:O):Nat:=o.enc.length
def O.setW (j:Nat)(v:Int)(o:O):O:={o with ws:=o.ws.set j v}
theorem O.body_len (o:O):o.body.length=8*o.ws.length+o.tl.length:=by unfold O.body;rw[List.length_append,nums_len]
theorem O.n_is (o:O):o.n=16+(8*o.ws.length+o.tl.length)+padN (8*o.ws.length+o.tl.length):=by
 unfold O.n O.enc
 rw[objB_len,O.body_len]
theorem O.n8 (o:O):o.n%8=0∧16≤o.n:=by
 rw[O.n_is]
 have:=padN_le (8*o.ws.length+o.tl.length)
 omega
theorem O.setW_n (j:Nat)(v:Int)(o:O):(o.setW j v).n=o.n:=by rw[O.n_is,O.n_is];simp[O.setW]
def enc (os:List O):List Int:=os.flatMap O.enc
theorem enc_cons (o:O)(os:List O):enc (o::os)=o.enc++enc os:=by simp[enc]
theorem enc_app (l m:List O):enc (l++m)=enc l++enc m:=by simp[enc]
theorem enc_one (o:O):enc [o]=o.enc:=by simp[enc]
def obj:Nat→List O→Nat→Option O
 |_,[],_=>none
 |s,o::os,a=>if a=s then some o else obj (s+o.n) os a
def upd:Nat→List O→Nat→(O→O)→List O
 |_,[],_,_=>[]
 |s,o::os,a,f=>if a=s then f o::os else o::upd (s+o.n) os a f
theorem obj_bd: ∀(os:List O) (s a:Nat) (o:O),obj s os a=some o→s≤a∧a+o.n≤s+(enc os).length
 | [],s,a,o,h=>by cases h
 |x::os,s,a,o,h=>by
  unfold obj at h
  rw[enc_cons,List.length_append]
  have hx:x.enc.length=x.n:=rfl
  by_cases e:a=s
  ·rw[if_pos e]at h
   injection h with h
   subst h
   omega
  ·rw[if_neg e]at h
   have:=obj_bd os (s+x.n) a o h
   omega
theorem obj_app: ∀(os:List O) (s a:Nat) (o:O),obj s (os++ [o]) a=if a=s+(enc os).length then some o else obj s os a
 | [],s,a,o=>by
   show(if a=s then some o else none)=_
   by_cases e:a=s
   ·rw[if_pos e,if_pos (by simpa [enc]using e)]
   ·rw[if_neg e,if_neg (by simpa [enc]using e)];rfl
 |x::os,s,a,o=>by
  have hx:x.enc.length=x.n:=rfl
  have h8:=x.n8
  show(if a=s then some x else obj (s+x.n) (os++ [o]) a)=if a=s+(enc (x::os)).length then some o else(if a=s then some x else obj (s+x.n) os a)
  rw[enc_cons,List.length_append,hx]
  by_cases e:a=s
  ·rw[if_pos e,if_neg (by omega),if_pos e]
  ·rw[if_neg e,if_neg e,obj_app os (s+x.n) a o,Nat.add_assoc]
theorem obj_upd {f:O→O}(hf: ∀o,(f o).n=o.n): ∀(os:List O) (s a x:Nat),obj s (upd s os a f) x=if x=a then(obj s os a).map f else obj s os x
 | [],s,a,x=>by
   show none=if x=a then none else none
   split<;>rfl
 |o::os,s,a,x=>by
  unfold upd
  by_cases e:a=s
  ·rw[if_pos e]
   show(if x=s then some (f o)else obj (s+(f o).n) os x)=if x=a then(if a=s then some o else obj (s+o.n) os a).map f else(if x=s then some o else obj (s+o.n) os x)
   rw[hf,if_pos e]
   by_cases e2:x=s
   ·rw[if_pos e2,if_pos (by omega)];rfl
   ·rw[if_neg e2,if_neg (by omega),if_neg e2]
  ·rw[if_neg e]
   show(if x=s then some o else obj (s+o.n) (upd (s+o.n) os a f) x)=if x=a then(if a=s then some o else obj (s+o.n) os a).map f else(if x=s then some o else obj (s+o.n) os x)
   rw[obj_upd hf os (s+o.n) a x,if_neg e]
   by_cases e2:x=s
   ·rw[if_pos e2,if_neg (by omega),if_pos e2]
   ·rw[if_neg e2,if_neg e2]
theorem upd_mem {f:O→O}: ∀(os:List O) (s a:Nat) (x:O),x∈upd s os a f→x∈os∨ ∃o,obj s os a=some o∧x=f o
 | [],s,a,x,h=>by cases h
 |o::os,s,a,x,h=>by
  unfold upd at h
  unfold obj
  split at h
  ·next e=>
   rw[if_pos e]
   rcases List.mem_cons.1 h with h|h
   ·exact .inr ⟨o,rfl,h⟩
   ·exact .inl (List.mem_cons_of_mem _ h)
  ·next e=>
   rw[if_neg e]
   rcases List.mem_cons.1 h with h|h
   ·exact .inl (h▸List.mem_cons_self ..)
   ·rcases upd_mem os (s+o.n) a x h with h|h
    ·exact .inl (List.mem_cons_of_mem _ h)
    ·exact .inr h
theorem obj_mem: ∀(os:List O) (s a:Nat) (o:O),obj s os a=some o→o∈os
 | [],s,a,o,h=>by cases h
 |x::os,s,a,o,h=>by
  unfold obj at h
  split at h
  ·injection h with h;exact h▸List.mem_cons_self ..
  ·exact List.mem_cons_of_mem _ (obj_mem os _ a o h)
theorem obj_split: ∀(os:List O) (s a:Nat) (o:O),obj s os a=some o→ ∃p q,enc os=p++(o.enc++q)∧s+p.length=a
 | [],s,a,o,h=>by cases h
 |x::os,s,a,o,h=>by
  unfold obj at h
  by_cases e:a=s
  ·rw[if_pos e]at h
   injection h with h
   subst h
   exact⟨[],enc os,by rw[enc_cons];rfl,e.symm⟩
  ·rw[if_neg e]at h
   obtain⟨p,q,h1,h2⟩:=obj_split os (s+x.n) a o h
   have hx:x.enc.length=x.n:=rfl
   exact⟨x.enc++p,q,by rw[enc_cons,h1,List.append_assoc],by rw[List.length_append];omega⟩
theorem obj_8: ∀(os:List O) (s a:Nat) (o:O),s%8=0→obj s os a=some o→a%8=0
 | [],s,a,o,_,h=>by cases h
 |x::os,s,a,o,h8,h=>by
  unfold obj at h
  have:=x.n8
  split at h
  ·omega
  ·exact obj_8 os (s+x.n) a o (by omega) h
theorem over_left (x y:List Int)(i:Nat)(l:List Int)(h:i+l.length≤x.length):over (x++y) i l=over x i l++y:=by
 unfold over
 rw[List.take_append_of_le_length (by omega),List.drop_append_of_le_length (by omega)]
 simp
theorem over_right (x y:List Int)(n i:Nat)(l:List Int)(hn:n=x.length+i):over (x++y) n l=x++over y i l:=by
 subst hn
 unfold over
 rw[List.take_append,List.take_of_length_le (by omega),show x.length+i-x.length=i by omega,List.drop_append,List.drop_of_length_le (by omega),show x.length+i+l.length-x.length=i+l.length by omega]
 simp
theorem nums_set: ∀(ws:List Int) (j:Nat) (v:Int),j<ws.length→nums (ws.set j v)=over (nums ws) (8*j) (lowB v 8)
 | [],j,v,h=>by simp at h
 |w::ws,0,v,h=>by
  show nums (v::ws)=_
  rw[nums_cons,nums_cons]
  unfold over
  rw[Nat.mul_zero,List.take_zero,List.nil_append,Nat.zero_add,lowB_len,List.drop_append,lowB_len,Nat.sub_self,List.drop_zero,List.drop_of_length_le (by rw[lowB_len];exact yR _),List.nil_append]
 |w::ws,j+1,v,h=>by
  show nums (w::ws.set j v)=_
  rw[nums_cons,nums_cons,nums_set ws j v (by simpa using h)]
  exact(over_right (lowB w 8) (nums ws) (8*(j+1)) (8*j) (lowB v 8) (by rw[lowB_len];omega)).symm
theorem O.setW_enc (o:O)(j:Nat)(v:Int)(h:j<o.ws.length):(o.setW j v).enc=over o.enc (16+8*j) (lowB v 8):=by
 have e1:(o.setW j v).body=over (nums o.ws) (8*j) (lowB v 8)++o.tl:=by
  show nums (o.ws.set j v)++o.tl=_
  rw[nums_set _ _ _ h]
 have e2:(o.setW j v).body.length=o.body.length:=by rw[O.body_len,O.body_len];simp[O.setW]
 unfold O.enc objB
 rw[e2]
 show front o.k _++_=_
 rw[over_right (front o.k o.body.length) _ (16+8*j) (8*j) _ (by rw[front_len]),e1]
 congr 1
 unfold O.body
 rw[List.append_assoc,List.append_assoc,over_left (nums o.ws) _ (8*j) _ (by rw[lowB_len,nums_len];omega)]
theorem enc_setW: ∀(os:List O) (s a:Nat) (o:O) (j:Nat) (v:Int),obj s os a=some o→j<o.ws.length→enc (upd s os a (O.setW j v))=over (enc os) (a-s+16+8*j) (lowB v 8)
 | [],s,a,o,j,v,h,_=>by cases h
 |x::os,s,a,o,j,v,h,hj=>by
  have hx:x.enc.length=x.n:=rfl
  unfold obj at h
  unfold upd
  by_cases e:a=s
  ·rw[if_pos e]at h⊢
   injection h with h
   subst h
   rw[enc_cons,enc_cons,O.setW_enc _ _ _ hj,e,Nat.sub_self,Nat.zero_add,over_left _ _ _ _ (by
    rw[lowB_len]
    have:=x.n_is
    omega)]
  ·rw[if_neg e]at h⊢
   have hb:=obj_bd _ _ _ _ h
   rw[enc_cons,enc_cons,enc_setW os (s+x.n) a o j v h hj,over_right x.enc (enc os) (a-s+16+8*j) (a-(s+x.n)+16+8*j) _ (by omega)]
structure Rep (b:List Int)(os:List O):Prop where
 len:272≤b.length
 eq:b.drop 272=enc os
theorem Rep.size {b:List Int}{os:List O}(h:Rep b os):b.length=272+(enc os).length:=by
 have h1:=congrArg List.length h.eq
 have:=h.len
 rw[List.length_drop]at h1
 omega
theorem Rep.is {b:List Int}{os:List O}(h:Rep b os):b=b.take 272++enc os:=by rw[←h.eq,List.take_append_drop]
theorem Rep.put {b:List Int}{os:List O}(h:Rep b os){a x j:Nat}{o:O}(ho:obj 272 os a=some o)(hj:j<o.ws.length)(hx:x=a+16+8*j)(v:Int):Rep (put8 b x v) (upd 272 os a (O.setW j v)):=by
 have hb:=obj_bd _ _ _ _ ho
 have hn:=o.n_is
 have hs:=h.size
 have hl:(put8 b x v).length=b.length:=put8_len _ _ _ (by omega)
 have ht:(b.take 272).length=272:=by rw[List.length_take];omega
 refine⟨by rw[hl];exact h.len,?_⟩
 have e:put8 b x v=b.take 272++over (enc os) (a-272+16+8*j) (lowB v 8):=by
  conv=>lhs;rw[h.is]
  exact over_right _ _ _ _ _ (by rw[ht];omega)
 rw[e,enc_setW os 272 a o j v ho hj,List.drop_append,ht,Nat.sub_self,List.drop_zero,List.drop_of_length_le (by omega),List.nil_append]
theorem Rep.front {b:List Int}{os:List O}(h:Rep b os){x:Nat}(hx:x+8≤272)(v:Int):Rep (put8 b x v) os:=by
 have hl:(put8 b x v).length=b.length:=put8_len _ _ _ (by have:=h.len;omega)
 have ht:(b.take 272).length=272:=by rw[List.length_take];have:=h.len;omega
 refine⟨by rw[hl];exact h.len,?_⟩
 have e:put8 b x v=over (b.take 272) x (lowB v 8)++enc os:=by
  conv=>lhs;rw[h.is]
  exact over_left _ _ _ _ (by rw[lowB_len,ht];exact hx)
 have ht2:(over (b.take 272) x (lowB v 8)).length=272:=by rw[over_len _ _ _ (by rw[lowB_len,ht];exact hx),ht]
 rw[e,List.drop_append,ht2,Nat.sub_self,List.drop_zero,List.drop_of_length_le (by omega),List.nil_append]
theorem Rep.push {b:List Int}{os:List O}(h:Rep b os)(o:O):Rep (b++o.enc) (os++ [o]):=by
 refine⟨by rw[List.length_append];have:=h.len;omega,?_⟩
 rw[List.drop_append_of_le_length h.len,h.eq,enc_app,enc_one]
structure O.Ok (o:O):Prop where
 k:1≤o.k∧o.k≤7
 ws:I64 o.ws
 tl:AllB o.tl
 n:o.body.length≤900000
theorem O.Ok.setW {o:O}(h:o.Ok)(j:Nat){v:Int}(hv:0≤v∧v≤18446744073709551615):(o.setW j v).Ok:=
 {k:=h.k
  ws:=fun x hx=>by
   rcases List.mem_or_eq_of_mem_set hx with h1|h1
   ·exact h.ws x h1
   ·exact h1▸hv
  tl:=h.tl
  n:=by
   have e2:(o.setW j v).body.length=o.body.length:=by rw[O.body_len,O.body_len];simp[O.setW]
   rw[e2];exact h.n}
theorem read_at {l hd:List Int}{os:List O}(hl:l=hd++enc os)(hh:hd.length=272){a:Nat}{o:O}(ho:obj 272 os a=some o)(hk:o.Ok):
 code l a=0∧kindL l a=o.k∧sizeL l a=(16+o.body.length:Nat)∧bodyL l a=o.body:=by
 obtain⟨p,q,h1,h2⟩:=obj_split _ _ _ _ ho
 have h8:=obj_8 _ _ _ _ (by decide) ho
 have e:l=(hd++p)++(objB o.k o.body++q):=by rw[hl,h1,List.append_assoc];rfl
 rw[e]
 exact put_read (hd++p) q o.body o.k a (by rw[List.length_append];omega) h8 hk.k.1 hk.k.2 (by have:=hk.n;omega)
theorem body_w {o:O}(hk:o.Ok)(i:Nat)(hi:i<o.ws.length):u8 o.body (8*i)=o.ws.getD i 0:=by
 unfold O.body
 refine u8_nums _ _ i hi ?_
 have e:o.ws.getD i 0=o.ws[i]:=by simp[List.getElem?_eq_getElem hi]
 rw[e]
 exact hk.ws _ (List.getElem_mem hi)
end Za
namespace Zb
open Bytes8 Ob Ga Ma Za
def wd (os:List O)(a i:Nat):Int:=match obj 272 os a with
 |some o=>o.ws.getD i 0
 |none=>0
structure Sh where
 k:Int
 n:Nat
 tl:List Int
 g:Nat×Nat
def O.sh (o:O):Sh:=⟨o.k,o.ws.length,o.tl,o.g⟩
def shp (os:List O)(a:Nat):Option Sh:=(obj 272 os a).map O.sh
theorem shp_some {os:List O}{a:Nat}{s:Sh}(h:shp os a=some s): ∃o,obj 272 os a=some o∧O.sh o=s:=Option.map_eq_some_iff.1 h
theorem shp_set (os:List O)(a j x:Nat)(v:Int):shp (upd 272 os a (O.setW j v)) x=shp os x:=by
 unfold shp
 rw[obj_upd (O.setW_n j v)]
 split
 ·next e=>
  subst e
  cases obj 272 os x with
  |none=>rfl
  |some o=>simp[O.sh,O.setW]
 ·rfl
theorem wd_set {os:List O}{a j:Nat}{s:Sh}(hs:shp os a=some s)(hj:j<s.n)(v:Int)(x i:Nat):wd (upd 272 os a (O.setW j v)) x i=if x=a∧i=j then v else wd os x i:=by
 obtain⟨o,ho,hsh⟩:=shp_some hs
 subst hsh
 have hj2:j<o.ws.length:=hj
 unfold wd
 rw[obj_upd (O.setW_n j v)]
 by_cases e:x=a
 ·subst e
  rw[if_pos rfl,ho]
  show(o.ws.set j v).getD i 0=if x=x∧i=j then v else o.ws.getD i 0
  by_cases e2:i=j
  ·subst e2
   simp[List.getD_eq_getElem?_getD,List.getElem?_set,hj2]
  ·rw[if_neg (fun h=>e2 h.2)]
   simp[List.getD_eq_getElem?_getD,List.getElem?_set,Ne.symm e2]
 ·rw[if_neg e,if_neg (fun h=>e h.1)]
def endO (os:List O):Nat:=272+(enc os).length
theorem shp_push (os:List O)(o:O)(x:Nat):shp (os++ [o]) x=if x=endO os then some (O.sh o)else shp os x:=by
 unfold shp endO
 rw[obj_app]
 split<;>rfl
theorem wd_push (os:List O)(o:O)(x i:Nat):wd (os++ [o]) x i=if x=endO os then o.ws.getD i 0 else wd os x i:=by
 unfold wd endO
 rw[obj_app]
 by_cases e:x=272+(enc os).length
 ·rw[if_pos e,if_pos e]
 ·rw[if_neg e,if_neg e]
theorem shp_lt {os:List O}{a:Nat}{s:Sh}(h:shp os a=some s):272≤a∧a+16+8*s.n≤endO os:=by
 obtain⟨o,ho,hs⟩:=shp_some h
 have h1:=obj_bd _ _ _ _ ho
 have h2:=o.n_is
 subst hs
 show 272≤a∧a+16+8*o.ws.length≤_
 unfold endO
 omega
structure Stp (os os':List O)(S:Nat→Nat→Prop):Prop where
 shp: ∀x s,shp os x=some s→shp os' x=some s
 wd: ∀x i s,Zb.shp os x=some s→ ¬S x i→wd os' x i=wd os x i
theorem Stp.refl (os:List O)(S:Nat→Nat→Prop):Stp os os S:=⟨fun _ _ h=>h,fun _ _ _ _ _=>rfl⟩
theorem Stp.trans {a b c:List O}{S:Nat→Nat→Prop}(h:Stp a b S)(k:Stp b c S):Stp a c S:=
 ⟨fun x s e=>k.shp x s (h.shp x s e),fun x i s e n=>(k.wd x i s (h.shp x s e) n).trans (h.wd x i s e n)⟩
theorem Stp.mono {a b:List O}{S S':Nat→Nat→Prop}(h:Stp a b S)(hS: ∀x i s,Zb.shp a x=some s→S x i→S' x i):Stp a b S':=⟨h.shp,fun x i s e n=>h.wd x i s e (fun h2=>n (hS x i s e h2))⟩
theorem Stp.set {os:List O}{a j:Nat}{s:Sh}(hs:Zb.shp os a=some s)(hj:j<s.n)(v:Int):Stp os (upd 272 os a (O.setW j v)) (fun x i=>x=a∧i=j):=
 ⟨fun x s e=>by rw[shp_set];exact e,fun x i _ _ n=>by rw[wd_set hs hj,if_neg n]⟩
theorem Stp.push (os:List O)(o:O)(S:Nat→Nat→Prop):Stp os (os++ [o]) S:=
 ⟨fun x s e=>by rw[shp_push,if_neg (by have:=shp_lt e;omega)];exact e,fun x i s e _=>by rw[wd_push,if_neg (by have:=shp_lt e;omega)]⟩
structure RepO (b:List Int)(os:List O):Prop where
 rep:Rep b os
 ok: ∀o∈os,o.Ok
theorem RepO.size {b:List Int}{os:List O}(h:RepO b os):b.length=endO os:=h.rep.size
theorem RepO.put {b:List Int}{os:List O}(h:RepO b os){a x j:Nat}{s:Sh}(hs:shp os a=some s)(hj:j<s.n)(hx:x=a+16+8*j){v:Int}(hv:0≤v∧v≤18446744073709551615):RepO (put8 b x v) (upd 272 os a (O.setW j v)):=by
 obtain⟨o,ho,hsh⟩:=shp_some hs
 subst hsh
 refine⟨h.rep.put ho hj hx v,fun y hy=>?_⟩
 rcases upd_mem _ _ _ _ hy with h1|⟨o2,h1,rfl⟩
 ·exact h.ok y h1
 ·exact(h.ok o2 (obj_mem _ _ _ _ h1)).setW j hv
theorem RepO.front {b:List Int}{os:List O}(h:RepO b os){x:Nat}(hx:x+8≤272)(v:Int):RepO (put8 b x v) os:=⟨h.rep.front hx v,h.ok⟩
theorem RepO.push {b:List Int}{os:List O}(h:RepO b os)(o:O)(ho:o.Ok):RepO (b++o.enc) (os++ [o]):=⟨h.rep.push o,fun y hy=>by
 rcases List.mem_append.1 hy with h1|h1
 ·exact h.ok y h1
 ·rw[List.mem_singleton]at h1;exact h1▸ho⟩
def Fol (nx:Nat→Int):Int→List Nat→Prop
 |a,[]=>a=0
 |a,x::xs=>a=(x:Int)∧Fol nx (nx x) xs
theorem Fol.cong {nx ny:Nat→Int}: ∀(l:List Nat) (a:Int),Fol nx a l→(∀x∈l,ny x=nx x)→Fol ny a l
 | [],a,h,_=>h
 |x::xs,a,h,e=>⟨h.1,by
  rw[e x (List.mem_cons_self ..)]
  exact Fol.cong xs _ h.2 (fun y hy=>e y (List.mem_cons_of_mem _ hy))⟩
theorem Fol.snoc {nx ny:Nat→Int}{z:Nat}: ∀(l:List Nat) (a:Int) (hne:l≠ []),Fol nx a l→l.Pairwise (· < ·)→(∀x∈l,x≠l.getLast hne→ny x=nx x)→ny (l.getLast hne)=(z:Int)→ny z=0→Fol ny a (l++ [z])
 | [],a,hne,_,_,_,_,_=>absurd rfl hne
 | [x],a,hne,h,_,_,h1,h2=>⟨h.1,h1,h2⟩
 |x::y::t,a,hne,h,hs,he,h1,h2=>by
  have hy:(x::y::t).getLast hne=(y::t).getLast (by simp):=rfl
  rw[List.pairwise_cons]at hs
  refine⟨h.1,?_⟩
  have hx:x≠(x::y::t).getLast hne:=by
   rw[hy]
   have:=hs.1 _ (List.getLast_mem (l:=y::t) (by simp))
   omega
  show Fol ny (ny x) ((y::t)++ [z])
  rw[he x (List.mem_cons_self ..) hx]
  exact Fol.snoc (y::t) _ (by simp) h.2 hs.2 (fun w hw hwn=>he w (List.mem_cons_of_mem _ hw) (by rw[hy];exact hwn)) (by rw[←hy];exact h1) h2
def pl (l:List Kn)(s:Nat):List Nat:=(l.filter fun k=>k.slot==s).map Kn.at_
abbrev Asc (l:List Kn):Prop:=(l.map Kn.at_).Pairwise (· < ·)
theorem Asc.pl {l:List Kn}(h:Asc l)(s:Nat):(pl l s).Pairwise (· < ·):=by
 unfold Zb.pl
 exact List.Pairwise.sublist ((List.filter_sublist).map Kn.at_) h
theorem Asc.inj: ∀ {l:List Kn},Asc l→ ∀ {d e:Kn},d∈l→e∈l→d.at_=e.at_→d=e
 | [],_,d,e,hd,_,_=>by cases hd
 |x::l,h,d,e,hd,he,h1=>by
  have h2:((x::l).map Kn.at_).Pairwise (· < ·):=h
  rw[List.map_cons,List.pairwise_cons]at h2
  rcases List.mem_cons.1 hd with e1|hd2
  ·rcases List.mem_cons.1 he with e2|he2
   ·rw[e1,e2]
   ·have:=h2.1 _ (List.mem_map_of_mem he2);rw[e1]at h1;omega
  ·rcases List.mem_cons.1 he with e2|he2
   ·have:=h2.1 _ (List.mem_map_of_mem hd2);rw[e2]at h1;omega
   ·exact Asc.inj h2.2 hd2 he2 h1
theorem mem_pl {l:List Kn}{s x:Nat}(h:x∈pl l s): ∃d∈l,d.slot=s∧d.at_=x:=by
 obtain⟨d,hd,e⟩:=List.mem_map.1 h
 rw[List.mem_filter]at hd
 exact⟨d,hd.1,by simpa using hd.2,e⟩
theorem pl_snoc (l:List Kn)(k:Kn)(s:Nat):pl (l++ [k]) s=if k.slot=s then pl l s++ [k.at_]else pl l s:=by
 unfold pl
 rw[List.filter_append]
 by_cases h:k.slot=s
 ·simp[h]
 ·simp[h]
theorem pl_nil {l:List Kn}{s:Nat}(h:inSlot l s=0):pl l s=[]:=by
 unfold inSlot at h
 unfold pl
 rw[List.eq_nil_of_length_eq_zero h];rfl
theorem pl_last {l:List Kn}{s:Nat}(h:inSlot l s≠0): ∃hne:pl l s≠ [],(pl l s).getLast hne=lastIn l s:=by
 unfold inSlot at h
 have h1:(l.filter fun k=>k.slot==s)≠ []:=fun e=>h (by rw[e];rfl)
 have h2:pl l s≠ []:=by unfold pl;simpa using h1
 refine⟨h2,?_⟩
 have h3:(pl l s).getLast? =some (lastIn l s):=by
  unfold pl lastIn
  rw[List.getLast?_map,List.getLast?_eq_some_getLast h1]
  rfl
 rw[List.getLast?_eq_some_getLast h2]at h3
 injection h3
structure TabW (os:List O)(a:Nat)(k:Int)(n:Nat)(l:List Kn):Prop where
 sh: ∃g,shp os a=some ⟨k,2*n,[],g⟩
 fol: ∀s,s<n→Fol (fun x=>wd os x 1) (wd os a (2*s)) (pl l s)
 last: ∀s,s<n→wd os a (2*s+1)=(lastIn l s:Nat)
theorem TabW.stp {os os':List O}{a:Nat}{k:Int}{n:Nat}{l:List Kn}(h:TabW os a k n l){S:Nat→Nat→Prop}(t:Stp os os' S)(ha: ∀i,¬S a i)(hl: ∀d∈l,(∃s,shp os d.at_=some s)∧ ¬S d.at_ 1):TabW os' a k n l:=by
 obtain⟨g,hg⟩:=h.sh
 refine⟨⟨g,t.shp _ _ hg⟩,fun s hs=>?_,fun s hs=>?_⟩
 ·rw[t.wd _ _ _ hg (ha _)]
  refine Fol.cong _ _ (h.fol s hs) (fun x hx=>?_)
  obtain⟨d,hd,_,e⟩:=mem_pl hx
  obtain⟨⟨s2,h2⟩,h3⟩:=hl d hd
  rw[←e]
  exact t.wd _ _ _ h2 h3
 ·rw[t.wd _ _ _ hg (ha _)]
  exact h.last s hs
theorem hung_W {b:List Int}{os:List O}{a:Nat}{k:Int}{n:Nat}{l:List Kn}(h:RepO b os)(t:TabW os a k n l)(kn:Kn){s:Sh}(hz:shp os kn.at_=some s)(hn:1<s.n)(h0:wd os kn.at_ 1=0)(hza:kn.at_≠a)
 (hl: ∀d∈l,(∃s2,shp os d.at_=some s2∧1<s2.n)∧d.at_≠a∧d.at_<kn.at_)(hasc:Asc l)(hs:kn.slot<n)(hb:b.length≤10000000):
 ∃os',RepO (hung b l (a+16) kn.at_ kn.slot) os'∧Stp os os' (fun x i=>x=a∨(i=1∧ ∃d∈l,d.at_=x))∧(∀x,shp os' x=shp os x)∧TabW os' a k n (l++ [kn]):=by
 obtain⟨g,hg⟩:=t.sh
 obtain⟨z,slot,hzs⟩: ∃z slot,z=kn.at_∧slot=kn.slot:=⟨_,_,rfl,rfl⟩
 obtain⟨e1,e2⟩:=hzs
 rw[←e1]at hz h0 hza⊢
 rw[←e2]at hs⊢
 have hl': ∀d∈l,(∃s2,shp os d.at_=some s2∧1<s2.n)∧d.at_≠a∧d.at_<z:=by rw[e1];exact hl
 have hzb:=shp_lt hz
 have hsz:=h.size
 have hv:0≤(z:Int)∧(z:Int)≤18446744073709551615:=by omega
 unfold hung
 by_cases hin:inSlot l slot=0
 ·rw[if_pos hin]
  have r1:=h.put hg (j:=2*slot) (x:=a+16+16*slot) (by show 2*slot<2*n;omega) (by omega) hv
  have s1:=Stp.set hg (j:=2*slot) (by show 2*slot<2*n;omega) (z:Int)
  have w1:=wd_set hg (j:=2*slot) (by show 2*slot<2*n;omega) (z:Int)
  have q1:=fun x=>shp_set os a (2*slot) x (z:Int)
  generalize upd 272 os a (O.setW (2*slot) (z:Int))=o1 at*
  have hg1:shp o1 a=some ⟨k,2*n,[],g⟩:=by rw[q1];exact hg
  have r2:=r1.put hg1 (j:=2*slot+1) (x:=a+16+16*slot+8) (by show 2*slot+1<2*n;omega) (by omega) hv
  have s2:=Stp.set hg1 (j:=2*slot+1) (by show 2*slot+1<2*n;omega) (z:Int)
  have w2:=wd_set hg1 (j:=2*slot+1) (by show 2*slot+1<2*n;omega) (z:Int)
  have q2:=fun x=>shp_set o1 a (2*slot+1) x (z:Int)
  generalize upd 272 o1 a (O.setW (2*slot+1) (z:Int))=o2 at*
  have st:Stp os o2 (fun x i=>x=a∨(i=1∧ ∃d∈l,d.at_=x)):=(s1.mono fun x i _ _ h=> .inl h.1).trans (s2.mono fun x i _ _ h=> .inl h.1)
  have hw: ∀x i,x≠a→wd o2 x i=wd os x i:=fun x i hx=>by rw[w2,if_neg (fun h=>hx h.1),w1,if_neg (fun h=>hx h.1)]
  refine⟨o2,r2,st,fun x=>by rw[q2,q1],⟨g,by rw[q2,q1];exact hg⟩,fun s hsn=>?_,fun s hsn=>?_⟩
  ·rw[pl_snoc,←e1,←e2]
   by_cases he:slot=s
   ·subst he
    rw[if_pos rfl,pl_nil hin]
    refine⟨?_,?_⟩
    ·rw[w2,if_neg (by omega),w1,if_pos ⟨rfl,rfl⟩]
    ·show wd o2 z 1=0
     rw[hw z 1 hza];exact h0
   ·rw[if_neg he,w2,if_neg (by omega),w1,if_neg (by omega)]
    refine Fol.cong _ _ (t.fol s hsn) (fun x hx=>?_)
    obtain⟨d,hd,_,e⟩:=mem_pl hx
    rw[←e]
    exact hw _ _ (hl' d hd).2.1
  ·rw[lastIn_snoc,←e1,←e2]
   by_cases he:slot=s
   ·subst he
    rw[if_pos rfl,w2,if_pos ⟨rfl,rfl⟩]
   ·rw[if_neg he,w2,if_neg (by omega),w1,if_neg (by omega)]
    exact t.last s hsn
 ·rw[if_neg hin]
  obtain⟨hne,hla⟩:=pl_last hin
  obtain⟨dl,hdl,hds,hda⟩:=mem_pl (List.getLast_mem hne)
  rw[hla]at hda
  obtain⟨⟨s3,h3,h4⟩,h5,h6⟩:=hl' dl hdl
  rw[hda]at h3 h5 h6
  generalize hLL:lastIn l slot=L at*
  have r1:=h.put h3 (j:=1) (x:=L+24) h4 (by omega) hv
  have s1:=Stp.set h3 (j:=1) h4 (z:Int)
  have w1:=wd_set h3 (j:=1) h4 (z:Int)
  have q1:=fun x=>shp_set os L 1 x (z:Int)
  generalize upd 272 os L (O.setW 1 (z:Int))=o1 at*
  have hg1:shp o1 a=some ⟨k,2*n,[],g⟩:=by rw[q1];exact hg
  have r2:=r1.put hg1 (j:=2*slot+1) (x:=a+16+16*slot+8) (by show 2*slot+1<2*n;omega) (by omega) hv
  have s2:=Stp.set hg1 (j:=2*slot+1) (by show 2*slot+1<2*n;omega) (z:Int)
  have w2:=wd_set hg1 (j:=2*slot+1) (by show 2*slot+1<2*n;omega) (z:Int)
  have q2:=fun x=>shp_set o1 a (2*slot+1) x (z:Int)
  generalize upd 272 o1 a (O.setW (2*slot+1) (z:Int))=o2 at*
  have st:Stp os o2 (fun x i=>x=a∨(i=1∧ ∃d∈l,d.at_=x)):=(s1.mono fun x i _ _ h=> .inr ⟨h.2,dl,hdl,by rw[hda];exact h.1.symm⟩).trans (s2.mono fun x i _ _ h=> .inl h.1)
  refine⟨o2,r2,st,fun x=>by rw[q2,q1],⟨g,by rw[q2,q1];exact hg⟩,fun s hsn=>?_,fun s hsn=>?_⟩
  ·have ea:wd o2 a (2*s)=wd os a (2*s):=by rw[w2,if_neg (by omega),w1,if_neg (fun h=>h5 h.1.symm)]
   rw[pl_snoc,←e1,←e2,ea]
   by_cases he:slot=s
   ·subst he
    rw[if_pos rfl]
    refine Fol.snoc (nx:=fun x=>wd os x 1) _ _ hne (t.fol slot hsn) (hasc.pl slot) (fun x hx hxl=>?_) ?_ ?_
    ·obtain⟨d,hd,_,e⟩:=mem_pl hx
     rw[hla]at hxl
     show wd o2 x 1=wd os x 1
     rw[w2,if_neg (fun h=>(hl' d hd).2.1 (e.trans h.1)),w1,if_neg (fun h=>hxl h.1)]
    ·rw[hla]
     show wd o2 L 1=z
     rw[w2,if_neg (fun h=>h5 h.1),w1,if_pos ⟨rfl,rfl⟩]
    ·show wd o2 z 1=0
     rw[w2,if_neg (fun h=>hza h.1),w1,if_neg (by omega)]
     exact h0
   ·rw[if_neg he]
    refine Fol.cong _ _ (t.fol s hsn) (fun x hx=>?_)
    obtain⟨d,hd,hdst,e⟩:=mem_pl hx
    show wd o2 x 1=wd os x 1
    rw[w2,if_neg (fun h=>(hl' d hd).2.1 (e.trans h.1)),w1,if_neg (fun h=>?_)]
    have:=hasc.inj hd hdl (by rw[e,hda];exact h.1)
    rw[this]at hdst
    omega
  ·rw[lastIn_snoc,←e1,←e2]
   by_cases he:slot=s
   ·subst he
    rw[if_pos rfl,w2,if_pos ⟨rfl,rfl⟩]
   ·rw[if_neg he,w2,if_neg (by omega),w1,if_neg (fun h=>h5 h.1.symm)]
    exact t.last s hsn
end Zb
namespace Sd
open Bytes8 Blk8 Hm Sa Sm Sc
def QuadAt (w0:World)(g:Nat)(f:Quad)(w:World):Prop:=Blk w g [.int .u64 f.p,.int .u64 f.q,.int .u64 f.r,.int .u64 f.s] 327∧Below w0.heap.size w0 w
theorem quad_step {w0 w:World}{g:Nat}{p q r s:Value}(h:Blk w g [p,q,r,s] 327)(hb:Below w0.heap.size w0 w)(hg:w0.heap.size≤g)(f:Quad):
 QuadAt w0 g f ((((w.setCell ⟨g,0,none⟩ (.int .u64 f.p)).setCell ⟨g,1,none⟩ (.int .u64 f.q)).setCell ⟨g,2,none⟩ (.int .u64 f.r)).setCell ⟨g,3,none⟩ (.int .u64 f.s)):=
 ⟨(((h.set_ 0 _).set_ 1 _).set_ 2 _).set_ 3 _,(((hb.setCell hg _).setCell hg _).setCell hg _).setCell hg _⟩
theorem sipEnd_four (f:Quad)(m:Int)(G:Quad)(hG:quadPlus f m=G):sipEnd f m=bits .xor .u64 (bits .xor .u64 (bits .xor .u64 (rounds ⟨G.p,G.q,bits .xor .u64 G.r 255,G.s⟩ 4).p (rounds ⟨G.p,G.q,bits .xor .u64 G.r 255,G.s⟩ 4).q) (rounds ⟨G.p,G.q,bits .xor .u64 G.r 255,G.s⟩ 4).r) (rounds ⟨G.p,G.q,bits .xor .u64 G.r 255,G.s⟩ 4).s:=by subst hG;rfl
theorem six_of {w:World}{g:Nat}{a b c d e f:Value}{T:TypeId}(h:Blk w g [a,b,c,d,e,f] T):
 w.cell? ⟨g,0,none⟩=some a∧w.cell? ⟨g,1,none⟩=some b∧w.cell? ⟨g,2,none⟩=some c∧w.cell? ⟨g,3,none⟩=some d∧w.cell? ⟨g,4,none⟩=some e∧w.cell? ⟨g,5,none⟩=some f:=
 ⟨h.cell (i:=0) rfl,h.cell (i:=1) rfl,h.cell (i:=2) rfl,h.cell (i:=3) rfl,h.cell (i:=4) rfl,h.cell (i:=5) rfl⟩
theorem four_far {w:World}{g b:Nat}{vs:List Value}{T:TypeId}(h:Blk w g vs T)(hg:g≠b)(p q r s:Value):
 Blk ((((w.setCell ⟨b,0,none⟩ p).setCell ⟨b,1,none⟩ q).setCell ⟨b,2,none⟩ r).setCell ⟨b,3,none⟩ s) g vs T:=
 (((h.far (p:=⟨b,0,none⟩) hg _).far (p:=⟨b,1,none⟩) hg _).far (p:=⟨b,2,none⟩) hg _).far (p:=⟨b,3,none⟩) hg _
theorem zero_blk {w w3:World}(hb3:Below (World.drew (World.alloc w (.cells #[.int .u64 0,.int .u64 0,.int .u64 0,.int .u64 0] 327))).heap.size (World.drew (World.alloc w (.cells #[.int .u64 0,.int .u64 0,.int .u64 0,.int .u64 0] 327))) w3):Blk w3 w.heap.size [.int .u64 0,.int .u64 0,.int .u64 0,.int .u64 0] 327:=(Blk.new_at w _ _ _ rfl).drew.below hb3 (by simp)
theorem zero_below {w w3:World}(hb3:Below (World.drew (World.alloc w (.cells #[.int .u64 0,.int .u64 0,.int .u64 0,.int .u64 0] 327))).heap.size (World.drew (World.alloc w (.cells #[.int .u64 0,.int .u64 0,.int .u64 0,.int .u64 0] 327))) w3):Below w.heap.size w w3:=((Below.refl _ _).alloc (yR _) _).drew.trans (hb3.mono (by simp))
theorem zero_cell {w w3:World}(hb3:Below (World.drew (World.alloc w (.cells #[.int .u64 0,.int .u64 0,.int .u64 0,.int .u64 0] 327))).heap.size (World.drew (World.alloc w (.cells #[.int .u64 0,.int .u64 0,.int .u64 0,.int .u64 0] 327))) w3)(i:Nat)(hi:i<4):w3.cell? ⟨w.heap.size,i,none⟩=some (.int .u64 0):=by
 have hB:Blk w3 w.heap.size [.int .u64 0,.int .u64 0,.int .u64 0,.int .u64 0] 327:=(Blk.new_at w _ _ _ rfl).drew.below hb3 (by simp)
 match i,hi with
 |0,_=>exact hB.cell rfl
 |1,_=>exact hB.cell rfl
 |2,_=>exact hB.cell rfl
 |3,_=>exact hB.cell rfl
theorem zero_frozen {w w3:World}(hb3:Below (World.drew (World.alloc w (.cells #[.int .u64 0,.int .u64 0,.int .u64 0,.int .u64 0] 327))).heap.size (World.drew (World.alloc w (.cells #[.int .u64 0,.int .u64 0,.int .u64 0,.int .u64 0] 327))) w3)(i:Nat):w3.frozen? ⟨w.heap.size,i,none⟩=false:=by
 have hB:Blk w3 w.heap.size [.int .u64 0,.int .u64 0,.int .u64 0,.int .u64 0] 327:=(Blk.new_at w _ _ _ rfl).drew.below hb3 (by simp)
 exact hB.frozen i
set_option maxRecDepth 100000 in
theorem value_any (K:Nat→Int)(g:Nat)(l:List Int)(w:World)(hs:SumAt w g (idL K) l):
 Calls Tryz.prog 173 #[.pointer (some ⟨g,0,none⟩)] w fun e w'=>e= .returned (.int .u64 (sipS (idL K) l))∧Below w.heap.size w w':=by
 obtain⟨hA,hB⟩:=hs
 obtain⟨z,hz⟩: ∃z,(l.length:Int)%256=z:=⟨_,rfl⟩
 obtain⟨M,hM⟩: ∃M,last8 l=M:=⟨_,rfl⟩
 obtain⟨G,hG⟩: ∃G,quadPlus (quadAt (idL K) l (l.length/8)) M=G:=⟨_,rfl⟩
 have hE:=sipEnd_four _ _ _ hG
 have hS:sipS (idL K) l=sipEnd (quadAt (idL K) l (l.length/8)) M:=by unfold sipS;rw[hM]
 have HE:=yH (hS.trans hE)
 rw[last8_left,hz]at hM
 rw[hz]at hB
 have z0:0≤z:=by omega
 have z1:z≤255:=by omega
 have hM2:bits .or .u64 (left8 l) (IntKind.u64.wrap (z*72057594037927936))=M:=by rw[IntKind.wrap_u64,show z*72057594037927936%18446744073709551616=z*72057594037927936 by omega];exact hM
 have hwz:IntKind.u64.wrap z=z:=by rw[IntKind.wrap_u64];omega
 have hp:=fun w=>qplus_q (quadAt (idL K) l (l.length/8)) M w (quadAt_ok _ _ _)
 rw[hG]at hp
 have HP:=yH hp
 clear hp
 have HO:Hid G.ok:=by rw[←hG];exact yH (quadPlus_ok _ _)
 generalize quadAt (idL K) l (l.length/8)=F at*
 generalize left8 l=L at*
 clear hz hG hE hS hA
 have g0:=hB.cell (i:=0) rfl
 have g1:=hB.cell (i:=1) rfl
 have g2:=hB.cell (i:=2) rfl
 have g3:=hB.cell (i:=3) rfl
 have g4:=hB.cell (i:=4) rfl
 have g5:=hB.cell (i:=5) rfl
 have R:=yH hB
 have hgl:=hB.lt
 have hgne:g≠w.heap.size:=by omega
 clear hB
 go_enter Tryz.func173,Tryz.ntmps173
 go_wp2
 go_cut [3]from 4 to 19 (fun f wx=> ∃gq,f= .pointer (some ⟨gq,0,none⟩)∧w.heap.size≤gq∧Hid (QuadAt w gq G wx))
 case first=>
  go_region_held3 (fun w'=>w'.cell? ⟨g,0,none⟩=some (.int .u64 F.p)∧w'.cell? ⟨g,1,none⟩=some (.int .u64 F.q)∧w'.cell? ⟨g,2,none⟩=some (.int .u64 F.r)∧w'.cell? ⟨g,3,none⟩=some (.int .u64 F.s)∧w'.cell? ⟨g,4,none⟩=some (.int .u64 L)∧w'.cell? ⟨g,5,none⟩=some (.int .u8 z)) (first|(with_reducible exact⟨g0,g1,g2,g3,g4,g5⟩)|(with_reducible exact r3)|(with_reducible exact six_of (four_far R3 hgne _ _ _ _))|(with_reducible exact six_of (R3.alloc _))|go_keep)
   (first|(go_at_call 214;(with_reducible refine(HP.out _).mono ?_);rintro e w3 ⟨rfl,hb3⟩;first|((with_reducible replace hb3:Below (World.drew (World.alloc w (.cells #[.int .u64 0,.int .u64 0,.int .u64 0,.int .u64 0] 327))).heap.size (World.drew (World.alloc w (.cells #[.int .u64 0,.int .u64 0,.int .u64 0,.int .u64 0] 327))) w3:=hb3);have hB3:=zero_below hb3;have R3:=R.out.below hB3 hgl;have hg3:=R3.lt;have r3:=six_of R3;have q0:=zero_cell hb3 0 (by decide);have y0:=zero_frozen hb3 0;have q1:=zero_cell hb3 1 (by decide);have y1:=zero_frozen hb3 1;have q2:=zero_cell hb3 2 (by decide);have y2:=zero_frozen hb3 2;have q3:=zero_cell hb3 3 (by decide);have y3:=zero_frozen hb3 3)|(have hB3:=(Below.refl _ w).drew.trans hb3;have R3:=R.out.below hB3 hgl;have hg3:=R3.lt;have r3:=six_of R3)))
  all_goals
   go_wp2_with fail
   go_meet
   case rel=>
    first
     |exact⟨_,rfl,hB3.size,yH ⟨Blk.new_at w3 _ _ _ rfl,hB3.alloc hB3.size _⟩⟩
     |exact⟨_,rfl,yR _,yH (quad_step (zero_blk hb3) hB3 (yR _) G)⟩
 case rest=>
  obtain⟨gq,rfl,hgq,hq⟩:=hcut
  have Q1:=yH hq.out.1
  have Q2:=yH hq.out.2
  have v0:=Q1.out.cell (i:=2) rfl
  have v1:=Q1.out.frozen 2
  clear hM hM2 hwz g0 g1 g2 g3 g4 g5 hgl hgne hq
  have HRn:=yH fun k=>rounds_ok ⟨G.p,G.q,bits .xor .u64 G.r 255,G.s⟩ ⟨HO.out.1,HO.out.2.1,b64 .xor _ _,HO.out.2.2.2⟩ k
  go_wp2
  clear v0 v1
  have Q3:QuadAt w gq ⟨G.p,G.q,bits .xor .u64 G.r 255,G.s⟩ (wc.setCell ⟨gq,2,none⟩ (.int .u64 (bits .xor .u64 G.r 255))):=⟨Q1.out.set_ 2 _,Q2.out.setCell hgq _⟩
  generalize wc.setCell ⟨gq,2,none⟩ (.int .u64 (bits .xor .u64 G.r 255))=w5 at Q3⊢
  have Q3:=yH Q3
  generalize (⟨G.p,G.q,bits .xor .u64 G.r 255,G.s⟩:Quad)=Y at*
  go_loopw [24] (fun i wr=> ∃k:Nat,k≤4∧i= .int .i64 k∧Hid (QuadAt w gq (rounds Y k) wr)) (fun i _=>4-(intOf i).toNat)
  case atStart=>exact⟨0,by omega,rfl,Q3⟩
  case round=>
   obtain⟨k,hk,rfl,hr⟩:=hrel
   have P1:=yH hr.out.1
   have P2:=yH hr.out.2
   have g0:=P1.out.cell (i:=0) rfl
   have g1:=P1.out.cell (i:=1) rfl
   have g2:=P1.out.cell (i:=2) rfl
   have g3:=P1.out.cell (i:=3) rfl
   have hz:=P1.out.lt
   by_cases hlt:k<4
   ·have hd:decide (k<4)=true:=by simpa using hlt
    have HR:=yH fun W=>round_q (rounds Y k) W (HRn.out k)
    have HN:rounds Y (k+1)=round (rounds Y k):=rfl
    have HN:=yH HN
    go_wp2_with(go_at_call 215;(with_reducible refine(HR.out _).mono ?_);rintro e w6 ⟨rfl,hb6⟩;have R6:=yH (P1.out.below hb6 hz);have a0:=R6.out.cell (i:=0) rfl;have a1:=R6.out.cell (i:=1) rfl;have a2:=R6.out.cell (i:=2) rfl;have a3:=R6.out.cell (i:=3) rfl;have b0:=R6.out.frozen 0;have b1:=R6.out.frozen 1;have b2:=R6.out.frozen 2;have b3:=R6.out.frozen 3)
    go_roundw
    case rel=>exact⟨k+1,by omega,by go_num,yH (quad_step R6.out (P2.out.trans (hb6.mono P2.out.size)) hgq (round (rounds Y k)))⟩
    case measure=>simp[intOf];omega
   ·obtain rfl:k=4:=by omega
    have hd:decide (4<4)=false:=rfl
    go_wp2
    go_ret
    exact⟨ret_int HE.out.symm,P2.out⟩
end Sd
namespace Se
open Bytes8 Blk8 Own8 Hm Sc Sd
theorem new_at (K:Nat→Int)(w:World)(n:Nat)(hn:w.heap.size+1=n)(hk:IdOk K):
 Calls Tryz.prog 171 #[idV K] w fun e w'=>e= .returned (.pointer (some ⟨n,0,none⟩))∧SumAt w' n (idL K) []∧Below w.heap.size w w':=by
 subst hn;exact new_any K w hk
theorem bytes_spot {w:World}{A:Option Addr}{l:List Int}(h:Bytes w A l){B:Nat}(hB:w.heap.size≤B):0<l.length→ ∀b off,A=some ⟨b,off,none⟩→b≠B:=by
 intro hp b off e
 obtain⟨b',off',e',hlt,_⟩:=h.spot hp
 rw[e]at e';simp at e';obtain⟨rfl,rfl⟩:=e';omega
set_option maxRecDepth 100000 in
theorem sip_any (K:Nat→Int)(A:Option Addr)(l:List Int)(len cap:Nat)(w:World)(hk:IdOk K)(hb:Bytes w A l)(hL:l.length=len)(hmax:len≤800000):
 Calls Tryz.prog 135 #[idV K,.slice A len cap] w fun e w'=>e= .returned (.int .u64 (sipS (idL K) l))∧Below w.heap.size w w':=by
 have HNew:=yH (new_at K (w.alloc (idC 37 K)) (w.heap.size+1+1) (by simp) hk)
 have HB:=yH hb
 have HL:=yH hL
 have HSp:=yH (bytes_spot hb (B:=w.heap.size+1+1) (by omega))
 clear hb hL
 go_enter Tryz.func135,Tryz.ntmps135
 go_wp2_with(first|(go_at_call 171;(with_reducible refine HNew.out.mono ?_);rintro e w1 ⟨rfl,hs1,hb1⟩;have HS1:=yH hs1;clear hs1;have k1:=((Below.refl w.heap.size w).alloc (yR _) (idC 37 K)).trans (hb1.mono (by simp));have HAdd:=yH (add_any K _ A [] l len cap w1 HS1.out (HB.out.below k1 (yR _)) HL.out (by omega) (by rw[←HL.out];exact HSp.out)))|(go_at_call 172;(with_reducible refine HAdd.out.mono ?_);rintro e w2 ⟨rfl,hs2,hg2⟩;rw[List.nil_append]at hs2;have HV:=yH (value_any K _ l w2 hs2);clear hs2)|(go_at_call 173;(with_reducible refine HV.out.mono ?_);rintro e w3 ⟨rfl,hb3⟩))
 go_ret
 have k2:=k1.grown hg2 k1.size (fun k h=>by injection h with h;omega)
 exact⟨rfl,k2.trans (hb3.mono k2.size)⟩
end Se
namespace Sf
end Sf
namespace Sg
open Bytes8 Blk8 Own8 Se
theorem of_any (t:Bool)(K:Nat→Int)(A:Option Addr)(l:List Int)(len cap:Nat)(w:World)(hk:IdOk K)(hb:Bytes w A l)(hL:l.length=len)(hmax:len≤800000)(hcap:len≤cap)(hcap2:cap≤maxLen):
 Calls Tryz.prog 73 #[.bool t,idV K,.slice A len cap] w fun e w'=>e= .returned (.int .u64 (ofS t (idL K) l))∧Below w.heap.size w w':=by
 have HB:=yH hb
 cases t with
 |true=>
  have HC:=yH (sip_any K A l len cap (w.alloc (idC 37 K)) hk (hb.below ((Below.refl _ _).alloc (yR _) _) (yR _)) hL hmax)
  clear hb
  go_enter Tryz.func73,Tryz.ntmps73
  go_wp2_with(go_at_call 135;(with_reducible refine HC.out.mono ?_);rintro e w1 ⟨rfl,hb1⟩)
  go_ret
  exact⟨rfl,((Below.refl w.heap.size w).alloc (yR _) _).trans (hb1.mono (by simp))⟩
 |false=>
  have HC:=yH (look_all A l len cap (w.alloc (idC 37 K)) (hb.below ((Below.refl _ _).alloc (yR _) _) (yR _)) hL hmax hcap hcap2)
  clear hb hcap2
  go_enter Tryz.func73,Tryz.ntmps73
  go_wp2_with(go_at_call 136;(with_reducible refine HC.out.mono ?_);rintro e w1 ⟨rfl,hb1⟩)
  go_ret
  exact⟨rfl,((Below.refl w.heap.size w).alloc (yR _) _).trans (hb1.mono (by simp))⟩
end Sg
end Go.Proofs.YtiddkgcafpaekaaGreat
