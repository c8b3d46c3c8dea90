/-
  Texts beneath the proof.
-/
import Derived.Test.YtlelnfokffflnaaGreatQl2
set_option linter.unusedVariables false
set_option linter.unusedSimpArgs false
set_option maxRecDepth 100000
set_option maxHeartbeats 4000000
open Go.ChangeShapes Go.WideShapes Go.ChangeAt Go.RowKit
namespace Go.Proofs.YtlelnfokffflnaaGreat
namespace Ha
open LeNum Hm
theorem aQt (k:Int)(a:0≤k)(b:k≤63):bits BinOp.and .u64 k 63=k:=by
 obtain⟨n,rfl⟩:=Int.eq_ofNat_of_zero_le a
 have e:(63:Int)=((63:Nat):Int):=rfl
 rw[e,LeNum.bits_and_u64_nat n 63 (by omega) (by decide)]
 have:=Nat.and_two_pow_sub_one_eq_mod n 6
 simp at this
 rw[this]
 omega
theorem aP0 (x k:Int)(w:World)(c:0≤x)(d:x≤18446744073709551615)(b:0≤k)(a:k≤63):
 Calls Tryz.prog 233 #[.int .u64 x,.int .i64 k] w fun e w'=>e= .returned (.int .u64 (rot64 x k))∧w=w':=by
 have h:=aQt k b a
 go_enter Tryz.func233,Tryz.ntmps233
 go_wp2
 go_ret
 exact⟨rfl,rfl⟩
end Ha
namespace OwnE
open Bytes8 Blk8 Own8
structure Elt (E S:TypeId)(size bytes:Nat)(z:Value):Prop where
 under:Tryz.prog.underlying S=some (.slice E)
 info:(Tryz.prog.info? E).map (fun i=>(i.zero,i.size,i.bytes))=some (some z,size,bytes)
 zero:z.cells.size=size
 pos:0<size
def OwnE (E:TypeId)(size:Nat)(w:World)(base:Nat)(A:Option Addr)(n c:Nat)(xs:List Value):Prop:=
 base≤w.heap.size∧w.ownsRow base E size (.slice A n c) n xs
variable {E : TypeId} {size : Nat}
theorem OwnE.nil (w:World)(base:Nat)(h:base≤w.heap.size):OwnE E size w base none 0 0 []:=⟨h,World.ownsRow_nil _ _ _ _⟩
theorem OwnE.len {w:World}{base:Nat}{A:Option Addr}{n c:Nat}{xs:List Value}(h:OwnE E size w base A n c xs):xs.length=n*size:=h.2.1
theorem OwnE.lt {w:World}{base:Nat}{A:Option Addr}{n c:Nat}{xs:List Value}(h:OwnE E size w base A n c xs): ∀k,(Value.slice A n c).ownBlock=some k→base≤k∧k<w.heap.size:=h.2.lt
theorem OwnE.kept {w w':World}{base B:Nat}{A:Option Addr}{n c:Nat}{xs:List Value}(h:OwnE E size w base A n c xs)(f:Below B w w')(l:w.heap.size≤B):OwnE E size w' base A n c xs:=by
 refine⟨Nat.le_trans h.1 f.size,h.2.1,?_⟩
 rcases h.2.2 with d|⟨g,a,b,d,i,e,j⟩
 ·exact .inl d
 ·refine .inr ⟨g,a,b,d,i,?_,j⟩
  have k:g<w.heap.size:=by
   rcases Nat.lt_or_ge g w.heap.size with h|h
   ·exact h
   ·rw[Array.getElem?_eq_none h]at e;cases e
  rw[f.block g (by omega)];exact e
theorem OwnE.alloc {w:World}{base:Nat}{A:Option Addr}{n c:Nat}{xs:List Value}(h:OwnE E size w base A n c xs)(o:Obj):OwnE E size (w.alloc o) base A n c xs:=h.kept ((Below.refl _ _).alloc (yR _) o) (yR _)
theorem OwnE.drew {w:World}{base:Nat}{A:Option Addr}{n c:Nat}{xs:List Value}(h:OwnE E size w base A n c xs):OwnE E size w.drew base A n c xs:=h
theorem OwnE.cell {w:World}{base:Nat}{A:Option Addr}{n c:Nat}{xs:List Value}(h:OwnE E size w base A n c xs){i:Nat}(f:i<xs.length):
 ∃g,A=some ⟨g,0,none⟩∧base≤g∧g<w.heap.size∧w.cell? ⟨g,i,none⟩=xs[i]? :=by
 obtain⟨o,a⟩:=h
 rcases a.2 with⟨p,k⟩|⟨g,j,l,m,b,e,_⟩
 ·have:=a.1;subst k;rw[Nat.zero_mul]at this;omega
 ·injection m with h1 h2 h3
  subst h1
  have d:g<w.heap.size:=by
   rcases Nat.lt_or_ge g w.heap.size with h|h
   ·exact h
   ·rw[Array.getElem?_eq_none h]at e;cases e
  refine⟨g,rfl,b,d,?_⟩
  have:=a.cells (g:=g) rfl i xs[i] (List.getElem?_eq_getElem f)
  rw[aAV,Nat.zero_add]at this
  rw[this,List.getElem?_eq_getElem f]
theorem aED {S:TypeId}{b:Nat}{z:Value}(o:Elt E S size b z)(w:World)(s:TypeId)(base:Nat)(A:Option Addr)(n c:Nat)(xs:List Value)(h:OwnE E size w base A n c xs)(r:Addr)(m v:Nat)(a:List Value)(G:a.length=m*size)
 (f: ∀j u,a[j]? =some u→w.cell? (r.add j)=some u)(H: ∀u∈a,u.oneCell'=true)(D:n+m≤4611686018427387904)(e:(n+m)*b≤140737488355328):
 ∃A' c' w',(Builtin.append_ #[S,S] s #[.slice A n c,.slice (some r) m v]).run Tryz.prog w= .ok (.slice A' (n+m) c') w'∧OwnE E size w' base A' (n+m) c' (xs++a)∧Below base w w':=by
 obtain⟨i,y,l⟩:=Option.map_eq_some_iff.1 o.info
 simp only[Prod.mk.injEq]at l
 obtain⟨F,hs,q⟩:=l
 obtain⟨J,w',t,p,I,_⟩:=run_append_own (P:=Tryz.prog) w base S s E i z size b o.under y F hs q o.zero o.pos _ n xs h.2 r m v a G f H (by unfold maxLen;omega) e h.1
 have d:=below_grown I h.1 (fun k hk=>(h.lt k hk).1)
 rcases p.2 with⟨rfl,x⟩|⟨g,B,C,rfl,_⟩
 ·rw[x]at p⊢
  exact⟨none,0,w',t,⟨Nat.le_trans h.1 d.size,p⟩,d⟩
 ·exact⟨_,_,w',t,⟨Nat.le_trans h.1 d.size,p⟩,d⟩
theorem aCM {S:TypeId}{d:Nat}{z:Value}(r:Elt E S size d z){w:World}{o:Oper}{a:Act}{K:Act→World→Prop}{Q:Exit→Act→World→Prop}(s x:Operand)
 (k:o.op= .call {callee:= .builtin .append,args:= #[s,x],argTypes:= #[S,S]})
 (base:Nat)(A:Option Addr)(n c:Nat)(xs:List Value)(hs:a.eval s= .slice A n c)(y:OwnE E size w base A n c xs)(p:Addr)(m q:Nat)(b:List Value)(B:a.eval x= .slice (some p) m q)(C:b.length=m*size)
 (f: ∀j u,b[j]? =some u→w.cell? (p.add j)=some u)(D: ∀u∈b,u.oneCell'=true)(l:n+m≤4611686018427387904)(e:(n+m)*d≤140737488355328)
 (h: ∀i g w',OwnE E size w' base i (n+m) g (xs++b)→Below base w w'→K (a.put o.dst (.slice i (n+m) g)) w'):o.wp Tryz.prog a w K Q:=by
 obtain⟨i,g,w',v,t,F⟩:=aED r w o.type base A n c xs y p m q b C f D l e
 unfold Oper.wp execOp
 simp only[k,resolve,invoke,builtin,Sem.run_bind,Sem.run_pure,Result.andThen_ok,List.map_toArray,List.map_cons,List.map_nil,hs,B,v]
 exact h i g w' t F
theorem aAT {S:TypeId}{d:Nat}{z:Value}(t:Elt E S size d z){w:World}{g:Array Oper}{rest:List Oper}{o:Oper}{a:Act}{Q:Exit→Act→World→Prop}(k:o.guard=none)(s x:Operand)
 (i:o.op= .call {callee:= .builtin .append,args:= #[s,x],argTypes:= #[S,S]})
 (base:Nat)(A:Option Addr)(n c:Nat)(xs:List Value)(hs:a.eval s= .slice A n c)(v:OwnE E size w base A n c xs)(q:Addr)(m r:Nat)(b:List Value)(y:a.eval x= .slice (some q) m r)(B:b.length=m*size)
 (f: ∀j u,b[j]? =some u→w.cell? (q.add j)=some u)(p: ∀u∈b,u.oneCell'=true)(l:n+m≤4611686018427387904)(e:(n+m)*d≤140737488355328)
 (h: ∀A' c' w',OwnE E size w' base A' (n+m) c' (xs++b)→Below base w w'→wpList Tryz.prog g Q rest (a.put o.dst (.slice A' (n+m) c')) w'):wpList Tryz.prog g Q (o::rest) a w:=
 wpList_plain k fun _ hK=>aCM t s x i base A n c xs hs v q m r b y B f p l e fun A' c' w' p h2=>hK _ _ (h A' c' w' p h2)
theorem aBT {S:TypeId}{d:Nat}{z:Value}(r:Elt E S size d z){w:World}{g:Array Oper}{o:Oper}{a:Act}{K:Act→World→Prop}{Q:Exit→Act→World→Prop}{F:Prop}(k:o.guard=none)(s x:Operand)
 (i:o.op= .call {callee:= .builtin .append,args:= #[s,x],argTypes:= #[S,S]})
 (base:Nat)(A:Option Addr)(n c:Nat)(xs:List Value)(hs:a.eval s= .slice A n c)(v:OwnE E size w base A n c xs)(p:Addr)(m q:Nat)(b:List Value)(y:a.eval x= .slice (some p) m q)(B:b.length=m*size)
 (f: ∀j u,b[j]? =some u→w.cell? (p.add j)=some u)(C: ∀u∈b,u.oneCell'=true)(l:n+m≤4611686018427387904)(e:(n+m)*d≤140737488355328)
 (h: ∀A' c' w',OwnE E size w' base A' (n+m) c' (xs++b)→Below base w w'→K (a.put o.dst (.slice A' (n+m) c')) w'):
 if Region.wanted o (yielded g a.tmps)=true then Oper.wp Tryz.prog o a w K Q else F:=by
 have t:Region.wanted o (yielded g a.tmps)=true:=by simp[Region.wanted,k]
 rw[if_pos t]
 exact aCM r s x i base A n c xs hs v p m q b y B f C l e h
theorem Blk.news {w:World}{g:Nat}{a:List Value}{T:TypeId}(h:Blk w g a T): ∀j u,a[j]? =some u→w.cell? ((⟨g,0,none⟩:Addr).add j)=some u:=fun j u hj=>by
 rw[aAV,Nat.zero_add];exact h.cell hj
def cutA (A:Option Addr)(cap lo:Nat):Option Addr:=if cap=lo then A else A.map (·.add lo)
theorem aCN (b a c d:Nat):cutA (some ⟨b,a,none⟩) c d=if c=d then some ⟨b,a,none⟩else some ⟨b,a+d,none⟩:=by
 unfold cutA
 split<;>simp[aAV]
theorem Bytes.cut {w:World}{A:Option Addr}{l:List Int}(h:Bytes w A l)(a c n:Nat)(d:l.length≤a):Bytes w (cutA A a c) ((l.drop c).take n):=by
 refine h.part c n _ fun b off e hn hlo=>?_
 subst e
 rw[aCN,if_neg (by omega)]
theorem aJB (t:TypeId)(A:Option Addr)(len a b c:Nat)(w:World)(hs:(sizeOf (Tryz.prog.elem t)).run Tryz.prog w= .ok 1 w)(d:Tryz.prog.underlying t=some (.slice (Tryz.prog.elem t)))(f:b≤c)(e:c≤a):
 (Instr.slice t (.slice A len a) (some (.int .i64 b)) (some (.int .i64 c)) none).run Tryz.prog w= .ok (.slice (cutA A a b) (c-b) (a-b)) w:=by
 rw[run_slice_lh w t A len a d .i64 .i64 b c (by omega) (by omega) (by omega),hs]
 simp[Result.andThen,sliced,cutA]
theorem aEY (t:TypeId)(A:Option Addr)(len a b:Nat)(w:World)(hs:(sizeOf (Tryz.prog.elem t)).run Tryz.prog w= .ok 1 w)(c:Tryz.prog.underlying t=some (.slice (Tryz.prog.elem t)))(d:b≤len):
 (Instr.slice t (.slice A len a) (some (.int .i64 b)) none none).run Tryz.prog w= .ok (.slice (cutA A a b) (len-b) (a-b)) w:=by
 rw[run_slice_l w t A len a c .i64 b (by omega) (by omega),hs]
 simp[Result.andThen,sliced,cutA]
theorem aDy:Tryz.prog.elem 24=5:=by kernel_rfl
theorem aDc (w:World):(sizeOf 5).run Tryz.prog w= .ok 1 w:=by
 obtain⟨i,b,a⟩:=Option.map_eq_some_iff.1 aJ3
 simp only[Prod.mk.injEq]at a
 simp[sizeOf,typeInfo,b,a]
theorem aP1 (A:Option Addr)(len a b c:Nat)(e:b≤c)(d:c≤a)(w:World):
 (Instr.slice 24 (.slice A len a) (some (.int .i64 b)) (some (.int .i64 c)) none).run Tryz.prog w= .ok (.slice (cutA A a b) (c-b) (a-b)) w:=
 aJB _ A len a b c w (by rw[aDy];exact aDc w) (by rw[aDy];exact Tryz.underlying24) e d
theorem aJC (A:Option Addr)(len a b:Nat)(c:b≤len)(w:World):
 (Instr.slice 24 (.slice A len a) (some (.int .i64 b)) none none).run Tryz.prog w= .ok (.slice (cutA A a b) (len-b) (a-b)) w:=
 aEY _ A len a b w (by rw[aDy];exact aDc w) (by rw[aDy];exact Tryz.underlying24) c
end OwnE
namespace OwnM
open Bytes8 Blk8 Own8
theorem aBs {w:World}{base n c:Nat}{A:Option Addr}{l:List Int}(h:Own w base A n c l):n≤c∧c≤maxLen:=by
 rcases h.2.2.2.2 with⟨a,i⟩|⟨g,d,f,a,_,_,e,b,_⟩
 ·injection a with e1 e2 e3;subst e3;exact⟨by omega,by decide⟩
 ·injection a with e1 e2 e3;subst e3;exact⟨e,b⟩
theorem aAl {w w':World}{b g:Nat}{c:List Value}{T:TypeId}(h:Blk w b c T)(d:w.grownBy w' (some g))(a:b≠g):Blk w' b c T:=
 (d.block b h.lt (by intro e;injection e with e;exact a e)).trans h
end OwnM
namespace Rows2
open Bytes8 Blk8
def InRows (w:World)(a:Option Addr)(len:Nat)(A:Nat→Option Addr)(L C:Nat→Nat)(P:Nat→List Int):Prop:=
 ∀r,r<len→ ∃b off,a=some ⟨b,off,none⟩∧b<w.heap.size∧w.cell? ⟨b,off+r,none⟩=some (.slice (A r) (L r) (C r))∧Bytes w (A r) (P r)∧(P r).length=L r∧L r≤C r∧C r≤maxLen
theorem InRows.below {w w':World}{a:Option Addr}{len:Nat}{A:Nat→Option Addr}{L C:Nat→Nat}{P:Nat→List Int}(h:InRows w a len A L C P)(d:Below w.heap.size w w'):InRows w' a len A L C P:=fun r hr=>by
 obtain⟨b,c,e,f,g,j,i⟩:=h r hr
 exact⟨b,c,e,yL f d.size,(d.cell (p:=⟨b,c+r,none⟩) f).trans g,j.below d (yR _),i⟩
def InInts (k:IntKind)(w:World)(a:Option Addr)(len:Nat)(f:Nat→Int):Prop:=
 ∀i,i<len→ ∃b off,a=some ⟨b,off,none⟩∧b<w.heap.size∧w.cell? ⟨b,off+i,none⟩=some (.int k (f i))∧(Lit.int k (f i)).wf=true
theorem InInts.below {k:IntKind}{w w':World}{a:Option Addr}{len:Nat}{f:Nat→Int}(h:InInts k w a len f)(d:Below w.heap.size w w'):InInts k w' a len f:=fun i hi=>by
 obtain⟨b,c,e,g,j,l⟩:=h i hi
 exact⟨b,c,e,yL g d.size,(d.cell (p:=⟨b,c+i,none⟩) g).trans j,l⟩
end Rows2
namespace Hb
open Blk8 Hm Ha
theorem aKY (x y z:Int)(w:World)(h:(⟨x,y,z⟩:Trio).ok):
 Calls Tryz.prog 160 #[.agg #[.int .u32 x,.int .u32 y,.int .u32 z]] w fun e w'=>e= .returned (trioV (mix ⟨x,y,z⟩))∧Below w.heap.size w w':=by
 obtain⟨⟨b,c⟩,⟨d,f⟩,⟨g,a⟩⟩:=h
 simp only at b c d f g a
 go_enter Tryz.func160,Tryz.ntmps160
 go_wp2
 go_quiet (fail)
 go_wp2_with(go_at_call 200;(with_reducible refine(aHo _ _ _ _ (by first|assumption|exact(aG6 _ _ _).1|omega) (by first|assumption|exact(aG6 _ _ _).2|omega) (by decide) (by decide)).mono ?_);rintro e w' ⟨rfl,rfl⟩)
 refine bodyPost_ret (v:=trioV (mix ⟨x,y,z⟩)) (by simp[results,Tryz.results160,go_sem,trioV,mix,mix1,mix2,mix3,mix4,mix5,mix6,add32]) rfl ⟨rfl,?_⟩
 repeat (first|exact Below.refl _ _|refine Below.setCell ?_ (by simp) _|refine Below.alloc ?_ (by simp) _|refine below_drewN ?_ _)
theorem aGx (x y z:Int)(w:World)(h:(⟨x,y,z⟩:Trio).ok):
 Calls Tryz.prog 161 #[.agg #[.int .u32 x,.int .u32 y,.int .u32 z]] w fun e w'=>e= .returned (trioV (fin ⟨x,y,z⟩))∧Below w.heap.size w w':=by
 obtain⟨⟨b,c⟩,⟨d,f⟩,⟨g,a⟩⟩:=h
 simp only at b c d f g a
 go_enter Tryz.func161,Tryz.ntmps161
 go_wp2
 go_quiet (fail)
 go_wp2_with(go_at_call 201;(with_reducible refine(aHp _ _ _ _ (by first|assumption|exact(aDP _ _ _).1|omega) (by first|assumption|exact(aDP _ _ _).2|omega) (by decide) (by decide)).mono ?_);rintro e w' ⟨rfl,rfl⟩)
 refine bodyPost_ret (v:=trioV (fin ⟨x,y,z⟩)) (by simp[results,Tryz.results161,go_sem,trioV,fin]) rfl ⟨rfl,?_⟩
 repeat (first|exact Below.refl _ _|refine Below.setCell ?_ (by simp) _|refine Below.alloc ?_ (by simp) _|refine below_drewN ?_ _)
end Hb
namespace He
open Bytes8 LeNum Hm
def part4 (l:List Int)(o k:Nat):Int:=leNum ((l.drop (o+k)).take (4-k))
theorem aNj (l:List Int)(o k:Nat)(h:AllB l):0≤part4 l o (k+1)∧part4 l o (k+1)≤16777215:=by
 have b:=aAK ((l.drop (o+(k+1))).take (4-(k+1))) ((h.drop _).take _)
 have a:((l.drop (o+(k+1))).take (4-(k+1))).length≤3:=by
  have:=List.length_take_le (4-(k+1)) (l.drop (o+(k+1)))
  omega
 unfold part4
 generalize (l.drop (o+(k+1))).take (4-(k+1))=m at*
 have:(256:Int)^m.length≤16777216:=by
  generalize m.length=j at a
  match j,a with
  |0,_|1,_|2,_|3,_=>decide
 omega
theorem aNk (l:List Int)(o k:Nat)(d:k<4)(h:o+k<l.length):part4 l o k=part4 l o (k+1)*256+l.getD (o+k) 0:=by
 unfold part4
 have b:l.drop (o+k)=l[o+k]::l.drop (o+k+1):=List.drop_eq_getElem_cons (by omega)
 have c:4-k=(4-(k+1))+1:=by omega
 rw[b,c,List.take_succ_cons,leNum,Nat.add_assoc]
 have a:l.getD (o+k) 0=l[o+k]:=by simp[List.getElem?_eq_getElem h]
 rw[a]
 simp
 omega
theorem aKZ (l:List Int)(o k:Nat)(h:l.length≤o+k):part4 l o k=part4 l o (k+1)*256:=by
 unfold part4
 rw[List.drop_of_length_le h,List.drop_of_length_le (by omega:l.length≤o+(k+1))]
 simp[leNum]
theorem or32 (v c:Int)(b:0≤v)(a:v≤16777215)(d:0≤c)(e:c<256):bits .or .u32 (v*256) c=v*256+c:=
 bits_join .u32 32 (by decide) (fun n b a=>by rw[IntKind.wrap_u32];omega) 8 (v*256) c (by omega) (by omega) (by omega) d (by omega) (by omega)
theorem aIG (A:Option Addr)(l:List Int)(len d o:Nat)(w:World)(f:Bytes w A l)(j:l.length=len)(m:len≤1000000)(z:o≤1000000):
 Calls Tryz.prog 169 #[.slice A len d,.int .i64 o] w fun e w'=>e= .returned (.int .u32 (w4 l o))∧w=w':=by
 have n:=yH f.1
 have q:=yH f.2
 have g:=yH j
 clear f j
 go_enter Tryz.func169,Tryz.ntmps169
 go_wp2
 go_loop [5,6] (fun v i=> ∃k:Nat,k≤4∧i= .int .i64 ((k:Int)-1)∧v= .int .u32 (part4 l o k)) (fun _ i=>(intOf i+1).toNat)
 case atStart=>exact⟨4,yR _,rfl,by simp[part4,leNum]⟩
 case round=>
  obtain⟨k,B,rfl,rfl⟩:=hrel
  cases k with
  |zero=>
   go_wp2
   go_ret
   exact⟨rfl,rfl⟩
  |succ k=>
   have e:((k+1:Nat):Int)-1=(k:Int):=by omega
   obtain⟨y,p⟩:=aNj l o k n.out
   obtain⟨x,s⟩:=n.out.at_ (o+k)
   rw[e]
   clear e
   by_cases a:o+k<len
   ·have h:=yH (aNk l o k (by omega) (by have:=g.out;omega))
    obtain⟨b,u,rfl,_,c⟩:=q.out (o+k) (by have:=g.out;omega)
    have t:=yH (or32 (part4 l o (k+1)) (l.getD (o+k) 0) y p x s)
    have r:decide (o+k<len)=true:=by simpa using a
    generalize part4 l o (k+1)=V at*
    generalize l.getD (o+k) 0=C at*
    go_wp2
    go_round
    case rel=>exact⟨k,by omega,by go_num,by rw[h.out,t.out]⟩
    case measure=>simp[intOf]
   ·have h:=yH (aKZ l o k (by have:=g.out;omega))
    have r:decide (o+k<len)=false:=by simpa using a
    generalize part4 l o (k+1)=V at*
    go_wp2
    go_round
    case rel=>exact⟨k,by omega,by go_num,by rw[h.out]⟩
    case measure=>simp[intOf]
theorem aK1 (l m:List Int):leNum (l++m)=leNum l+256^l.length*leNum m:=by
 induction l with
 |nil=>simp[leNum]
 |cons a r ih=>
  simp only[List.cons_append,leNum,ih,List.length_cons,Int.pow_succ]
  rw[Int.mul_add,←Int.mul_assoc,Int.mul_comm 256 (256^r.length)]
  omega
theorem aNl (l:List Int)(o:Nat):w8 l o=w4 l o+w4 l (o+4)*4294967296:=by
 unfold w8 w4
 have e:(l.drop o).take 8=(l.drop o).take 4++(l.drop (o+4)).take 4:=by
  rw[show(8:Nat)=4+4 from rfl,List.take_add,List.drop_drop]
 rw[e,aK1]
 by_cases h:o+4≤l.length
 ·rw[show((l.drop o).take 4).length=4 by simp;omega]
  omega
 ·rw[List.drop_of_length_le (by omega:l.length≤o+4)]
  simp[leNum]
theorem or64 (a b:Int)(c:0≤a)(f:a≤4294967295)(b0:0≤b)(g:b≤4294967295):bits .or .u64 a (b*4294967296)=a+b*4294967296:=by
 have h:=bits_join .u64 64 (by decide) (fun n h0 h1=>by rw[IntKind.wrap_u64];omega) 32 (b*4294967296) a (by omega) (by omega) (by omega) c (by omega) (by omega)
 have e:bits .or .u64 a (b*4294967296)=bits .or .u64 (b*4294967296) a:=by
  obtain⟨x,rfl⟩:=Int.eq_ofNat_of_zero_le c
  obtain⟨y,d⟩:=Int.eq_ofNat_of_zero_le (show 0≤b*4294967296 by omega)
  rw[d,LeNum.bits_or_u64_nat x y (by omega) (by omega),LeNum.bits_or_u64_nat y x (by omega) (by omega),Nat.or_comm]
 rw[e,h];omega
theorem aK2 (A:Option Addr)(l:List Int)(len a o:Nat)(i:Int)(c:i=o)(w:World)(d:Bytes w A l)(f:l.length=len)(b:len≤1000000)(g:o≤1000000):
 Calls Tryz.prog 169 #[.slice A len a,.int .i64 i] w fun e w'=>e= .returned (.int .u32 (w4 l o))∧w=w':=by
 subst c;exact aIG A l len a o w d f b g
end He
namespace He
open Bytes8 Hm
theorem aGy (A:Option Addr)(l:List Int)(len b o:Nat)(w:World)(c:Bytes w A l)(d:l.length=len)(a:len≤1000000)(m:o≤900000):
 Calls Tryz.prog 167 #[.slice A len b,.int .i64 o] w fun e w'=>e= .returned (.int .u64 (w8 l o))∧w=w':=by
 obtain⟨i,j⟩:=aFW l o c.1
 obtain⟨b0,h⟩:=aFW l (o+4) c.1
 have k:=yH ((or64 _ _ i j b0 h).trans (aNl l o).symm)
 have g:=yH (aIG A l len b o w c d a (by omega))
 have f:=yH (aK2 A l len b (o+4) ((o:Int)+4) (by omega) w c d a (by omega))
 clear c d
 generalize w4 l o=V at*
 generalize w4 l (o+4)=U at*
 go_enter Tryz.func167,Tryz.ntmps167
 go_wp2_with(first|(go_at_call 169;(with_reducible refine g.out.mono ?_);rintro e w' ⟨rfl,rfl⟩)|(go_at_call 169;(with_reducible refine f.out.mono ?_);rintro e w' ⟨rfl,rfl⟩))
 go_ret
 exact⟨aCa k.out,rfl⟩
end He
namespace Hf
open Bytes8 Hm Ha He
set_option maxRecDepth 100000 in
theorem aK3 (A:Option Addr)(a:Nat)(w:World):
 Calls Tryz.prog 135 #[.slice A 0 a] w fun e w'=>e= .returned (.int .u64 (lookS []))∧w=w':=by
 go_enter Tryz.func135,Tryz.ntmps135
 go_wp2
 go_ret
 exact⟨aCa (by decide+kernel),rfl⟩
theorem wn (l:List Int)(A:Option Addr)(len a o:Nat)(i:Int)(c:i=o)(w:World)(h:Hid (Bytes w A l∧l.length=len))(b:len≤1000000)(d:o≤1000000):
 Calls Tryz.prog 169 #[.slice A len a,.int .i64 i] w fun e w'=>e= .returned (.int .u32 (w4 l o))∧w=w':=aK2 A l len a o i c w h.out.1 h.out.2 b d
set_option maxRecDepth 100000 in
theorem aK4 (A:Option Addr)(l:List Int)(len a:Nat)(w:World)(j:Bytes w A l)(p:l.length=len)(b:0<len)(s:len≤900000):
 Calls Tryz.prog 135 #[.slice A len a] w fun e w'=>e= .returned (.int .u64 (lookS l))∧w=w':=by
 have m:=yH j.1
 have n:=yH (show lookInit l=⟨3735928559+(len:Int),3735928559+(len:Int),3735928559+(len:Int)⟩by
  have e:add32 3735928559 (l.length:Int)=3735928559+(len:Int):=by unfold add32;omega
  unfold lookInit;rw[e])
 have d:=yH (And.intro j p)
 have L:((len:Int)==0)=false:=by simp;omega
 clear j p
 go_enter Tryz.func135,Tryz.ntmps135
 go_wp2
 go_loop [3,4,5,6] (fun x y z i=> ∃k o:Nat,Hid (o=12*k)∧o<len∧i= .int .i64 o∧x= .int .u32 (trioAt l k).x∧y= .int .u32 (trioAt l k).y∧z= .int .u32 (trioAt l k).z) (fun _ _ _ i=>len-(intOf i).toNat)
 case atStart=>exact⟨0,0,yH rfl,b,rfl,by show _=Value.int .u32 (lookInit l).x;rw[n.out],by show _=Value.int .u32 (lookInit l).y;rw[n.out],by show _=Value.int .u32 (lookInit l).z;rw[n.out]⟩
 case round=>
  obtain⟨k,o,g,C,rfl,rfl,rfl,rfl⟩:=hrel
  have J:=yH (aDQ l k)
  have t:=yH (wn l A len a o o rfl w d (by omega) (by omega))
  have q:=yH (wn l A len a (o+4) ((o:Int)+4) (by omega) w d (by omega) (by omega))
  have r:=yH (wn l A len a (o+8) ((o:Int)+8) (by omega) w d (by omega) (by omega))
  have f:=yH (show trioAt l (k+1)=mix (plus3 (trioAt l k) l o)by rw[g.out];rfl)
  have I:=yH (show ¬12<len-o→lookS l=ans (fin (plus3 (trioAt l k) l o))from fun c=>by
   have F:(l.length-1)/12=k:=by rw[d.out.2];have:=g.out;omega
   unfold lookS
   rw[if_neg (by intro h;have:=d.out.2;rw[h]at this;simp at this;omega),F,g.out])
  generalize trioAt l k=T at*
  obtain⟨x,y,z⟩:=T
  obtain⟨⟨D,E⟩,⟨G,H⟩,⟨M,B⟩⟩:=J.out
  simp only at D E G H M B
  obtain⟨X,N⟩:=aFW l o m.out
  obtain⟨b0,R⟩:=aFW l (o+4) m.out
  obtain⟨Y,V⟩:=aFW l (o+8) m.out
  by_cases c:12<len-o
  ·have v:decide ((12:Int)<(len:Int)-(o:Int))=true:=by simp;omega
   go_wp2_with(first|(go_at_call 169;(with_reducible refine t.out.mono ?_);rintro e w' ⟨rfl,rfl⟩)|(go_at_call 169;(with_reducible refine q.out.mono ?_);rintro e w' ⟨rfl,rfl⟩)|(go_at_call 169;(with_reducible refine r.out.mono ?_);rintro e w' ⟨rfl,rfl⟩)|(go_at_call 170;(with_reducible refine(aIo _ _ _ (by first|assumption|exact(b32 _ _ _).1|omega) (by first|assumption|exact(b32 _ _ _).2|omega) (by decide) (by decide)).mono ?_);rintro e w' ⟨rfl,rfl⟩))
   go_round
   case rel=>
    refine⟨k+1,o+12,yH (by have:=g.out;omega),by omega,by go_num,?_,?_,?_⟩
    ·rw[f.out];simp[mix,mix1,mix2,mix3,mix4,mix5,mix6,plus3,stir,add32]
    ·rw[f.out];simp[mix,mix1,mix2,mix3,mix4,mix5,mix6,plus3,stir,add32]
    ·rw[f.out];simp[mix,mix1,mix2,mix3,mix4,mix5,mix6,plus3,stir,add32]
   case measure=>simp[intOf];omega
  ·have v:decide ((12:Int)<(len:Int)-(o:Int))=false:=by simp;omega
   have u:=yH (I.out c)
   clear f
   go_wp2_with(first|(go_at_call 169;(with_reducible refine t.out.mono ?_);rintro e w' ⟨rfl,rfl⟩)|(go_at_call 169;(with_reducible refine q.out.mono ?_);rintro e w' ⟨rfl,rfl⟩)|(go_at_call 169;(with_reducible refine r.out.mono ?_);rintro e w' ⟨rfl,rfl⟩)|(go_at_call 170;(with_reducible refine(aIo _ _ _ (by first|assumption|exact(b32 _ _ _).1|omega) (by first|assumption|exact(b32 _ _ _).2|omega) (by decide) (by decide)).mono ?_);rintro e w' ⟨rfl,rfl⟩))
   go_ret
   refine⟨aCa ?_,rfl⟩
   rw[u.out]
   simp[ans,fin,plus3,setl,add32]
end Hf
namespace RefA
open Bytes8 LeA LeNum LeP
theorem aK5 (l:List Int)(a n k:Nat)(e:k<n)(h:a+n≤l.length):
 leNum ((l.drop (a+(k+1))).take (n-(k+1)))*256+l.getD (a+k) 0=leNum ((l.drop (a+k)).take (n-k)):=by
 have c:l.drop (a+k)=l[a+k]::l.drop (a+k+1):=List.drop_eq_getElem_cons (by omega)
 have d:n-k=(n-(k+1))+1:=by omega
 rw[c,d,List.take_succ_cons,leNum,Nat.add_assoc]
 have b:l.getD (a+k) 0=l[a+k]:=by simp[List.getElem?_eq_getElem (show a+k<l.length by omega)]
 rw[b]
 omega
theorem aJD (l:List Int)(a n k:Nat)(f:k<n)(g:n≤8)(c:AllB l):
 0≤leNum ((l.drop (a+(k+1))).take (n-(k+1)))∧leNum ((l.drop (a+(k+1))).take (n-(k+1)))≤72057594037927935:=by
 have h:=aAK ((l.drop (a+(k+1))).take (n-(k+1))) ((c.drop _).take _)
 have b:((l.drop (a+(k+1))).take (n-(k+1))).length≤7:=by
  have:=List.length_take_le (n-(k+1)) (l.drop (a+(k+1)))
  omega
 have d:(256:Int)^((l.drop (a+(k+1))).take (n-(k+1))).length≤256^7:=by
  generalize ((l.drop (a+(k+1))).take (n-(k+1))).length=m at b
  match m,b with
  |0,_|1,_|2,_|3,_|4,_|5,_|6,_|7,_=>decide
 have e:(256:Int)^7=72057594037927936:=rfl
 omega
theorem aIH (a:Option Addr)(l:List Int)(j:Nat)(c n:Nat)(w:World)(J:l.length≤9223372036854775807)(f:fits l.length c n=true)(d:Bytes w a l):
 Calls Tryz.prog 133 #[.slice a l.length j,.int .i64 c,.int .i64 n] w fun e w'=>e= .returned (.tuple #[.int .u64 (leNum ((l.drop c).take n)),.bool true])∧w=w':=by
 obtain⟨M,G,R,B⟩:=aJo f
 have u:n=1∨n=2∨n=4∨n=8:=by simp[fits,isW]at f;omega
 obtain⟨b,y,rfl,t,p⟩:=d.spot (by omega)
 have q:=yH d.1
 have x:=yH p
 have D:c+n≤l.length:=by omega
 generalize m:l.length=len at*
 have s:=yH m
 clear m d p f
 obtain⟨N,g⟩: ∃N,Hid (N=n):=⟨_,rfl⟩
 rcases u with rfl|rfl|rfl|rfl
 all_goals
  go_enter Tryz.func133,Tryz.ntmps133
  go_wp2
  go_loop [8,9] (fun v i=> ∃k:Nat,k≤N∧i= .int .i64 ((k:Int)-1)∧v= .int .u64 (leNum ((l.drop (c+k)).take (N-k)))) (fun _ i=>(intOf i+1).toNat)
  case atStart=>exact⟨N,yR _,by rw[g.out];rfl,by rw[Nat.sub_self];rfl⟩
  case round=>
   obtain⟨k,L,rfl,rfl⟩:=hrel
   have o:=g.out
   cases k with
   |zero=>
    clear o
    go_wp2
    go_ret2
    exact⟨aFU (by rw[g.out]),rfl⟩
   |succ k=>
    have e:((k+1:Nat):Int)-1=(k:Int):=by omega
    have z:k<8:=by omega
    have h:=x.out (c+k) (by omega)
    obtain⟨I,H⟩:=q.out.at_ (c+k)
    obtain⟨F,E⟩:=aJD l c N k (by omega) (by omega) q.out
    have A:=yH (aK5 l c N k (by omega) (by have:=s.out;omega))
    have r:c+k<len:=by omega
    rw[e]
    generalize leNum ((l.drop (c+(k+1))).take (N-(k+1)))=V at*
    generalize l.getD (c+k) 0=C at*
    clear o e
    go_wp2
    go_round
    case rel=>exact⟨k,by omega,by go_num,by rw[←A.out]⟩
    case measure=>simp[intOf]
end RefA
namespace Hc
open Bytes8 Blk8 LeNum LeB Hm Ha
theorem size8:(Tryz.prog.info? 5).map (·.size)=some 1:=by kernel_rfl
theorem spliced (l:List Int)(n:Nat)(h:l.length≤n):splice ((List.replicate n (0:Int)).map (Value.int .u8)) 0 (l.map (Value.int .u8))=(l++List.replicate (n-l.length) 0).map (Value.int .u8):=by
 simp[splice]
theorem aNm (l:List Int)(o m n:Nat):leNum (((l++List.replicate m 0).drop o).take n)=leNum ((l.drop o).take n):=by
 rw[List.drop_append,List.take_append]
 by_cases h:o≤l.length
 ·rw[show o-l.length=0 by omega,List.drop_zero,List.take_replicate]
  exact aDR _ _
 ·rw[List.drop_of_length_le (by omega:l.length≤o),List.drop_replicate,List.take_replicate]
  exact aDR _ _
theorem aOZ (A:Option Addr)(m:List Int)(v:Int)(w:World)(b:Bytes w A m)(a:m.length=12)(c:leNum ((m.drop 0).take 4)=v):
 Calls Tryz.prog 55 #[.slice A 12 12,.int .i64 0,.int .i64 4] w fun e w'=>e= .returned (.tuple #[.int .u64 v,.bool true])∧w=w':=by
 have h:=aCZ A m 12 0 4 w (by omega) (by rw[a];decide) b (by decide) (by decide) (by omega)
 rw[a,c]at h;exact h
theorem aO0 (A:Option Addr)(m:List Int)(v:Int)(w:World)(b:Bytes w A m)(a:m.length=12)(c:leNum ((m.drop 4).take 4)=v):
 Calls Tryz.prog 55 #[.slice A 12 12,.int .i64 4,.int .i64 4] w fun e w'=>e= .returned (.tuple #[.int .u64 v,.bool true])∧w=w':=by
 have h:=aCZ A m 12 4 4 w (by omega) (by rw[a];decide) b (by decide) (by decide) (by omega)
 rw[a,c]at h;exact h
theorem aO1 (A:Option Addr)(m:List Int)(v:Int)(w:World)(b:Bytes w A m)(a:m.length=12)(c:leNum ((m.drop 8).take 4)=v):
 Calls Tryz.prog 55 #[.slice A 12 12,.int .i64 8,.int .i64 4] w fun e w'=>e= .returned (.tuple #[.int .u64 v,.bool true])∧w=w':=by
 have h:=aCZ A m 12 8 4 w (by omega) (by rw[a];decide) b (by decide) (by decide) (by omega)
 rw[a,c]at h;exact h
theorem aEi (l:List Int)(o m:Nat):leNum (((l++List.replicate m 0).drop o).take 4)=w4 l o:=aNm l o m 4
theorem aII (x y z:Int)(a:Option Addr)(l:List Int)(len q:Nat)(w:World)(k:Bytes w a l)(u:l.length=len)(d:len≤12)(N:(⟨x,y,z⟩:Trio).ok):
 Calls Tryz.prog 159 #[.agg #[.int .u32 x,.int .u32 y,.int .u32 z],.slice a len q] w fun e w'=>e= .returned (trioV (plus3 ⟨x,y,z⟩ l 0))∧Below w.heap.size w w':=by
 subst u
 have Z:=yH k.source
 have i:=k.1
 have s:=spliced l 12 d
 obtain⟨p0,q0⟩:=aFW l 0 i
 obtain⟨p4,q4⟩:=aFW l 4 i
 obtain⟨p8,q8⟩:=aFW l 8 i
 have t:=yH s
 have F:=yH (i.app (AllB.zeros (12-l.length)))
 have n:=yH (show(l++List.replicate (12-l.length) (0:Int)).length=12 by simp;omega)
 have I:=yH (aEi l 0 (12-l.length))
 have L:=yH (aEi l 4 (12-l.length))
 have J:=yH (aEi l 8 (12-l.length))
 generalize l++List.replicate (12-l.length) (0:Int)=m at*
 obtain⟨⟨D,E⟩,⟨G,H⟩,⟨z0,B⟩⟩:=N
 simp only at D E G H z0 B
 clear s i k
 go_enter Tryz.func159,Tryz.ntmps159
 go_wp2_with(refine wpList_copy_splice rfl (.tmp 12) (.tmp 13) 24 24 rfl 5 Tryz.underlying24 size8 _ _ _ _ _ _ rfl rfl (w.heap.size+1+1) 0 _ 322 (Blk.new_at _ ((List.replicate 12 (0:Int)).map (Value.int .u8)) _ _ (by simp)) (l.map (Value.int .u8)) ?hn ?hpos ?hfit ?h1 (w.heap.size+1+1) _ (Below.refl _ _) (yR _) ?_;rotate_right;intro w3 c b)
 case hn=>simpa using(Nat.min_eq_left d).symm
 case hpos=>
  intro X
  obtain⟨Y,e,h⟩:=Z.out _ ((((Below.refl _ _).alloc (yR _) _).alloc (by simp) _).alloc (by simp;omega) _) (by simpa using X)
  refine⟨Y,e,fun j v r=>?_⟩
  exact h j v r
 case hfit=>simp;omega
 case h1=>intro v r;obtain⟨x,_,rfl⟩:=List.mem_map.1 r;rfl
 rw[t.out]at c
 have g:Bytes w3 (some ⟨w.heap.size+1+1,0,none⟩) m:=Blk.bytes c.out F.out
 have f:=yH g
 have c0:w3.cell? ⟨w.heap.size,0,none⟩=some (.int .u32 x):=(b.cell (p:=⟨w.heap.size,0,none⟩) (by simp;omega)).trans (by go_simp)
 have c1:w3.cell? ⟨w.heap.size,1,none⟩=some (.int .u32 y):=(b.cell (p:=⟨w.heap.size,1,none⟩) (by simp;omega)).trans (by go_simp)
 have c2:w3.cell? ⟨w.heap.size,2,none⟩=some (.int .u32 z):=(b.cell (p:=⟨w.heap.size,2,none⟩) (by simp;omega)).trans (by go_simp)
 have A:w3.cell? ⟨w.heap.size+1,0,none⟩=some (.int .u32 0):=(b.cell (p:=⟨w.heap.size+1,0,none⟩) (by simp)).trans (by go_simp)
 have f0:w3.frozen? ⟨w.heap.size+1,0,none⟩=false:=(b.frozen (p:=⟨w.heap.size+1,0,none⟩) (by simp)).trans (by go_simp)
 have C:w3.cell? ⟨w.heap.size+1,1,none⟩=some (.int .u32 0):=(b.cell (p:=⟨w.heap.size+1,1,none⟩) (by simp)).trans (by go_simp)
 have f1:w3.frozen? ⟨w.heap.size+1,1,none⟩=false:=(b.frozen (p:=⟨w.heap.size+1,1,none⟩) (by simp)).trans (by go_simp)
 have M:w3.cell? ⟨w.heap.size+1,2,none⟩=some (.int .u32 0):=(b.cell (p:=⟨w.heap.size+1,2,none⟩) (by simp)).trans (by go_simp)
 have f2:w3.frozen? ⟨w.heap.size+1,2,none⟩=false:=(b.frozen (p:=⟨w.heap.size+1,2,none⟩) (by simp)).trans (by go_simp)
 have R:=b.size
 simp at R
 have V:=yH b
 clear c g b
 go_wp2_with(first|(go_at_call 55;(with_reducible refine(aOZ _ _ (w4 l 0) _ f.out n.out I.out).mono ?_);rintro e w' ⟨rfl,rfl⟩)|(go_at_call 55;(with_reducible refine(aO0 _ _ (w4 l 4) _ f.out n.out L.out).mono ?_);rintro e w' ⟨rfl,rfl⟩)|(go_at_call 55;(with_reducible refine(aO1 _ _ (w4 l 8) _ f.out n.out J.out).mono ?_);rintro e w' ⟨rfl,rfl⟩))
 refine bodyPost_ret (v:=trioV (plus3 ⟨x,y,z⟩ l 0)) (by simp[results,Tryz.results159,go_sem,trioV,plus3,add32,A,C,M]) rfl ⟨rfl,?_⟩
 have o:Below w.heap.size w w3:=((((Below.refl _ _).alloc (yR _) _).alloc (by simp) _).alloc (by simp;omega) _).trans (V.out.mono (by omega))
 repeat (first|exact o|refine Below.setCell ?_ (by simp) _|refine Below.alloc ?_ (by simp) _|refine below_drewN ?_ _)
end Hc
namespace RefB
open Bytes8 Blk8 Own8 LeNum
theorem aGz (v:Int)(k:Nat):v/256^k/256=v/256^(k+1):=by
 rw[Int.pow_succ,Int.ediv_ediv_of_nonneg (Int.le_of_lt (Int.pow_pos (by decide)))]
theorem aK6 (v:Int)(k:Nat)(a:0≤v)(c:v≤18446744073709551615):0≤v/256^k∧v/256^k≤18446744073709551615:=by
 have e:(0:Int)<256^k:=Int.pow_pos (by decide)
 have b:0≤v/256^k:=Int.ediv_nonneg a (by omega)
 have d:v/256^k≤v:=Int.ediv_le_self _ a
 omega
theorem one_byte (x:Int):AllB [x%256]:=by
 intro y a
 simp at a
 omega
theorem aNn (v:Int)(n:Nat)(w:World)(j:0≤v)(q:v≤18446744073709551615)(t:n≤8):
 Calls Tryz.prog 123 #[.int .u64 v,.int .i64 n] w fun e w'=> ∃A c,e= .returned (.slice A n c)∧Own w' w.heap.size A n c (lowB v n)∧Below w.heap.size w w':=by
 go_enter Tryz.func123,Tryz.ntmps123
 go_wp2
 go_loopw [0,5,6] (fun x s i wr=> ∃(k:Nat) (A:Option Addr) (c:Nat),k≤n∧i= .int .i64 k∧x= .int .u64 (v/256^k)∧s= .slice A k c∧Own wr w.heap.size A k c (lowB v k)∧Below w.heap.size w wr) (fun _ _ i _=>n-(intOf i).toNat)
 case atStart=>exact⟨0,none,0,Nat.zero_le _,rfl,by simp,rfl,Own.nil w _ (yR _),Below.refl _ _⟩
 case round=>
  obtain⟨k,A,c,z,rfl,rfl,rfl,g,a⟩:=hrel
  by_cases o:k<n
  ·obtain⟨u,y⟩:=aK6 v k j q
   have m:=yH g
   have h:=yH (aGz v k)
   have r:=yH (aDL v k)
   clear g
   generalize v/256^k=x at*
   go_wp2_with(at_builtin;refine aAd rfl (.tmp 12) (.tmp 16) rfl w.heap.size A k c (lowB v k) rfl (m.out.kept ((Below.refl _ _).alloc (yR _) _) (yR _)) (some ⟨wr.heap.size,0,none⟩) 1 1 [x%256] rfl (Row.bytes (Row.new wr [x%256]) (one_byte x)) rfl (by omega) ?_;intro l p w2 d b;have f:=yH d;clear d)
   go_roundw
   case rel=>exact⟨k+1,l,p,by omega,by go_num,by rw[h.out],rfl,by rw[r.out];exact f.out,(a.alloc a.size _).trans b⟩
   case measure=>simp[intOf];omega
  ·obtain rfl:k=n:=by omega
   go_wp2
   go_ret
   exact⟨A,c,rfl,g,a⟩
theorem aFC (v:Int)(n:Nat)(m:Int)(w:World)(a:0≤v)(f:v≤18446744073709551615)(d:n≤8)(b:m=n):
 Calls Tryz.prog 123 #[.int .u64 v,.int .i64 m] w fun e w'=> ∃A c,e= .returned (.slice A n c)∧Own w' w.heap.size A n c (lowB v n)∧Below w.heap.size w w':=by
 subst b;exact aNn v n w a f d
end RefB
namespace Oc
open Bytes8 Blk8 Own8 OwnE LeA LeNum LeB RefA RefB Ob
theorem aO2 {w:World}{base g n:Nat}{l:List Int}(h:Row w g l)(e:AllB l)(b:base≤g)(a:l.length=n)(d:n≤maxLen):Own w base (some ⟨g,0,none⟩) n n l:=by
 have c:=h.lt
 refine⟨e,a,by omega,by simpa using a,.inr ⟨g,n,_,rfl,b,h,yR _,d,by simpa using a,?_⟩⟩
 rw[List.take_of_length_le (by simp;omega)]
abbrev NumsAt (w:World)(g:Nat)(l:List Int)(T:TypeId):Prop:=Blk w g (l.map (Value.int .u64)) T
theorem aJE (k:Int)(w:World):
 Calls Tryz.prog 56 #[.int .i64 k] w fun e w'=>e= .returned (.bool (decide (1≤k)&&decide (k≤7)))∧w=w':=by
 by_cases h:1≤k
 ·go_enter Tryz.func56,Tryz.ntmps56
  go_wp2
  go_ret
  exact⟨aAC (by rw[decide_eq_true h,Bool.true_and]),rfl⟩
 ·go_enter Tryz.func56,Tryz.ntmps56
  go_wp2
  go_ret
  exact⟨aAC (by rw[decide_eq_false (by omega: ¬1≤k),Bool.false_and]),rfl⟩
theorem aEj (g n u:Nat)(l:List Int)(T:TypeId)(w:World)(q:NumsAt w g l T)(J:I64 l)(G:l.length=n)(H:n≤1000):
 Calls Tryz.prog 124 #[.slice (some ⟨g,0,none⟩) n u] w fun e w'=> ∃A c,e= .returned (.slice A (8*n) c)∧Own w' w.heap.size A (8*n) c (nums l)∧Below w.heap.size w w':=by
 have r:=q.lt
 have X:=yH fun(wr:World) (h:Below w.heap.size w wr) (k:Nat) (I:k<n)=>(q.below h r).cell (i:=k) (v:= .int .u64 (l.getD k 0)) (by
  have:k<l.length:=by omega
  simp[List.getElem?_eq_getElem this])
 have F:=yH G
 have V:=yH fun k (I:k<n)=>J (l.getD k 0) (by
  have:k<l.length:=by omega
  simp[List.getElem?_eq_getElem this])
 clear q J G
 go_enter Tryz.func124,Tryz.ntmps124
 go_wp2
 go_loopw [3,4] (fun s i wr=> ∃(k:Nat) (A:Option Addr) (c:Nat),k≤n∧i= .int .i64 (k:Int)∧s= .slice A (8*k) c∧Hid (Own wr w.heap.size A (8*k) c (nums (l.take k)))∧Hid (Below w.heap.size w wr)) (fun _ i _=>n-(intOf i).toNat)
 case atStart=>exact⟨0,none,0,Nat.zero_le _,rfl,rfl,Own.nil w _ (yR _),Below.refl _ _⟩
 case round=>
  obtain⟨k,A,c,I,rfl,rfl,B,a⟩:=hrel
  by_cases b:k<n
  ·have t:=X.out wr a.out k b
   obtain⟨M,N⟩:=V.out k b
   have R:=yH (aKy l k (by rw[F.out];exact b))
   have D:=a.out.size
   generalize l.getD k 0=x at*
   have C:=yH fun(W:World)=>aFC x 8 8 W M N (by decide) rfl
   go_wp2_with(first|(go_at_call 123;(with_reducible refine(C.out _).mono ?_);rintro e w2 ⟨Y,c2,rfl,m,d⟩;have p:=yH m;have j:=yH d;clear m d)|(at_builtin;refine aAd rfl (.tmp 11) (.tmp 16) rfl w.heap.size A (8*k) c (nums (l.take k)) rfl (B.out.kept j.out (yR _)) Y 8 c2 _ rfl p.out.bytes (aAj _ _) (by omega) ?_;intro L Z w3 o f;have z:=yH o;have y:=yH f;clear o f))
   go_roundw
   case rel=>
    refine⟨k+1,L,Z,by omega,by go_num,rfl,?_,yH ((a.out.trans (j.out.mono D)).trans y.out)⟩
    rw[R.out]
    exact z
   case measure=>simp[intOf];omega
  ·obtain rfl:k=n:=by omega
   have E:l.take k=l:=List.take_of_length_le (by rw[F.out];exact yR _)
   rw[E]at B
   clear E
   go_wp2
   go_ret
   exact⟨A,c,rfl,B.out,a.out⟩
theorem aP2 (len i:Nat)(h:i+8≤len):fits len (i:Int) ((8:Nat):Int)=true:=by
 simp[fits,isW];omega
theorem get8 (a:Option Addr)(l:List Int)(n b i:Nat)(z:Int)(w:World)(c:z=(i:Int))(f:l.length=n)(h:n≤1000000)(d:Bytes w a l)(g:i+8≤n):
 Calls Tryz.prog 55 #[.slice a n b,.int .i64 z,.int .i64 8] w fun e w'=>e= .returned (.tuple #[.int .u64 (u8 l i),.bool true])∧w=w':=by
 subst c f
 exact aCZ a l b i 8 w (by omega) (aP2 _ _ (by omega)) d (by decide) (by decide) (by omega)
theorem aP3 (a:Option Addr)(l:List Int)(n b i:Nat)(z:Int)(w:World)(c:z=(i:Int))(f:l.length=n)(h:n≤1000000)(d:Bytes w a l)(g:i+8≤n):
 Calls Tryz.prog 133 #[.slice a n b,.int .i64 z,.int .i64 8] w fun e w'=>e= .returned (.tuple #[.int .u64 (u8 l i),.bool true])∧w=w':=by
 subst c f
 exact aIH a l b i 8 w (by omega) (aP2 _ _ (by omega)) d
theorem aIJ (A:Option Addr)(l:List Int)(n a i:Nat)(w:World)(b:Bytes w A l)(c:l.length=n)(f:n≤1000000)(d:i+8≤n):
 Calls Tryz.prog 94 #[.slice A n a,.int .u64 (i:Int)] w fun e w'=>e= .returned (.int .u64 (u8 l i))∧w=w':=by
 have g:=yH fun(z:Int) (hz:z=(i:Int))=>aP3 A l n a i z w hz c f b d
 generalize u8 l i=x at*
 clear b c
 go_enter Tryz.func94,Tryz.ntmps94
 go_wp2_with(go_at_call 133;(with_reducible refine(g.out _ (by omega)).mono ?_);rintro e w' ⟨rfl,rfl⟩)
 go_ret
 exact⟨rfl,rfl⟩
end Oc
namespace Od
open Own8
def Owned (m:List Int)(n:Nat)(w:World)(e:Ending)(w':World):Prop:= ∃A c,e= .returned (.slice A n c)∧Own w' w.heap.size A n c m∧Below w.heap.size w w'
theorem Own.base {w:World}{b b2 n c:Nat}{A:Option Addr}{l:List Int}(h:Own w b A n c l)(f:b2≤b):Own w b2 A n c l:=by
 obtain⟨o,i,q,j,k⟩:=h
 refine⟨o,i,Nat.le_trans f q,j,?_⟩
 rcases k with h|⟨g,a,d,e,p,m⟩
 ·exact .inl h
 ·exact .inr ⟨g,a,d,e,Nat.le_trans f p,m⟩
end Od
end Go.Proofs.YtlelnfokffflnaaGreat
