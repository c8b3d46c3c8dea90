/-
  Texts beneath.
-/
import Derived.Test.YteaikbodkgjkdaaGreatQl2
set_option linter.unusedVariables false
set_option linter.unusedSimpArgs false
set_option maxRecDepth 100000
set_option maxHeartbeats 4000000
open Go.ChangeShapes Go.WideShapes Go.ChangeAt Go.RowKit
namespace Go.Proofs.YteaikbodkgjkdaaGreat
namespace OwnE
open Bytes8 Blk8 Own8
structure Elt (E S:TypeId)(size bytes:Nat)(z:Value):Prop where
 under:Tryz.prog.underlying S=some (.slice E)
 info:(Tryz.prog.info? E).map (fun i=>(i.zero,i.size,i.bytes))=some (some z,size,bytes)
 zero:z.cells.size=size
 pos:0<size
def OwnE (E:TypeId)(size:Nat)(w:World)(base:Nat)(A:Option Addr)(n c:Nat)(xs:List Value):Prop:=
 base≤w.heap.size∧w.ownsRow base E size (.slice A n c) n xs
variable {E : TypeId} {size : Nat}
theorem OwnE.nil (w:World)(base:Nat)(h:base≤w.heap.size):OwnE E size w base none 0 0 []:=⟨h,World.ownsRow_nil _ _ _ _⟩
theorem OwnE.len {w:World}{base:Nat}{A:Option Addr}{n c:Nat}{xs:List Value}(h:OwnE E size w base A n c xs):xs.length=n*size:=h.2.1
theorem OwnE.lt {w:World}{base:Nat}{A:Option Addr}{n c:Nat}{xs:List Value}(h:OwnE E size w base A n c xs): ∀k,(Value.slice A n c).ownBlock=some k→base≤k∧k<w.heap.size:=h.2.lt
theorem OwnE.kept {w w':World}{base B:Nat}{A:Option Addr}{n c:Nat}{xs:List Value}(h:OwnE E size w base A n c xs)(f:Below B w w')(l:w.heap.size≤B):OwnE E size w' base A n c xs:=by
 refine⟨Nat.le_trans h.1 f.size,h.2.1,?_⟩
 rcases h.2.2 with d|⟨g,e,a,d,j,b,k⟩
 ·exact .inl d
 ·refine .inr ⟨g,e,a,d,j,?_,k⟩
  have i:g<w.heap.size:=by
   rcases Nat.lt_or_ge g w.heap.size with h|h
   ·exact h
   ·rw[Array.getElem?_eq_none h]at b;cases b
  rw[f.block g (by omega)];exact b
theorem OwnE.alloc {w:World}{base:Nat}{A:Option Addr}{n c:Nat}{xs:List Value}(h:OwnE E size w base A n c xs)(o:Obj):OwnE E size (w.alloc o) base A n c xs:=h.kept ((yB _ _).alloc (yR _) o) (yR _)
theorem OwnE.drew {w:World}{base:Nat}{A:Option Addr}{n c:Nat}{xs:List Value}(h:OwnE E size w base A n c xs):OwnE E size w.drew base A n c xs:=h
theorem OwnE.cell {w:World}{base:Nat}{A:Option Addr}{n c:Nat}{xs:List Value}(h:OwnE E size w base A n c xs){i:Nat}(f:i<xs.length):
 ∃g,A=some ⟨g,0,none⟩∧base≤g∧g<w.heap.size∧w.cell? ⟨g,i,none⟩=xs[i]? :=by
 obtain⟨o,b⟩:=h
 rcases b.2 with⟨p,k⟩|⟨g,m,j,l,d,e,_⟩
 ·have:=b.1;subst k;rw[Nat.zero_mul]at this;omega
 ·injection l with h1 h2 h3
  subst h1
  have a:g<w.heap.size:=by
   rcases Nat.lt_or_ge g w.heap.size with h|h
   ·exact h
   ·rw[Array.getElem?_eq_none h]at e;cases e
  refine⟨g,rfl,d,a,?_⟩
  have:=b.cells (g:=g) rfl i xs[i] (yG f)
  rw[aAV,Nat.zero_add]at this
  rw[this,yG f]
theorem aED {S:TypeId}{b:Nat}{z:Value}(q:Elt E S size b z)(w:World)(x:TypeId)(base:Nat)(A:Option Addr)(n c:Nat)(xs:List Value)(l:OwnE E size w base A n c xs)(r:Addr)(m t:Nat)(a:List Value)(H:a.length=m*size)
 (f: ∀j u,a[j]? =some u→w.cell? (r.add j)=some u)(B: ∀u∈a,u.oneCell'=true)(D:n+m≤4611686018427387904)(e:(n+m)*b≤140737488355328):
 ∃A' c' w',(Builtin.append_ #[S,S] x #[.slice A n c,.slice (some r) m t]).run Tryz.prog w= .ok (.slice A' (n+m) c') w'∧OwnE E size w' base A' (n+m) c' (xs++a)∧Below base w w':=by
 obtain⟨i,J,o⟩:=Option.map_eq_some_iff.1 q.info
 simp only[Prod.mk.injEq]at o
 obtain⟨F,hs,s⟩:=o
 obtain⟨L,w',v,p,I,_⟩:=run_append_own (P:=Tryz.prog) w base S x E i z size b q.under J F hs s q.zero q.pos _ n xs l.2 r m t a H f B (by unfold maxLen;omega) e l.1
 have d:=below_grown I l.1 (fun k hk=>(l.lt k hk).1)
 rcases p.2 with⟨rfl,y⟩|⟨g,C,G,rfl,_⟩
 ·rw[y]at p⊢
  exact⟨none,0,w',v,⟨Nat.le_trans l.1 d.size,p⟩,d⟩
 ·exact⟨_,_,w',v,⟨Nat.le_trans l.1 d.size,p⟩,d⟩
theorem aCM {S:TypeId}{d:Nat}{z:Value}(F:Elt E S size d z){w:World}{o:Oper}{a:Act}{K:Act→World→Prop}{Q:Exit→Act→World→Prop}(s x:Operand)
 (k:o.op= .call {callee:= .builtin .append,args:= #[s,x],argTypes:= #[S,S]})
 (base:Nat)(A:Option Addr)(n c:Nat)(xs:List Value)(hs:a.eval s= .slice A n c)(v:OwnE E size w base A n c xs)(p:Addr)(m q:Nat)(b:List Value)(D:a.eval x= .slice (some p) m q)(y:b.length=m*size)
 (f: ∀j u,b[j]? =some u→w.cell? (p.add j)=some u)(t: ∀u∈b,u.oneCell'=true)(l:n+m≤4611686018427387904)(e:(n+m)*d≤140737488355328)
 (h: ∀i g w',OwnE E size w' base i (n+m) g (xs++b)→Below base w w'→K (a.put o.dst (.slice i (n+m) g)) w'):o.wp Tryz.prog a w K Q:=by
 obtain⟨i,g,w',B,r,C⟩:=aED F w o.type base A n c xs v p m q b y f t l e
 unfold Oper.wp execOp
 simp only[k,resolve,invoke,builtin,Sem.run_bind,Sem.run_pure,Result.andThen_ok,List.map_toArray,List.map_cons,List.map_nil,hs,D,B]
 exact h i g w' r C
theorem aAT {S:TypeId}{d:Nat}{z:Value}(B:Elt E S size d z){w:World}{g:Array Oper}{rest:List Oper}{o:Oper}{a:Act}{Q:Exit→Act→World→Prop}(i:o.guard=none)(s x:Operand)
 (k:o.op= .call {callee:= .builtin .append,args:= #[s,x],argTypes:= #[S,S]})
 (base:Nat)(A:Option Addr)(n c:Nat)(xs:List Value)(hs:a.eval s= .slice A n c)(t:OwnE E size w base A n c xs)(q:Addr)(m r:Nat)(b:List Value)(y:a.eval x= .slice (some q) m r)(v:b.length=m*size)
 (f: ∀j u,b[j]? =some u→w.cell? (q.add j)=some u)(l: ∀u∈b,u.oneCell'=true)(p:n+m≤4611686018427387904)(e:(n+m)*d≤140737488355328)
 (h: ∀A' c' w',OwnE E size w' base A' (n+m) c' (xs++b)→Below base w w'→wpList Tryz.prog g Q rest (a.put o.dst (.slice A' (n+m) c')) w'):wpList Tryz.prog g Q (o::rest) a w:=
 wpList_plain i fun _ hK=>aCM B s x k base A n c xs hs t q m r b y v f l p e fun A' c' w' l h2=>hK _ _ (h A' c' w' l h2)
theorem aBT {S:TypeId}{d:Nat}{z:Value}(C:Elt E S size d z){w:World}{g:Array Oper}{o:Oper}{a:Act}{K:Act→World→Prop}{Q:Exit→Act→World→Prop}{F:Prop}(i:o.guard=none)(s x:Operand)
 (k:o.op= .call {callee:= .builtin .append,args:= #[s,x],argTypes:= #[S,S]})
 (base:Nat)(A:Option Addr)(n c:Nat)(xs:List Value)(hs:a.eval s= .slice A n c)(v:OwnE E size w base A n c xs)(p:Addr)(m q:Nat)(b:List Value)(B:a.eval x= .slice (some p) m q)(y:b.length=m*size)
 (f: ∀j u,b[j]? =some u→w.cell? (p.add j)=some u)(r: ∀u∈b,u.oneCell'=true)(l:n+m≤4611686018427387904)(e:(n+m)*d≤140737488355328)
 (h: ∀A' c' w',OwnE E size w' base A' (n+m) c' (xs++b)→Below base w w'→K (a.put o.dst (.slice A' (n+m) c')) w'):
 if Region.wanted o (yielded g a.tmps)=true then Oper.wp Tryz.prog o a w K Q else F:=by
 have t:Region.wanted o (yielded g a.tmps)=true:=by simp[Region.wanted,i]
 rw[if_pos t]
 exact aCM C s x k base A n c xs hs v p m q b B y f r l e h
theorem Blk.news {w:World}{g:Nat}{a:List Value}{T:TypeId}(h:Blk w g a T): ∀j u,a[j]? =some u→w.cell? ((⟨g,0,none⟩:Addr).add j)=some u:=fun j u hj=>by
 rw[aAV,Nat.zero_add];exact h.cell hj
def cutA (A:Option Addr)(cap lo:Nat):Option Addr:=if cap=lo then A else A.map (·.add lo)
theorem aCN (b a c d:Nat):cutA (some ⟨b,a,none⟩) c d=if c=d then some ⟨b,a,none⟩else some ⟨b,a+d,none⟩:=by
 unfold cutA
 split<;>simp[aAV]
theorem Bytes.cut {w:World}{A:Option Addr}{l:List Int}(h:Bytes w A l)(a c n:Nat)(d:l.length≤a):Bytes w (cutA A a c) ((l.drop c).take n):=by
 refine h.part c n _ fun b off e hn hlo=>?_
 subst e
 rw[aCN,if_neg (by omega)]
theorem aJz (t:TypeId)(A:Option Addr)(len a b c:Nat)(w:World)(hs:(sizeOf (Tryz.prog.elem t)).run Tryz.prog w= .ok 1 w)(d:Tryz.prog.underlying t=some (.slice (Tryz.prog.elem t)))(f:b≤c)(e:c≤a):
 (Instr.slice t (.slice A len a) (some (.int .i64 b)) (some (.int .i64 c)) none).run Tryz.prog w= .ok (.slice (cutA A a b) (c-b) (a-b)) w:=by
 rw[run_slice_lh w t A len a d .i64 .i64 b c (by omega) (by omega) (by omega),hs]
 simp[Result.andThen,sliced,cutA]
theorem aEY (t:TypeId)(A:Option Addr)(len a b:Nat)(w:World)(hs:(sizeOf (Tryz.prog.elem t)).run Tryz.prog w= .ok 1 w)(c:Tryz.prog.underlying t=some (.slice (Tryz.prog.elem t)))(d:b≤len):
 (Instr.slice t (.slice A len a) (some (.int .i64 b)) none none).run Tryz.prog w= .ok (.slice (cutA A a b) (len-b) (a-b)) w:=by
 rw[run_slice_l w t A len a c .i64 b (by omega) (by omega),hs]
 simp[Result.andThen,sliced,cutA]
theorem aDy:Tryz.prog.elem 26=5:=by kernel_rfl
theorem aDc (w:World):(sizeOf 5).run Tryz.prog w= .ok 1 w:=by
 obtain⟨i,b,a⟩:=Option.map_eq_some_iff.1 aJ3
 simp only[Prod.mk.injEq]at a
 simp[sizeOf,typeInfo,b,a]
theorem aP1 (A:Option Addr)(len a b c:Nat)(e:b≤c)(d:c≤a)(w:World):
 (Instr.slice 26 (.slice A len a) (some (.int .i64 b)) (some (.int .i64 c)) none).run Tryz.prog w= .ok (.slice (cutA A a b) (c-b) (a-b)) w:=
 aJz _ A len a b c w (by rw[aDy];exact aDc w) (by rw[aDy];exact Tryz.underlying26) e d
theorem aJA (A:Option Addr)(len a b:Nat)(c:b≤len)(w:World):
 (Instr.slice 26 (.slice A len a) (some (.int .i64 b)) none none).run Tryz.prog w= .ok (.slice (cutA A a b) (len-b) (a-b)) w:=
 aEY _ A len a b w (by rw[aDy];exact aDc w) (by rw[aDy];exact Tryz.underlying26) c
end OwnE
namespace OwnM
open Bytes8 Blk8 Own8
theorem aBs {w:World}{base n c:Nat}{A:Option Addr}{l:List Int}(h:Own w base A n c l):n≤c∧c≤maxLen:=by
 rcases h.2.2.2.2 with⟨a,i⟩|⟨g,f,b,a,_,_,e,d,_⟩
 ·injection a with e1 e2 e3;subst e3;exact⟨by omega,by decide⟩
 ·injection a with e1 e2 e3;subst e3;exact⟨e,d⟩
theorem aAl {w w':World}{b g:Nat}{c:List Value}{T:TypeId}(h:Blk w b c T)(d:w.grownBy w' (some g))(a:b≠g):Blk w' b c T:=
 (d.block b h.lt (by intro e;injection e with e;exact a e)).trans h
end OwnM
namespace Rows2
open Bytes8 Blk8
def InRows (w:World)(a:Option Addr)(len:Nat)(A:Nat→Option Addr)(L C:Nat→Nat)(P:Nat→List Int):Prop:=
 ∀r,r<len→ ∃b off,a=some ⟨b,off,none⟩∧b<w.heap.size∧w.cell? ⟨b,off+r,none⟩=some (.slice (A r) (L r) (C r))∧Bytes w (A r) (P r)∧(P r).length=L r∧L r≤C r∧C r≤maxLen
theorem InRows.below {w w':World}{a:Option Addr}{len:Nat}{A:Nat→Option Addr}{L C:Nat→Nat}{P:Nat→List Int}(h:InRows w a len A L C P)(d:Below w.heap.size w w'):InRows w' a len A L C P:=fun r hr=>by
 obtain⟨b,c,e,f,g,i,j⟩:=h r hr
 exact⟨b,c,e,yL f d.size,(d.cell (p:=⟨b,c+r,none⟩) f).trans g,i.below d (yR _),j⟩
def InInts (k:IntKind)(w:World)(a:Option Addr)(len:Nat)(f:Nat→Int):Prop:=
 ∀i,i<len→ ∃b off,a=some ⟨b,off,none⟩∧b<w.heap.size∧w.cell? ⟨b,off+i,none⟩=some (.int k (f i))∧(Lit.int k (f i)).wf=true
theorem InInts.below {k:IntKind}{w w':World}{a:Option Addr}{len:Nat}{f:Nat→Int}(h:InInts k w a len f)(g:Below w.heap.size w w'):InInts k w' a len f:=fun i hi=>by
 obtain⟨b,c,e,d,j,l⟩:=h i hi
 exact⟨b,c,e,yL d g.size,(g.cell (p:=⟨b,c+i,none⟩) d).trans j,l⟩
end Rows2
namespace Hb
open Blk8 Hm Ha
theorem aKX (x y z:Int)(w:World)(h:(⟨x,y,z⟩:Trio).ok):
 Calls Tryz.prog 225 #[.agg #[.int .u32 x,.int .u32 y,.int .u32 z]] w fun e w'=>e= .returned (trioV (mix ⟨x,y,z⟩))∧Below w.heap.size w w':=by
 obtain⟨⟨b,d⟩,⟨a,f⟩,⟨g,c⟩⟩:=h
 simp only at b d a f g c
 go_enter Tryz.func225,Tryz.ntmps225
 go_wp2
 go_quiet (fail)
 go_wp2_with(go_at_call 238;(with_reducible refine(aHl _ _ _ _ (by first|assumption|exact(aG6 _ _ _).1|omega) (by first|assumption|exact(aG6 _ _ _).2|omega) (by decide) (by decide)).mono ?_);rintro e w' ⟨rfl,rfl⟩)
 refine bodyPost_ret (v:=trioV (mix ⟨x,y,z⟩)) (by simp[results,Tryz.results225,go_sem,trioV,mix,mix1,mix2,mix3,mix4,mix5,mix6,add32]) rfl ⟨rfl,?_⟩
 repeat (first|exact yB _ _|refine Below.setCell ?_ (by simp) _|refine Below.alloc ?_ (by simp) _|refine below_drewN ?_ _)
theorem aGw (x y z:Int)(w:World)(h:(⟨x,y,z⟩:Trio).ok):
 Calls Tryz.prog 226 #[.agg #[.int .u32 x,.int .u32 y,.int .u32 z]] w fun e w'=>e= .returned (trioV (fin ⟨x,y,z⟩))∧Below w.heap.size w w':=by
 obtain⟨⟨b,d⟩,⟨a,f⟩,⟨g,c⟩⟩:=h
 simp only at b d a f g c
 go_enter Tryz.func226,Tryz.ntmps226
 go_wp2
 go_quiet (fail)
 go_wp2_with(go_at_call 239;(with_reducible refine(aHm _ _ _ _ (by first|assumption|exact(aDP _ _ _).1|omega) (by first|assumption|exact(aDP _ _ _).2|omega) (by decide) (by decide)).mono ?_);rintro e w' ⟨rfl,rfl⟩)
 refine bodyPost_ret (v:=trioV (fin ⟨x,y,z⟩)) (by simp[results,Tryz.results226,go_sem,trioV,fin]) rfl ⟨rfl,?_⟩
 repeat (first|exact yB _ _|refine Below.setCell ?_ (by simp) _|refine Below.alloc ?_ (by simp) _|refine below_drewN ?_ _)
end Hb
namespace He
open Bytes8 LeNum Hm
def part4 (l:List Int)(o k:Nat):Int:=leNum ((l.drop (o+k)).take (4-k))
theorem aNj (l:List Int)(o k:Nat)(h:AllB l):0≤part4 l o (k+1)∧part4 l o (k+1)≤16777215:=by
 have b:=aAK ((l.drop (o+(k+1))).take (4-(k+1))) ((h.drop _).take _)
 have a:((l.drop (o+(k+1))).take (4-(k+1))).length≤3:=by
  have:=List.length_take_le (4-(k+1)) (l.drop (o+(k+1)))
  omega
 unfold part4
 generalize (l.drop (o+(k+1))).take (4-(k+1))=m at*
 have:(256:Int)^m.length≤16777216:=by
  generalize m.length=j at a
  match j,a with
  |0,_|1,_|2,_|3,_=>decide
 omega
theorem aNk (l:List Int)(o k:Nat)(d:k<4)(h:o+k<l.length):part4 l o k=part4 l o (k+1)*256+l.getD (o+k) 0:=by
 unfold part4
 have a:l.drop (o+k)=l[o+k]::l.drop (o+k+1):=List.drop_eq_getElem_cons (by omega)
 have c:4-k=(4-(k+1))+1:=by omega
 rw[a,c,List.take_succ_cons,leNum,Nat.add_assoc]
 have b:l.getD (o+k) 0=l[o+k]:=by simp[yG h]
 rw[b]
 simp
 omega
theorem aKY (l:List Int)(o k:Nat)(h:l.length≤o+k):part4 l o k=part4 l o (k+1)*256:=by
 unfold part4
 rw[List.drop_of_length_le h,List.drop_of_length_le (by omega:l.length≤o+(k+1))]
 simp[leNum]
theorem or32 (v c:Int)(b:0≤v)(a:v≤16777215)(d:0≤c)(e:c<256):bits .or .u32 (v*256) c=v*256+c:=
 bits_join .u32 32 (by decide) (fun n b a=>by rw[IntKind.wrap_u32];omega) 8 (v*256) c (by omega) (by omega) (by omega) d (by omega) (by omega)
theorem aIG (A:Option Addr)(l:List Int)(len g o:Nat)(w:World)(f:Bytes w A l)(p:l.length=len)(m:len≤1000000)(B:o≤1000000):
 Calls Tryz.prog 145 #[.slice A len g,.int .i64 o] w fun e w'=>e= .returned (.int .u32 (w4 l o))∧w=w':=by
 have n:=yH f.1
 have y:=yH f.2
 have c:=yH p
 clear f p
 go_enter Tryz.func145,Tryz.ntmps145
 go_wp2
 go_loop [5,6] (fun v i=> ∃k:Nat,k≤4∧i= .int .i64 ((k:Int)-1)∧v= .int .u32 (part4 l o k)) (fun _ i=>(intOf i+1).toNat)
 case atStart=>exact⟨4,yR _,rfl,by simp[part4,leNum]⟩
 case round=>
  obtain⟨k,D,rfl,rfl⟩:=hrel
  cases k with
  |zero=>
   go_wp2
   go_ret
   exact⟨rfl,rfl⟩
  |succ k=>
   have e:((k+1:Nat):Int)-1=(k:Int):=by omega
   obtain⟨u,t⟩:=aNj l o k n.out
   obtain⟨x,z⟩:=n.out.at_ (o+k)
   rw[e]
   clear e
   by_cases a:o+k<len
   ·have d:=yH (aNk l o k (by omega) (by have:=c.out;omega))
    obtain⟨b,s,rfl,_,j⟩:=y.out (o+k) (by have:=c.out;omega)
    have r:=yH (or32 (part4 l o (k+1)) (l.getD (o+k) 0) u t x z)
    have q:decide (o+k<len)=true:=by simpa using a
    generalize part4 l o (k+1)=V at*
    generalize l.getD (o+k) 0=C at*
    go_wp2
    go_round
    case rel=>exact⟨k,by omega,by go_num,by rw[d.out,r.out]⟩
    case measure=>simp[intOf]
   ·have d:=yH (aKY l o k (by have:=c.out;omega))
    have q:decide (o+k<len)=false:=by simpa using a
    generalize part4 l o (k+1)=V at*
    go_wp2
    go_round
    case rel=>exact⟨k,by omega,by go_num,by rw[d.out]⟩
    case measure=>simp[intOf]
theorem aKZ (l m:List Int):leNum (l++m)=leNum l+256^l.length*leNum m:=by
 induction l with
 |nil=>simp[leNum]
 |cons a r ih=>
  simp only[List.cons_append,leNum,ih,List.length_cons,Int.pow_succ]
  rw[Int.mul_add,←Int.mul_assoc,Int.mul_comm 256 (256^r.length)]
  omega
theorem aNl (l:List Int)(o:Nat):w8 l o=w4 l o+w4 l (o+4)*4294967296:=by
 unfold w8 w4
 have e:(l.drop o).take 8=(l.drop o).take 4++(l.drop (o+4)).take 4:=by
  rw[show(8:Nat)=4+4 from rfl,List.take_add,List.drop_drop]
 rw[e,aKZ]
 by_cases h:o+4≤l.length
 ·rw[show((l.drop o).take 4).length=4 by simp;omega]
  omega
 ·rw[List.drop_of_length_le (by omega:l.length≤o+4)]
  simp[leNum]
theorem or64 (a b:Int)(c:0≤a)(g:a≤4294967295)(b0:0≤b)(f:b≤4294967295):bits .or .u64 a (b*4294967296)=a+b*4294967296:=by
 have h:=bits_join .u64 64 (by decide) (fun n h0 h1=>by rw[IntKind.wrap_u64];omega) 32 (b*4294967296) a (by omega) (by omega) (by omega) c (by omega) (by omega)
 have e:bits .or .u64 a (b*4294967296)=bits .or .u64 (b*4294967296) a:=by
  obtain⟨x,rfl⟩:=Int.eq_ofNat_of_zero_le c
  obtain⟨y,d⟩:=Int.eq_ofNat_of_zero_le (show 0≤b*4294967296 by omega)
  rw[d,LeNum.bits_or_u64_nat x y (by omega) (by omega),LeNum.bits_or_u64_nat y x (by omega) (by omega),Nat.or_comm]
 rw[e,h];omega
theorem aK1 (A:Option Addr)(l:List Int)(len a o:Nat)(i:Int)(d:i=o)(w:World)(f:Bytes w A l)(g:l.length=len)(b:len≤1000000)(c:o≤1000000):
 Calls Tryz.prog 145 #[.slice A len a,.int .i64 i] w fun e w'=>e= .returned (.int .u32 (w4 l o))∧w=w':=by
 subst d;exact aIG A l len a o w f g b c
end He
namespace He
open Bytes8 Hm
theorem aGx (A:Option Addr)(l:List Int)(len b o:Nat)(w:World)(c:Bytes w A l)(d:l.length=len)(a:len≤1000000)(n:o≤900000):
 Calls Tryz.prog 143 #[.slice A len b,.int .i64 o] w fun e w'=>e= .returned (.int .u64 (w8 l o))∧w=w':=by
 obtain⟨j,k⟩:=aFW l o c.1
 obtain⟨b0,f⟩:=aFW l (o+4) c.1
 have m:=yH ((or64 _ _ j k b0 f).trans (aNl l o).symm)
 have g:=yH (aIG A l len b o w c d a (by omega))
 have i:=yH (aK1 A l len b (o+4) ((o:Int)+4) (by omega) w c d a (by omega))
 clear c d
 generalize w4 l o=V at*
 generalize w4 l (o+4)=U at*
 go_enter Tryz.func143,Tryz.ntmps143
 go_wp2_with(first|(go_at_call 145;(with_reducible refine g.out.mono ?_);rintro e w' ⟨rfl,rfl⟩)|(go_at_call 145;(with_reducible refine i.out.mono ?_);rintro e w' ⟨rfl,rfl⟩))
 go_ret
 exact⟨aCa m.out,rfl⟩
end He
namespace Hf
open Bytes8 Hm Ha He
set_option maxRecDepth 100000 in
theorem aK2 (A:Option Addr)(a:Nat)(w:World):
 Calls Tryz.prog 114 #[.slice A 0 a] w fun e w'=>e= .returned (.int .u64 (lookS []))∧w=w':=by
 go_enter Tryz.func114,Tryz.ntmps114
 go_wp2
 go_ret
 exact⟨aCa (by decide+kernel),rfl⟩
theorem wn (l:List Int)(A:Option Addr)(len a o:Nat)(i:Int)(d:i=o)(w:World)(h:Hid (Bytes w A l∧l.length=len))(b:len≤1000000)(c:o≤1000000):
 Calls Tryz.prog 145 #[.slice A len a,.int .i64 i] w fun e w'=>e= .returned (.int .u32 (w4 l o))∧w=w':=aK1 A l len a o i d w h.out.1 h.out.2 b c
set_option maxRecDepth 100000 in
theorem aK3 (A:Option Addr)(l:List Int)(len a:Nat)(w:World)(j:Bytes w A l)(s:l.length=len)(d:0<len)(t:len≤900000):
 Calls Tryz.prog 114 #[.slice A len a] w fun e w'=>e= .returned (.int .u64 (lookS l))∧w=w':=by
 have m:=yH j.1
 have n:=yH (show lookInit l=⟨3735928559+(len:Int),3735928559+(len:Int),3735928559+(len:Int)⟩by
  have e:add32 3735928559 (l.length:Int)=3735928559+(len:Int):=by unfold add32;omega
  unfold lookInit;rw[e])
 have b:=yH (And.intro j s)
 have C:((len:Int)==0)=false:=by simp;omega
 clear j s
 go_enter Tryz.func114,Tryz.ntmps114
 go_wp2
 go_loop [3,4,5,6] (fun x y z i=> ∃k o:Nat,Hid (o=12*k)∧o<len∧i= .int .i64 o∧x= .int .u32 (trioAt l k).x∧y= .int .u32 (trioAt l k).y∧z= .int .u32 (trioAt l k).z) (fun _ _ _ i=>len-(intOf i).toNat)
 case atStart=>exact⟨0,0,yH rfl,d,rfl,by show _=Value.int .u32 (lookInit l).x;rw[n.out],by show _=Value.int .u32 (lookInit l).y;rw[n.out],by show _=Value.int .u32 (lookInit l).z;rw[n.out]⟩
 case round=>
  obtain⟨k,o,f,B,rfl,rfl,rfl,rfl⟩:=hrel
  have M:=yH (aDQ l k)
  have p:=yH (wn l A len a o o rfl w b (by omega) (by omega))
  have q:=yH (wn l A len a (o+4) ((o:Int)+4) (by omega) w b (by omega) (by omega))
  have r:=yH (wn l A len a (o+8) ((o:Int)+8) (by omega) w b (by omega) (by omega))
  have g:=yH (show trioAt l (k+1)=mix (plus3 (trioAt l k) l o)by rw[f.out];rfl)
  have E:=yH (show ¬12<len-o→lookS l=ans (fin (plus3 (trioAt l k) l o))from fun c=>by
   have L:(l.length-1)/12=k:=by rw[b.out.2];have:=f.out;omega
   unfold lookS
   rw[if_neg (by intro h;have:=b.out.2;rw[h]at this;simp at this;omega),L,f.out])
  generalize trioAt l k=T at*
  obtain⟨x,y,z⟩:=T
  obtain⟨⟨v,J⟩,⟨H,D⟩,⟨G,F⟩⟩:=M.out
  simp only at v J H D G F
  obtain⟨V,X⟩:=aFW l o m.out
  obtain⟨b0,N⟩:=aFW l (o+4) m.out
  obtain⟨Y,R⟩:=aFW l (o+8) m.out
  by_cases c:12<len-o
  ·have u:decide ((12:Int)<(len:Int)-(o:Int))=true:=by simp;omega
   go_wp2_with(first|(go_at_call 145;(with_reducible refine p.out.mono ?_);rintro e w' ⟨rfl,rfl⟩)|(go_at_call 145;(with_reducible refine q.out.mono ?_);rintro e w' ⟨rfl,rfl⟩)|(go_at_call 145;(with_reducible refine r.out.mono ?_);rintro e w' ⟨rfl,rfl⟩)|(go_at_call 146;(with_reducible refine(aIo _ _ _ (by first|assumption|exact(b32 _ _ _).1|omega) (by first|assumption|exact(b32 _ _ _).2|omega) (by decide) (by decide)).mono ?_);rintro e w' ⟨rfl,rfl⟩))
   go_round
   case rel=>
    refine⟨k+1,o+12,yH (by have:=f.out;omega),by omega,by go_num,?_,?_,?_⟩
    ·rw[g.out];simp[mix,mix1,mix2,mix3,mix4,mix5,mix6,plus3,stir,add32]
    ·rw[g.out];simp[mix,mix1,mix2,mix3,mix4,mix5,mix6,plus3,stir,add32]
    ·rw[g.out];simp[mix,mix1,mix2,mix3,mix4,mix5,mix6,plus3,stir,add32]
   case measure=>simp[intOf];omega
  ·have u:decide ((12:Int)<(len:Int)-(o:Int))=false:=by simp;omega
   have I:=yH (E.out c)
   clear g
   go_wp2_with(first|(go_at_call 145;(with_reducible refine p.out.mono ?_);rintro e w' ⟨rfl,rfl⟩)|(go_at_call 145;(with_reducible refine q.out.mono ?_);rintro e w' ⟨rfl,rfl⟩)|(go_at_call 145;(with_reducible refine r.out.mono ?_);rintro e w' ⟨rfl,rfl⟩)|(go_at_call 146;(with_reducible refine(aIo _ _ _ (by first|assumption|exact(b32 _ _ _).1|omega) (by first|assumption|exact(b32 _ _ _).2|omega) (by decide) (by decide)).mono ?_);rintro e w' ⟨rfl,rfl⟩))
   go_ret
   refine⟨aCa ?_,rfl⟩
   rw[I.out]
   simp[ans,fin,plus3,setl,add32]
end Hf
namespace RefA
open Bytes8 LeA LeNum LeP
theorem aK4 (l:List Int)(a n k:Nat)(e:k<n)(h:a+n≤l.length):
 leNum ((l.drop (a+(k+1))).take (n-(k+1)))*256+l.getD (a+k) 0=leNum ((l.drop (a+k)).take (n-k)):=by
 have b:l.drop (a+k)=l[a+k]::l.drop (a+k+1):=List.drop_eq_getElem_cons (by omega)
 have d:n-k=(n-(k+1))+1:=by omega
 rw[b,d,List.take_succ_cons,leNum,Nat.add_assoc]
 have c:l.getD (a+k) 0=l[a+k]:=by simp[yG (show a+k<l.length by omega)]
 rw[c]
 omega
theorem aJB (l:List Int)(a n k:Nat)(d:k<n)(g:n≤8)(c:AllB l):
 0≤leNum ((l.drop (a+(k+1))).take (n-(k+1)))∧leNum ((l.drop (a+(k+1))).take (n-(k+1)))≤72057594037927935:=by
 have h:=aAK ((l.drop (a+(k+1))).take (n-(k+1))) ((c.drop _).take _)
 have b:((l.drop (a+(k+1))).take (n-(k+1))).length≤7:=by
  have:=List.length_take_le (n-(k+1)) (l.drop (a+(k+1)))
  omega
 have f:(256:Int)^((l.drop (a+(k+1))).take (n-(k+1))).length≤256^7:=by
  generalize ((l.drop (a+(k+1))).take (n-(k+1))).length=m at b
  match m,b with
  |0,_|1,_|2,_|3,_|4,_|5,_|6,_|7,_=>decide
 have e:(256:Int)^7=72057594037927936:=rfl
 omega
theorem aIH (a:Option Addr)(l:List Int)(f:Nat)(c n:Nat)(w:World)(M:l.length≤9223372036854775807)(j:fits l.length c n=true)(d:Bytes w a l):
 Calls Tryz.prog 112 #[.slice a l.length f,.int .i64 c,.int .i64 n] w fun e w'=>e= .returned (.tuple #[.int .u64 (leNum ((l.drop c).take n)),.bool true])∧w=w':=by
 obtain⟨G,D,R,F⟩:=aJm j
 have z:n=1∨n=2∨n=4∨n=8:=by simp[fits,isW]at j;omega
 obtain⟨b,y,rfl,s,r⟩:=d.spot (by omega)
 have o:=yH d.1
 have u:=yH r
 have H:c+n≤l.length:=by omega
 generalize p:l.length=len at*
 have A:=yH p
 clear p d r j
 obtain⟨N,m⟩: ∃N,Hid (N=n):=⟨_,rfl⟩
 rcases z with rfl|rfl|rfl|rfl
 all_goals
  go_enter Tryz.func112,Tryz.ntmps112
  go_wp2
  go_loop [8,9] (fun v i=> ∃k:Nat,k≤N∧i= .int .i64 ((k:Int)-1)∧v= .int .u64 (leNum ((l.drop (c+k)).take (N-k)))) (fun _ i=>(intOf i+1).toNat)
  case atStart=>exact⟨N,yR _,by rw[m.out];rfl,by rw[Nat.sub_self];rfl⟩
  case round=>
   obtain⟨k,E,rfl,rfl⟩:=hrel
   have q:=m.out
   cases k with
   |zero=>
    clear q
    go_wp2
    go_ret2
    exact⟨aFU (by rw[m.out]),rfl⟩
   |succ k=>
    have e:((k+1:Nat):Int)-1=(k:Int):=by omega
    have t:k<8:=by omega
    have g:=u.out (c+k) (by omega)
    obtain⟨J,L⟩:=o.out.at_ (c+k)
    obtain⟨X,I⟩:=aJB l c N k (by omega) (by omega) o.out
    have B:=yH (aK4 l c N k (by omega) (by have:=A.out;omega))
    have x:c+k<len:=by omega
    rw[e]
    generalize leNum ((l.drop (c+(k+1))).take (N-(k+1)))=V at*
    generalize l.getD (c+k) 0=C at*
    clear q e
    go_wp2
    go_round
    case rel=>exact⟨k,by omega,by go_num,by rw[←B.out]⟩
    case measure=>simp[intOf]
end RefA
namespace Hc
open Bytes8 Blk8 LeNum LeB Hm Ha
theorem size8:(Tryz.prog.info? 5).map (·.size)=some 1:=by kernel_rfl
theorem spliced (l:List Int)(n:Nat)(h:l.length≤n):splice ((List.replicate n (0:Int)).map (Value.int .u8)) 0 (l.map (Value.int .u8))=(l++List.replicate (n-l.length) 0).map (Value.int .u8):=by
 simp[splice]
theorem aNm (l:List Int)(o m n:Nat):leNum (((l++List.replicate m 0).drop o).take n)=leNum ((l.drop o).take n):=by
 rw[List.drop_append,List.take_append]
 by_cases h:o≤l.length
 ·rw[show o-l.length=0 by omega,List.drop_zero,List.take_replicate]
  exact aDR _ _
 ·rw[List.drop_of_length_le (by omega:l.length≤o),List.drop_replicate,List.take_replicate]
  exact aDR _ _
theorem aOZ (A:Option Addr)(m:List Int)(v:Int)(w:World)(c:Bytes w A m)(a:m.length=12)(b:leNum ((m.drop 0).take 4)=v):
 Calls Tryz.prog 183 #[.slice A 12 12,.int .i64 0,.int .i64 4] w fun e w'=>e= .returned (.tuple #[.int .u64 v,.bool true])∧w=w':=by
 have h:=aCZ A m 12 0 4 w (by omega) (by rw[a];decide) c (by decide) (by decide) (by omega)
 rw[a,b]at h;exact h
theorem aO0 (A:Option Addr)(m:List Int)(v:Int)(w:World)(c:Bytes w A m)(a:m.length=12)(b:leNum ((m.drop 4).take 4)=v):
 Calls Tryz.prog 183 #[.slice A 12 12,.int .i64 4,.int .i64 4] w fun e w'=>e= .returned (.tuple #[.int .u64 v,.bool true])∧w=w':=by
 have h:=aCZ A m 12 4 4 w (by omega) (by rw[a];decide) c (by decide) (by decide) (by omega)
 rw[a,b]at h;exact h
theorem aO1 (A:Option Addr)(m:List Int)(v:Int)(w:World)(c:Bytes w A m)(a:m.length=12)(b:leNum ((m.drop 8).take 4)=v):
 Calls Tryz.prog 183 #[.slice A 12 12,.int .i64 8,.int .i64 4] w fun e w'=>e= .returned (.tuple #[.int .u64 v,.bool true])∧w=w':=by
 have h:=aCZ A m 12 8 4 w (by omega) (by rw[a];decide) c (by decide) (by decide) (by omega)
 rw[a,b]at h;exact h
theorem aEi (l:List Int)(o m:Nat):leNum (((l++List.replicate m 0).drop o).take 4)=w4 l o:=aNm l o m 4
theorem aII (x y z:Int)(a:Option Addr)(l:List Int)(len n:Nat)(w:World)(k:Bytes w a l)(H:l.length=len)(d:len≤12)(A:(⟨x,y,z⟩:Trio).ok):
 Calls Tryz.prog 224 #[.agg #[.int .u32 x,.int .u32 y,.int .u32 z],.slice a len n] w fun e w'=>e= .returned (trioV (plus3 ⟨x,y,z⟩ l 0))∧Below w.heap.size w w':=by
 subst H
 have R:=yH k.source
 have g:=k.1
 have s:=spliced l 12 d
 obtain⟨p0,q0⟩:=aFW l 0 g
 obtain⟨p4,q4⟩:=aFW l 4 g
 obtain⟨p8,q8⟩:=aFW l 8 g
 have Z:=yH s
 have G:=yH (g.app (AllB.zeros (12-l.length)))
 have o:=yH (show(l++List.replicate (12-l.length) (0:Int)).length=12 by simp;omega)
 have N:=yH (aEi l 0 (12-l.length))
 have E:=yH (aEi l 4 (12-l.length))
 have F:=yH (aEi l 8 (12-l.length))
 generalize l++List.replicate (12-l.length) (0:Int)=m at*
 obtain⟨⟨t,Y⟩,⟨X,B⟩,⟨V,C⟩⟩:=A
 simp only at t Y X B V C
 clear s g k
 go_enter Tryz.func224,Tryz.ntmps224
 go_wp2_with(refine wpList_copy_splice rfl (.tmp 12) (.tmp 13) 26 26 rfl 5 Tryz.underlying26 size8 _ _ _ _ _ _ rfl rfl (w.heap.size+1+1) 0 _ 353 (Blk.new_at _ ((List.replicate 12 (0:Int)).map (Value.int .u8)) _ _ (by simp)) (l.map (Value.int .u8)) ?hn ?hpos ?hfit ?h1 (w.heap.size+1+1) _ (yB _ _) (yR _) ?_;rotate_right;intro w3 c b)
 case hn=>simpa using(Nat.min_eq_left d).symm
 case hpos=>
  intro L
  obtain⟨J,e,h⟩:=R.out _ ((((yB _ _).alloc (yR _) _).alloc (by simp) _).alloc (by simp;omega) _) (by simpa using L)
  refine⟨J,e,fun j v q=>?_⟩
  exact h j v q
 case hfit=>simp;omega
 case h1=>intro v q;obtain⟨x,_,rfl⟩:=List.mem_map.1 q;rfl
 rw[Z.out]at c
 have i:Bytes w3 (some ⟨w.heap.size+1+1,0,none⟩) m:=Blk.bytes c.out G.out
 have f:=yH i
 have c0:w3.cell? ⟨w.heap.size,0,none⟩=some (.int .u32 x):=(b.cell (p:=⟨w.heap.size,0,none⟩) (by simp;omega)).trans (by go_simp)
 have c1:w3.cell? ⟨w.heap.size,1,none⟩=some (.int .u32 y):=(b.cell (p:=⟨w.heap.size,1,none⟩) (by simp;omega)).trans (by go_simp)
 have c2:w3.cell? ⟨w.heap.size,2,none⟩=some (.int .u32 z):=(b.cell (p:=⟨w.heap.size,2,none⟩) (by simp;omega)).trans (by go_simp)
 have M:w3.cell? ⟨w.heap.size+1,0,none⟩=some (.int .u32 0):=(b.cell (p:=⟨w.heap.size+1,0,none⟩) (by simp)).trans (by go_simp)
 have f0:w3.frozen? ⟨w.heap.size+1,0,none⟩=false:=(b.frozen (p:=⟨w.heap.size+1,0,none⟩) (by simp)).trans (by go_simp)
 have D:w3.cell? ⟨w.heap.size+1,1,none⟩=some (.int .u32 0):=(b.cell (p:=⟨w.heap.size+1,1,none⟩) (by simp)).trans (by go_simp)
 have f1:w3.frozen? ⟨w.heap.size+1,1,none⟩=false:=(b.frozen (p:=⟨w.heap.size+1,1,none⟩) (by simp)).trans (by go_simp)
 have u:w3.cell? ⟨w.heap.size+1,2,none⟩=some (.int .u32 0):=(b.cell (p:=⟨w.heap.size+1,2,none⟩) (by simp)).trans (by go_simp)
 have f2:w3.frozen? ⟨w.heap.size+1,2,none⟩=false:=(b.frozen (p:=⟨w.heap.size+1,2,none⟩) (by simp)).trans (by go_simp)
 have I:=b.size
 simp at I
 have HX:=yH b
 clear c i b
 go_wp2_with(first|(go_at_call 183;(with_reducible refine(aOZ _ _ (w4 l 0) _ f.out o.out N.out).mono ?_);rintro e w' ⟨rfl,rfl⟩)|(go_at_call 183;(with_reducible refine(aO0 _ _ (w4 l 4) _ f.out o.out E.out).mono ?_);rintro e w' ⟨rfl,rfl⟩)|(go_at_call 183;(with_reducible refine(aO1 _ _ (w4 l 8) _ f.out o.out F.out).mono ?_);rintro e w' ⟨rfl,rfl⟩))
 refine bodyPost_ret (v:=trioV (plus3 ⟨x,y,z⟩ l 0)) (by simp[results,Tryz.results224,go_sem,trioV,plus3,add32,M,D,u]) rfl ⟨rfl,?_⟩
 have r:Below w.heap.size w w3:=((((yB _ _).alloc (yR _) _).alloc (by simp) _).alloc (by simp;omega) _).trans (HX.out.mono (by omega))
 repeat (first|exact r|refine Below.setCell ?_ (by simp) _|refine Below.alloc ?_ (by simp) _|refine below_drewN ?_ _)
end Hc
namespace RefB
open Bytes8 Blk8 Own8 LeNum
theorem aGy (v:Int)(k:Nat):v/256^k/256=v/256^(k+1):=by
 rw[Int.pow_succ,Int.ediv_ediv_of_nonneg (Int.le_of_lt (Int.pow_pos (by decide)))]
theorem aK5 (v:Int)(k:Nat)(a:0≤v)(b:v≤18446744073709551615):0≤v/256^k∧v/256^k≤18446744073709551615:=by
 have c:(0:Int)<256^k:=Int.pow_pos (by decide)
 have e:0≤v/256^k:=Int.ediv_nonneg a (by omega)
 have d:v/256^k≤v:=Int.ediv_le_self _ a
 omega
theorem one_byte (x:Int):AllB [x%256]:=by
 intro y a
 simp at a
 omega
theorem aNn (v:Int)(n:Nat)(w:World)(o:0≤v)(r:v≤18446744073709551615)(y:n≤8):
 Calls Tryz.prog 104 #[.int .u64 v,.int .i64 n] w fun e w'=> ∃A c,e= .returned (.slice A n c)∧Own w' w.heap.size A n c (lowB v n)∧Below w.heap.size w w':=by
 go_enter Tryz.func104,Tryz.ntmps104
 go_wp2
 go_loopw [0,5,6] (fun x s i wr=> ∃(k:Nat) (A:Option Addr) (c:Nat),k≤n∧i= .int .i64 k∧x= .int .u64 (v/256^k)∧s= .slice A k c∧Own wr w.heap.size A k c (lowB v k)∧Below w.heap.size w wr) (fun _ _ i _=>n-(intOf i).toNat)
 case atStart=>exact⟨0,none,0,Nat.zero_le _,rfl,by simp,rfl,Own.nil w _ (yR _),yB _ _⟩
 case round=>
  obtain⟨k,A,c,z,rfl,rfl,rfl,f,a⟩:=hrel
  by_cases l:k<n
  ·obtain⟨u,B⟩:=aK5 v k o r
   have m:=yH f
   have t:=yH (aGy v k)
   have p:=yH (aDL v k)
   clear f
   generalize v/256^k=x at*
   go_wp2_with(at_builtin;refine aAd rfl (.tmp 12) (.tmp 16) rfl w.heap.size A k c (lowB v k) rfl (m.out.kept ((yB _ _).alloc (yR _) _) (yR _)) (some ⟨wr.heap.size,0,none⟩) 1 1 [x%256] rfl (Row.bytes (Row.new wr [x%256]) (one_byte x)) rfl (by omega) ?_;intro q j w2 d b;have g:=yH d;clear d)
   go_roundw
   case rel=>exact⟨k+1,q,j,by omega,by go_num,by rw[t.out],rfl,by rw[p.out];exact g.out,(a.alloc a.size _).trans b⟩
   case measure=>simp[intOf];omega
  ·obtain rfl:k=n:=by omega
   go_wp2
   go_ret
   exact⟨A,c,rfl,f,a⟩
theorem aFC (v:Int)(n:Nat)(m:Int)(w:World)(d:0≤v)(b:v≤18446744073709551615)(f:n≤8)(a:m=n):
 Calls Tryz.prog 104 #[.int .u64 v,.int .i64 m] w fun e w'=> ∃A c,e= .returned (.slice A n c)∧Own w' w.heap.size A n c (lowB v n)∧Below w.heap.size w w':=by
 subst a;exact aNn v n w d b f
end RefB
namespace Oc
open Bytes8 Blk8 Own8 OwnE LeA LeNum LeB RefA RefB Ob
theorem aO2 {w:World}{base g n:Nat}{l:List Int}(h:Row w g l)(e:AllB l)(d:base≤g)(a:l.length=n)(b:n≤maxLen):Own w base (some ⟨g,0,none⟩) n n l:=by
 have c:=h.lt
 refine⟨e,a,by omega,by simpa using a,.inr ⟨g,n,_,rfl,d,h,yR _,b,by simpa using a,?_⟩⟩
 rw[List.take_of_length_le (by simp;omega)]
abbrev NumsAt (w:World)(g:Nat)(l:List Int)(T:TypeId):Prop:=Blk w g (l.map (Value.int .u64)) T
theorem aJC (k:Int)(w:World):
 Calls Tryz.prog 240 #[.int .i64 k] w fun e w'=>e= .returned (.bool (decide (1≤k)&&decide (k≤7)))∧w=w':=by
 by_cases h:1≤k
 ·go_enter Tryz.func240,Tryz.ntmps240
  go_wp2
  go_ret
  exact⟨aAC (by rw[decide_eq_true h,Bool.true_and]),rfl⟩
 ·go_enter Tryz.func240,Tryz.ntmps240
  go_wp2
  go_ret
  exact⟨aAC (by rw[decide_eq_false (by omega: ¬1≤k),Bool.false_and]),rfl⟩
theorem aEj (g n u:Nat)(l:List Int)(T:TypeId)(w:World)(q:NumsAt w g l T)(J:I64 l)(H:l.length=n)(F:n≤1000):
 Calls Tryz.prog 105 #[.slice (some ⟨g,0,none⟩) n u] w fun e w'=> ∃A c,e= .returned (.slice A (8*n) c)∧Own w' w.heap.size A (8*n) c (nums l)∧Below w.heap.size w w':=by
 have p:=q.lt
 have M:=yH fun(wr:World) (h:Below w.heap.size w wr) (k:Nat) (E:k<n)=>(q.below h p).cell (i:=k) (v:= .int .u64 (l.getD k 0)) (by
  have:k<l.length:=by omega
  simp[yG this])
 have G:=yH H
 have Z:=yH fun k (E:k<n)=>J (l.getD k 0) (by
  have:k<l.length:=by omega
  simp[yG this])
 clear q J H
 go_enter Tryz.func105,Tryz.ntmps105
 go_wp2
 go_loopw [3,4] (fun s i wr=> ∃(k:Nat) (A:Option Addr) (c:Nat),k≤n∧i= .int .i64 (k:Int)∧s= .slice A (8*k) c∧Hid (Own wr w.heap.size A (8*k) c (nums (l.take k)))∧Hid (Below w.heap.size w wr)) (fun _ i _=>n-(intOf i).toNat)
 case atStart=>exact⟨0,none,0,Nat.zero_le _,rfl,rfl,Own.nil w _ (yR _),yB _ _⟩
 case round=>
  obtain⟨k,A,c,E,rfl,rfl,D,a⟩:=hrel
  by_cases d:k<n
  ·have B:=M.out wr a.out k d
   obtain⟨L,x1⟩:=Z.out k d
   have V:=yH (aKx l k (by rw[G.out];exact d))
   have C:=a.out.size
   generalize l.getD k 0=x at*
   have t:=yH fun(W:World)=>aFC x 8 8 W L x1 (by decide) rfl
   go_wp2_with(first|(go_at_call 104;(with_reducible refine(t.out _).mono ?_);rintro e w2 ⟨Y,N,rfl,o,b⟩;have y:=yH o;have m:=yH b;clear o b)|(at_builtin;refine aAd rfl (.tmp 11) (.tmp 16) rfl w.heap.size A (8*k) c (nums (l.take k)) rfl (D.out.kept m.out (yR _)) Y 8 N _ rfl y.out.bytes (aAj _ _) (by omega) ?_;intro X R w3 j f;have z:=yH j;have r:=yH f;clear j f))
   go_roundw
   case rel=>
    refine⟨k+1,X,R,by omega,by go_num,rfl,?_,yH ((a.out.trans (m.out.mono C)).trans r.out)⟩
    rw[V.out]
    exact z
   case measure=>simp[intOf];omega
  ·obtain rfl:k=n:=by omega
   have I:l.take k=l:=List.take_of_length_le (by rw[G.out];exact yR _)
   rw[I]at D
   clear I
   go_wp2
   go_ret
   exact⟨A,c,rfl,D.out,a.out⟩
theorem aP2 (len i:Nat)(h:i+8≤len):fits len (i:Int) ((8:Nat):Int)=true:=by
 simp[fits,isW];omega
theorem get8 (a:Option Addr)(l:List Int)(n b i:Nat)(z:Int)(w:World)(f:z=(i:Int))(d:l.length=n)(j:n≤1000000)(c:Bytes w a l)(g:i+8≤n):
 Calls Tryz.prog 183 #[.slice a n b,.int .i64 z,.int .i64 8] w fun e w'=>e= .returned (.tuple #[.int .u64 (u8 l i),.bool true])∧w=w':=by
 subst f d
 exact aCZ a l b i 8 w (by omega) (aP2 _ _ (by omega)) c (by decide) (by decide) (by omega)
theorem aP3 (a:Option Addr)(l:List Int)(n b i:Nat)(z:Int)(w:World)(f:z=(i:Int))(d:l.length=n)(j:n≤1000000)(c:Bytes w a l)(g:i+8≤n):
 Calls Tryz.prog 112 #[.slice a n b,.int .i64 z,.int .i64 8] w fun e w'=>e= .returned (.tuple #[.int .u64 (u8 l i),.bool true])∧w=w':=by
 subst f d
 exact aIH a l b i 8 w (by omega) (aP2 _ _ (by omega)) c
theorem aIJ (A:Option Addr)(l:List Int)(n a i:Nat)(w:World)(b:Bytes w A l)(c:l.length=n)(g:n≤1000000)(f:i+8≤n):
 Calls Tryz.prog 159 #[.slice A n a,.int .u64 (i:Int)] w fun e w'=>e= .returned (.int .u64 (u8 l i))∧w=w':=by
 have d:=yH fun(z:Int) (hz:z=(i:Int))=>aP3 A l n a i z w hz c g b f
 generalize u8 l i=x at*
 clear b c
 go_enter Tryz.func159,Tryz.ntmps159
 go_wp2_with(go_at_call 112;(with_reducible refine(d.out _ (by omega)).mono ?_);rintro e w' ⟨rfl,rfl⟩)
 go_ret
 exact⟨rfl,rfl⟩
end Oc
namespace Od
open Own8
def Owned (m:List Int)(n:Nat)(w:World)(e:Ending)(w':World):Prop:= ∃A c,e= .returned (.slice A n c)∧Own w' w.heap.size A n c m∧Below w.heap.size w w'
theorem Own.base {w:World}{b b2 n c:Nat}{A:Option Addr}{l:List Int}(h:Own w b A n c l)(f:b2≤b):Own w b2 A n c l:=by
 obtain⟨o,i,j,m,q⟩:=h
 refine⟨o,i,Nat.le_trans f j,m,?_⟩
 rcases q with h|⟨g,d,a,e,k,p⟩
 ·exact .inl h
 ·exact .inr ⟨g,d,a,e,Nat.le_trans f k,p⟩
end Od
end Go.Proofs.YteaikbodkgjkdaaGreat
