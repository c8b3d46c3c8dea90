/-
  Texts beneath the proof.
-/
import Derived.Test.YtlelnfokffflnaaGreatQl2
set_option linter.unusedVariables false
set_option linter.unusedSimpArgs false
set_option maxRecDepth 100000
set_option maxHeartbeats 4000000
open Go.ChangeShapes Go.WideShapes Go.ChangeAt Go.RowKit
namespace Go.Proofs.YtlelnfokffflnaaGreat
namespace Ha
open LeNum Hm
theorem aQt (k:Int)(b:0≤k)(c:k≤63):bits BinOp.and .u64 k 63=k:=by
 obtain⟨n,rfl⟩:=Int.eq_ofNat_of_zero_le b
 have e:(63:Int)=((63:Nat):Int):=rfl
 rw[e,LeNum.bits_and_u64_nat n 63 (by omega) (by decide)]
 have:=Nat.and_two_pow_sub_one_eq_mod n 6
 simp at this
 rw[this]
 omega
theorem aP0 (x k:Int)(w:World)(d:0≤x)(f:x≤18446744073709551615)(b:0≤k)(c:k≤63):
 Calls Tryz.prog 233 #[.int .u64 x,.int .i64 k] w fun e w'=>e= .returned (.int .u64 (rot64 x k))∧w=w':=by
 have h:=aQt k b c
 go_enter Tryz.func233,Tryz.ntmps233
 go_wp2
 go_ret
 exact⟨rfl,rfl⟩
end Ha
namespace OwnE
open Bytes8 Blk8 Own8
structure Elt (E S:TypeId)(size bytes:Nat)(z:Value):Prop where
 under:Tryz.prog.underlying S=some (.slice E)
 info:(Tryz.prog.info? E).map (fun i=>(i.zero,i.size,i.bytes))=some (some z,size,bytes)
 zero:z.cells.size=size
 pos:0<size
def OwnE (E:TypeId)(size:Nat)(w:World)(base:Nat)(A:Option Addr)(n c:Nat)(xs:List Value):Prop:=
 base≤w.heap.size∧w.ownsRow base E size (.slice A n c) n xs
variable {E : TypeId} {size : Nat}
theorem OwnE.nil (w:World)(base:Nat)(h:base≤w.heap.size):OwnE E size w base none 0 0 []:=⟨h,World.ownsRow_nil _ _ _ _⟩
theorem OwnE.len {w:World}{base:Nat}{A:Option Addr}{n c:Nat}{xs:List Value}(h:OwnE E size w base A n c xs):xs.length=n*size:=h.2.1
theorem OwnE.lt {w:World}{base:Nat}{A:Option Addr}{n c:Nat}{xs:List Value}(h:OwnE E size w base A n c xs): ∀k,(Value.slice A n c).ownBlock=some k→base≤k∧k<w.heap.size:=h.2.lt
theorem OwnE.kept {w w':World}{base B:Nat}{A:Option Addr}{n c:Nat}{xs:List Value}(h:OwnE E size w base A n c xs)(j:Below B w w')(o:w.heap.size≤B):OwnE E size w' base A n c xs:=by
 refine⟨Nat.le_trans h.1 j.size,h.2.1,?_⟩
 rcases h.2.2 with d|⟨g,f,i,d,l,b,k⟩
 ·exact .inl d
 ·refine .inr ⟨g,f,i,d,l,?_,k⟩
  have m:g<w.heap.size:=by
   rcases Nat.lt_or_ge g w.heap.size with h|h
   ·exact h
   ·rw[Array.getElem?_eq_none h]at b;cases b
  rw[j.block g (by omega)];exact b
theorem OwnE.alloc {w:World}{base:Nat}{A:Option Addr}{n c:Nat}{xs:List Value}(h:OwnE E size w base A n c xs)(o:Obj):OwnE E size (w.alloc o) base A n c xs:=h.kept ((Below.refl _ _).alloc (yR _) o) (yR _)
theorem OwnE.drew {w:World}{base:Nat}{A:Option Addr}{n c:Nat}{xs:List Value}(h:OwnE E size w base A n c xs):OwnE E size w.drew base A n c xs:=h
theorem OwnE.cell {w:World}{base:Nat}{A:Option Addr}{n c:Nat}{xs:List Value}(h:OwnE E size w base A n c xs){i:Nat}(j:i<xs.length):
 ∃g,A=some ⟨g,0,none⟩∧base≤g∧g<w.heap.size∧w.cell? ⟨g,i,none⟩=xs[i]? :=by
 obtain⟨r,f⟩:=h
 rcases f.2 with⟨q,m⟩|⟨g,p,o,l,d,k,_⟩
 ·have:=f.1;subst m;rw[Nat.zero_mul]at this;omega
 ·injection l with h1 h2 h3
  subst h1
  have b:g<w.heap.size:=by
   rcases Nat.lt_or_ge g w.heap.size with h|h
   ·exact h
   ·rw[Array.getElem?_eq_none h]at k;cases k
  refine⟨g,rfl,d,b,?_⟩
  have:=f.cells (g:=g) rfl i xs[i] (List.getElem?_eq_getElem j)
  rw[aAV,Nat.zero_add]at this
  rw[this,List.getElem?_eq_getElem j]
theorem aED {S:TypeId}{d:Nat}{z:Value}(s:Elt E S size d z)(w:World)(C:TypeId)(base:Nat)(A:Option Addr)(n c:Nat)(xs:List Value)(p:OwnE E size w base A n c xs)(t:Addr)(m B:Nat)(b:List Value)(J:b.length=m*size)
 (o: ∀j u,b[j]? =some u→w.cell? (t.add j)=some u)(H: ∀u∈b,u.oneCell'=true)(M:n+m≤4611686018427387904)(l:(n+m)*d≤140737488355328):
 ∃A' c' w',(Builtin.append_ #[S,S] C #[.slice A n c,.slice (some t) m B]).run Tryz.prog w= .ok (.slice A' (n+m) c') w'∧OwnE E size w' base A' (n+m) c' (xs++b)∧Below base w w':=by
 obtain⟨i,D,q⟩:=Option.map_eq_some_iff.1 s.info
 simp only[Prod.mk.injEq]at q
 obtain⟨G,hs,x⟩:=q
 obtain⟨R,w',y,r,F,_⟩:=run_append_own (P:=Tryz.prog) w base S C E i z size d s.under D G hs x s.zero s.pos _ n xs p.2 t m B b J o H (by unfold maxLen;omega) l p.1
 have f:=below_grown F p.1 (fun k hk=>(p.lt k hk).1)
 rcases r.2 with⟨rfl,L⟩|⟨g,I,N,rfl,_⟩
 ·rw[L]at r⊢
  exact⟨none,0,w',y,⟨Nat.le_trans p.1 f.size,r⟩,f⟩
 ·exact⟨_,_,w',y,⟨Nat.le_trans p.1 f.size,r⟩,f⟩
theorem aCM {S:TypeId}{d:Nat}{z:Value}(F:Elt E S size d z){w:World}{o:Oper}{a:Act}{K:Act→World→Prop}{Q:Exit→Act→World→Prop}(s x:Operand)
 (p:o.op= .call {callee:= .builtin .append,args:= #[s,x],argTypes:= #[S,S]})
 (base:Nat)(A:Option Addr)(n c:Nat)(xs:List Value)(hs:a.eval s= .slice A n c)(H:OwnE E size w base A n c xs)(l:Addr)(m r:Nat)(b:List Value)(C:a.eval x= .slice (some l) m r)(G:b.length=m*size)
 (g: ∀j u,b[j]? =some u→w.cell? (l.add j)=some u)(B: ∀u∈b,u.oneCell'=true)(q:n+m≤4611686018427387904)(f:(n+m)*d≤140737488355328)
 (h: ∀i k w',OwnE E size w' base i (n+m) k (xs++b)→Below base w w'→K (a.put o.dst (.slice i (n+m) k)) w'):o.wp Tryz.prog a w K Q:=by
 obtain⟨i,k,w',y,D,t⟩:=aED F w o.type base A n c xs H l m r b G g B q f
 unfold Oper.wp execOp
 simp only[p,resolve,invoke,builtin,Sem.run_bind,Sem.run_pure,Result.andThen_ok,List.map_toArray,List.map_cons,List.map_nil,hs,C,y]
 exact h i k w' D t
theorem aAT {S:TypeId}{d:Nat}{z:Value}(B:Elt E S size d z){w:World}{i:Array Oper}{rest:List Oper}{o:Oper}{a:Act}{Q:Exit→Act→World→Prop}(k:o.guard=none)(s x:Operand)
 (q:o.op= .call {callee:= .builtin .append,args:= #[s,x],argTypes:= #[S,S]})
 (base:Nat)(A:Option Addr)(n c:Nat)(xs:List Value)(hs:a.eval s= .slice A n c)(D:OwnE E size w base A n c xs)(p:Addr)(m t:Nat)(b:List Value)(y:a.eval x= .slice (some p) m t)(C:b.length=m*size)
 (g: ∀j u,b[j]? =some u→w.cell? (p.add j)=some u)(l: ∀u∈b,u.oneCell'=true)(r:n+m≤4611686018427387904)(f:(n+m)*d≤140737488355328)
 (h: ∀A' c' w',OwnE E size w' base A' (n+m) c' (xs++b)→Below base w w'→wpList Tryz.prog i Q rest (a.put o.dst (.slice A' (n+m) c')) w'):wpList Tryz.prog i Q (o::rest) a w:=
 wpList_plain k fun _ hK=>aCM B s x q base A n c xs hs D p m t b y C g l r f fun A' c' w' l h2=>hK _ _ (h A' c' w' l h2)
theorem aBT {S:TypeId}{d:Nat}{z:Value}(C:Elt E S size d z){w:World}{i:Array Oper}{o:Oper}{a:Act}{K:Act→World→Prop}{Q:Exit→Act→World→Prop}{F:Prop}(k:o.guard=none)(s x:Operand)
 (p:o.op= .call {callee:= .builtin .append,args:= #[s,x],argTypes:= #[S,S]})
 (base:Nat)(A:Option Addr)(n c:Nat)(xs:List Value)(hs:a.eval s= .slice A n c)(G:OwnE E size w base A n c xs)(l:Addr)(m r:Nat)(b:List Value)(B:a.eval x= .slice (some l) m r)(D:b.length=m*size)
 (g: ∀j u,b[j]? =some u→w.cell? (l.add j)=some u)(y: ∀u∈b,u.oneCell'=true)(q:n+m≤4611686018427387904)(f:(n+m)*d≤140737488355328)
 (h: ∀A' c' w',OwnE E size w' base A' (n+m) c' (xs++b)→Below base w w'→K (a.put o.dst (.slice A' (n+m) c')) w'):
 if Region.wanted o (yielded i a.tmps)=true then Oper.wp Tryz.prog o a w K Q else F:=by
 have t:Region.wanted o (yielded i a.tmps)=true:=by simp[Region.wanted,k]
 rw[if_pos t]
 exact aCM C s x p base A n c xs hs G l m r b B D g y q f h
theorem Blk.news {w:World}{g:Nat}{b:List Value}{T:TypeId}(h:Blk w g b T): ∀j u,b[j]? =some u→w.cell? ((⟨g,0,none⟩:Addr).add j)=some u:=fun j u hj=>by
 rw[aAV,Nat.zero_add];exact h.cell hj
def cutA (A:Option Addr)(cap lo:Nat):Option Addr:=if cap=lo then A else A.map (·.add lo)
theorem aCN (b c d f:Nat):cutA (some ⟨b,c,none⟩) d f=if d=f then some ⟨b,c,none⟩else some ⟨b,c+f,none⟩:=by
 unfold cutA
 split<;>simp[aAV]
theorem Bytes.cut {w:World}{A:Option Addr}{l:List Int}(h:Bytes w A l)(c d n:Nat)(f:l.length≤c):Bytes w (cutA A c d) ((l.drop d).take n):=by
 refine h.part d n _ fun b off e hn hlo=>?_
 subst e
 rw[aCN,if_neg (by omega)]
theorem aJB (t:TypeId)(A:Option Addr)(len b c d:Nat)(w:World)(hs:(sizeOf (Tryz.prog.elem t)).run Tryz.prog w= .ok 1 w)(f:Tryz.prog.underlying t=some (.slice (Tryz.prog.elem t)))(i:c≤d)(g:d≤b):
 (Instr.slice t (.slice A len b) (some (.int .i64 c)) (some (.int .i64 d)) none).run Tryz.prog w= .ok (.slice (cutA A b c) (d-c) (b-c)) w:=by
 rw[run_slice_lh w t A len b f .i64 .i64 c d (by omega) (by omega) (by omega),hs]
 simp[Result.andThen,sliced,cutA]
theorem aEY (t:TypeId)(A:Option Addr)(len b c:Nat)(w:World)(hs:(sizeOf (Tryz.prog.elem t)).run Tryz.prog w= .ok 1 w)(d:Tryz.prog.underlying t=some (.slice (Tryz.prog.elem t)))(f:c≤len):
 (Instr.slice t (.slice A len b) (some (.int .i64 c)) none none).run Tryz.prog w= .ok (.slice (cutA A b c) (len-c) (b-c)) w:=by
 rw[run_slice_l w t A len b d .i64 c (by omega) (by omega),hs]
 simp[Result.andThen,sliced,cutA]
theorem aDy:Tryz.prog.elem 24=5:=by kernel_rfl
theorem aDc (w:World):(sizeOf 5).run Tryz.prog w= .ok 1 w:=by
 obtain⟨i,c,b⟩:=Option.map_eq_some_iff.1 aJ3
 simp only[Prod.mk.injEq]at b
 simp[sizeOf,typeInfo,c,b]
theorem aP1 (A:Option Addr)(len b c d:Nat)(g:c≤d)(f:d≤b)(w:World):
 (Instr.slice 24 (.slice A len b) (some (.int .i64 c)) (some (.int .i64 d)) none).run Tryz.prog w= .ok (.slice (cutA A b c) (d-c) (b-c)) w:=
 aJB _ A len b c d w (by rw[aDy];exact aDc w) (by rw[aDy];exact Tryz.underlying24) g f
theorem aJC (A:Option Addr)(len b c:Nat)(d:c≤len)(w:World):
 (Instr.slice 24 (.slice A len b) (some (.int .i64 c)) none none).run Tryz.prog w= .ok (.slice (cutA A b c) (len-c) (b-c)) w:=
 aEY _ A len b c w (by rw[aDy];exact aDc w) (by rw[aDy];exact Tryz.underlying24) d
end OwnE
namespace OwnM
open Bytes8 Blk8 Own8
theorem aBs {w:World}{base n c:Nat}{A:Option Addr}{l:List Int}(h:Own w base A n c l):n≤c∧c≤maxLen:=by
 rcases h.2.2.2.2 with⟨b,k⟩|⟨g,i,j,b,_,_,f,d,_⟩
 ·injection b with e1 e2 e3;subst e3;exact⟨by omega,by decide⟩
 ·injection b with e1 e2 e3;subst e3;exact⟨f,d⟩
theorem aAl {w w':World}{b g:Nat}{d:List Value}{T:TypeId}(h:Blk w b d T)(f:w.grownBy w' (some g))(c:b≠g):Blk w' b d T:=
 (f.block b h.lt (by intro e;injection e with e;exact c e)).trans h
end OwnM
namespace Rows2
open Bytes8 Blk8
def InRows (w:World)(a:Option Addr)(len:Nat)(A:Nat→Option Addr)(L C:Nat→Nat)(P:Nat→List Int):Prop:=
 ∀r,r<len→ ∃b off,a=some ⟨b,off,none⟩∧b<w.heap.size∧w.cell? ⟨b,off+r,none⟩=some (.slice (A r) (L r) (C r))∧Bytes w (A r) (P r)∧(P r).length=L r∧L r≤C r∧C r≤maxLen
theorem InRows.below {w w':World}{a:Option Addr}{len:Nat}{A:Nat→Option Addr}{L C:Nat→Nat}{P:Nat→List Int}(h:InRows w a len A L C P)(d:Below w.heap.size w w'):InRows w' a len A L C P:=fun r hr=>by
 obtain⟨b,c,e,f,i,j,g⟩:=h r hr
 exact⟨b,c,e,yL f d.size,(d.cell (p:=⟨b,c+r,none⟩) f).trans i,j.below d (yR _),g⟩
def InInts (k:IntKind)(w:World)(a:Option Addr)(len:Nat)(f:Nat→Int):Prop:=
 ∀i,i<len→ ∃b off,a=some ⟨b,off,none⟩∧b<w.heap.size∧w.cell? ⟨b,off+i,none⟩=some (.int k (f i))∧(Lit.int k (f i)).wf=true
theorem InInts.below {k:IntKind}{w w':World}{a:Option Addr}{len:Nat}{f:Nat→Int}(h:InInts k w a len f)(g:Below w.heap.size w w'):InInts k w' a len f:=fun i hi=>by
 obtain⟨b,c,e,d,j,l⟩:=h i hi
 exact⟨b,c,e,yL d g.size,(g.cell (p:=⟨b,c+i,none⟩) d).trans j,l⟩
end Rows2
namespace Hb
open Blk8 Hm Ha
theorem aKY (x y z:Int)(w:World)(h:(⟨x,y,z⟩:Trio).ok):
 Calls Tryz.prog 160 #[.agg #[.int .u32 x,.int .u32 y,.int .u32 z]] w fun e w'=>e= .returned (trioV (mix ⟨x,y,z⟩))∧Below w.heap.size w w':=by
 obtain⟨⟨g,b⟩,⟨f,c⟩,⟨d,i⟩⟩:=h
 simp only at g b f c d i
 go_enter Tryz.func160,Tryz.ntmps160
 go_wp2
 go_quiet (fail)
 go_wp2_with(go_at_call 200;(with_reducible refine(aHo _ _ _ _ (by first|assumption|exact(aG6 _ _ _).1|omega) (by first|assumption|exact(aG6 _ _ _).2|omega) (by decide) (by decide)).mono ?_);rintro e w' ⟨rfl,rfl⟩)
 refine bodyPost_ret (v:=trioV (mix ⟨x,y,z⟩)) (by simp[results,Tryz.results160,go_sem,trioV,mix,mix1,mix2,mix3,mix4,mix5,mix6,add32]) rfl ⟨rfl,?_⟩
 repeat (first|exact Below.refl _ _|refine Below.setCell ?_ (by simp) _|refine Below.alloc ?_ (by simp) _|refine below_drewN ?_ _)
theorem aGx (x y z:Int)(w:World)(h:(⟨x,y,z⟩:Trio).ok):
 Calls Tryz.prog 161 #[.agg #[.int .u32 x,.int .u32 y,.int .u32 z]] w fun e w'=>e= .returned (trioV (fin ⟨x,y,z⟩))∧Below w.heap.size w w':=by
 obtain⟨⟨g,b⟩,⟨f,c⟩,⟨d,i⟩⟩:=h
 simp only at g b f c d i
 go_enter Tryz.func161,Tryz.ntmps161
 go_wp2
 go_quiet (fail)
 go_wp2_with(go_at_call 201;(with_reducible refine(aHp _ _ _ _ (by first|assumption|exact(aDP _ _ _).1|omega) (by first|assumption|exact(aDP _ _ _).2|omega) (by decide) (by decide)).mono ?_);rintro e w' ⟨rfl,rfl⟩)
 refine bodyPost_ret (v:=trioV (fin ⟨x,y,z⟩)) (by simp[results,Tryz.results161,go_sem,trioV,fin]) rfl ⟨rfl,?_⟩
 repeat (first|exact Below.refl _ _|refine Below.setCell ?_ (by simp) _|refine Below.alloc ?_ (by simp) _|refine below_drewN ?_ _)
end Hb
namespace He
open Bytes8 LeNum Hm
def part4 (l:List Int)(o k:Nat):Int:=leNum ((l.drop (o+k)).take (4-k))
theorem aNj (l:List Int)(o k:Nat)(h:AllB l):0≤part4 l o (k+1)∧part4 l o (k+1)≤16777215:=by
 have c:=aAK ((l.drop (o+(k+1))).take (4-(k+1))) ((h.drop _).take _)
 have b:((l.drop (o+(k+1))).take (4-(k+1))).length≤3:=by
  have:=List.length_take_le (4-(k+1)) (l.drop (o+(k+1)))
  omega
 unfold part4
 generalize (l.drop (o+(k+1))).take (4-(k+1))=m at*
 have:(256:Int)^m.length≤16777216:=by
  generalize m.length=j at b
  match j,b with
  |0,_|1,_|2,_|3,_=>decide
 omega
theorem aNk (l:List Int)(o k:Nat)(f:k<4)(h:o+k<l.length):part4 l o k=part4 l o (k+1)*256+l.getD (o+k) 0:=by
 unfold part4
 have d:l.drop (o+k)=l[o+k]::l.drop (o+k+1):=List.drop_eq_getElem_cons (by omega)
 have b:4-k=(4-(k+1))+1:=by omega
 rw[d,b,List.take_succ_cons,leNum,Nat.add_assoc]
 have c:l.getD (o+k) 0=l[o+k]:=by simp[List.getElem?_eq_getElem h]
 rw[c]
 simp
 omega
theorem aKZ (l:List Int)(o k:Nat)(h:l.length≤o+k):part4 l o k=part4 l o (k+1)*256:=by
 unfold part4
 rw[List.drop_of_length_le h,List.drop_of_length_le (by omega:l.length≤o+(k+1))]
 simp[leNum]
theorem or32 (v c:Int)(f:0≤v)(b:v≤16777215)(d:0≤c)(g:c<256):bits .or .u32 (v*256) c=v*256+c:=
 bits_join .u32 32 (by decide) (fun n f b=>by rw[IntKind.wrap_u32];omega) 8 (v*256) c (by omega) (by omega) (by omega) d (by omega) (by omega)
theorem aIG (A:Option Addr)(l:List Int)(len m o:Nat)(w:World)(f:Bytes w A l)(n:l.length=len)(p:len≤1000000)(E:o≤1000000):
 Calls Tryz.prog 169 #[.slice A len m,.int .i64 o] w fun e w'=>e= .returned (.int .u32 (w4 l o))∧w=w':=by
 have q:=yH f.1
 have r:=yH f.2
 have d:=yH n
 clear f n
 go_enter Tryz.func169,Tryz.ntmps169
 go_wp2
 go_loop [5,6] (fun v i=> ∃k:Nat,k≤4∧i= .int .i64 ((k:Int)-1)∧v= .int .u32 (part4 l o k)) (fun _ i=>(intOf i+1).toNat)
 case atStart=>exact⟨4,yR _,rfl,by simp[part4,leNum]⟩
 case round=>
  obtain⟨k,D,rfl,rfl⟩:=hrel
  cases k with
  |zero=>
   go_wp2
   go_ret
   exact⟨rfl,rfl⟩
  |succ k=>
   have e:((k+1:Nat):Int)-1=(k:Int):=by omega
   obtain⟨u,y⟩:=aNj l o k q.out
   obtain⟨x,s⟩:=q.out.at_ (o+k)
   rw[e]
   clear e
   by_cases c:o+k<len
   ·have g:=yH (aNk l o k (by omega) (by have:=d.out;omega))
    obtain⟨b,B,rfl,_,j⟩:=r.out (o+k) (by have:=d.out;omega)
    have z:=yH (or32 (part4 l o (k+1)) (l.getD (o+k) 0) u y x s)
    have t:decide (o+k<len)=true:=by simpa using c
    generalize part4 l o (k+1)=V at*
    generalize l.getD (o+k) 0=C at*
    go_wp2
    go_round
    case rel=>exact⟨k,by omega,by go_num,by rw[g.out,z.out]⟩
    case measure=>simp[intOf]
   ·have g:=yH (aKZ l o k (by have:=d.out;omega))
    have t:decide (o+k<len)=false:=by simpa using c
    generalize part4 l o (k+1)=V at*
    go_wp2
    go_round
    case rel=>exact⟨k,by omega,by go_num,by rw[g.out]⟩
    case measure=>simp[intOf]
theorem aK1 (l m:List Int):leNum (l++m)=leNum l+256^l.length*leNum m:=by
 induction l with
 |nil=>simp[leNum]
 |cons a r ih=>
  simp only[List.cons_append,leNum,ih,List.length_cons,Int.pow_succ]
  rw[Int.mul_add,←Int.mul_assoc,Int.mul_comm 256 (256^r.length)]
  omega
theorem aNl (l:List Int)(o:Nat):w8 l o=w4 l o+w4 l (o+4)*4294967296:=by
 unfold w8 w4
 have e:(l.drop o).take 8=(l.drop o).take 4++(l.drop (o+4)).take 4:=by
  rw[show(8:Nat)=4+4 from rfl,List.take_add,List.drop_drop]
 rw[e,aK1]
 by_cases h:o+4≤l.length
 ·rw[show((l.drop o).take 4).length=4 by simp;omega]
  omega
 ·rw[List.drop_of_length_le (by omega:l.length≤o+4)]
  simp[leNum]
theorem or64 (a b:Int)(c:0≤a)(g:a≤4294967295)(b0:0≤b)(i:b≤4294967295):bits .or .u64 a (b*4294967296)=a+b*4294967296:=by
 have h:=bits_join .u64 64 (by decide) (fun n h0 h1=>by rw[IntKind.wrap_u64];omega) 32 (b*4294967296) a (by omega) (by omega) (by omega) c (by omega) (by omega)
 have f:bits .or .u64 a (b*4294967296)=bits .or .u64 (b*4294967296) a:=by
  obtain⟨x,rfl⟩:=Int.eq_ofNat_of_zero_le c
  obtain⟨y,d⟩:=Int.eq_ofNat_of_zero_le (show 0≤b*4294967296 by omega)
  rw[d,LeNum.bits_or_u64_nat x y (by omega) (by omega),LeNum.bits_or_u64_nat y x (by omega) (by omega),Nat.or_comm]
 rw[f,h];omega
theorem aK2 (A:Option Addr)(l:List Int)(len c o:Nat)(i:Int)(g:i=o)(w:World)(j:Bytes w A l)(f:l.length=len)(b:len≤1000000)(d:o≤1000000):
 Calls Tryz.prog 169 #[.slice A len c,.int .i64 i] w fun e w'=>e= .returned (.int .u32 (w4 l o))∧w=w':=by
 subst g;exact aIG A l len c o w j f b d
end He
namespace He
open Bytes8 Hm
theorem aGy (A:Option Addr)(l:List Int)(len c o:Nat)(w:World)(d:Bytes w A l)(f:l.length=len)(b:len≤1000000)(p:o≤900000):
 Calls Tryz.prog 167 #[.slice A len c,.int .i64 o] w fun e w'=>e= .returned (.int .u64 (w8 l o))∧w=w':=by
 obtain⟨n,g⟩:=aFW l o d.1
 obtain⟨b0,i⟩:=aFW l (o+4) d.1
 have k:=yH ((or64 _ _ n g b0 i).trans (aNl l o).symm)
 have j:=yH (aIG A l len c o w d f b (by omega))
 have m:=yH (aK2 A l len c (o+4) ((o:Int)+4) (by omega) w d f b (by omega))
 clear d f
 generalize w4 l o=V at*
 generalize w4 l (o+4)=U at*
 go_enter Tryz.func167,Tryz.ntmps167
 go_wp2_with(first|(go_at_call 169;(with_reducible refine j.out.mono ?_);rintro e w' ⟨rfl,rfl⟩)|(go_at_call 169;(with_reducible refine m.out.mono ?_);rintro e w' ⟨rfl,rfl⟩))
 go_ret
 exact⟨aCa k.out,rfl⟩
end He
namespace Hf
open Bytes8 Hm Ha He
set_option maxRecDepth 100000 in
theorem aK3 (A:Option Addr)(b:Nat)(w:World):
 Calls Tryz.prog 135 #[.slice A 0 b] w fun e w'=>e= .returned (.int .u64 (lookS []))∧w=w':=by
 go_enter Tryz.func135,Tryz.ntmps135
 go_wp2
 go_ret
 exact⟨aCa (by decide+kernel),rfl⟩
theorem wn (l:List Int)(A:Option Addr)(len c o:Nat)(i:Int)(f:i=o)(w:World)(h:Hid (Bytes w A l∧l.length=len))(b:len≤1000000)(d:o≤1000000):
 Calls Tryz.prog 169 #[.slice A len c,.int .i64 i] w fun e w'=>e= .returned (.int .u32 (w4 l o))∧w=w':=aK2 A l len c o i f w h.out.1 h.out.2 b d
set_option maxRecDepth 100000 in
theorem aK4 (A:Option Addr)(l:List Int)(len b:Nat)(w:World)(p:Bytes w A l)(q:l.length=len)(c:0<len)(r:len≤900000):
 Calls Tryz.prog 135 #[.slice A len b] w fun e w'=>e= .returned (.int .u64 (lookS l))∧w=w':=by
 have m:=yH p.1
 have n:=yH (show lookInit l=⟨3735928559+(len:Int),3735928559+(len:Int),3735928559+(len:Int)⟩by
  have e:add32 3735928559 (l.length:Int)=3735928559+(len:Int):=by unfold add32;omega
  unfold lookInit;rw[e])
 have d:=yH (And.intro p q)
 have E:((len:Int)==0)=false:=by simp;omega
 clear p q
 go_enter Tryz.func135,Tryz.ntmps135
 go_wp2
 go_loop [3,4,5,6] (fun x y z i=> ∃k o:Nat,Hid (o=12*k)∧o<len∧i= .int .i64 o∧x= .int .u32 (trioAt l k).x∧y= .int .u32 (trioAt l k).y∧z= .int .u32 (trioAt l k).z) (fun _ _ _ i=>len-(intOf i).toNat)
 case atStart=>exact⟨0,0,yH rfl,c,rfl,by show _=Value.int .u32 (lookInit l).x;rw[n.out],by show _=Value.int .u32 (lookInit l).y;rw[n.out],by show _=Value.int .u32 (lookInit l).z;rw[n.out]⟩
 case round=>
  obtain⟨k,o,j,M,rfl,rfl,rfl,rfl⟩:=hrel
  have D:=yH (aDQ l k)
  have s:=yH (wn l A len b o o rfl w d (by omega) (by omega))
  have u:=yH (wn l A len b (o+4) ((o:Int)+4) (by omega) w d (by omega) (by omega))
  have t:=yH (wn l A len b (o+8) ((o:Int)+8) (by omega) w d (by omega) (by omega))
  have g:=yH (show trioAt l (k+1)=mix (plus3 (trioAt l k) l o)by rw[j.out];rfl)
  have H:=yH (show ¬12<len-o→lookS l=ans (fin (plus3 (trioAt l k) l o))from fun f=>by
   have N:(l.length-1)/12=k:=by rw[d.out.2];have:=j.out;omega
   unfold lookS
   rw[if_neg (by intro h;have:=d.out.2;rw[h]at this;simp at this;omega),N,j.out])
  generalize trioAt l k=T at*
  obtain⟨x,y,z⟩:=T
  obtain⟨⟨L,F⟩,⟨I,R⟩,⟨J,C⟩⟩:=D.out
  simp only at L F I R J C
  obtain⟨Y,Z⟩:=aFW l o m.out
  obtain⟨b0,X⟩:=aFW l (o+4) m.out
  obtain⟨c0,V⟩:=aFW l (o+8) m.out
  by_cases f:12<len-o
  ·have B:decide ((12:Int)<(len:Int)-(o:Int))=true:=by simp;omega
   go_wp2_with(first|(go_at_call 169;(with_reducible refine s.out.mono ?_);rintro e w' ⟨rfl,rfl⟩)|(go_at_call 169;(with_reducible refine u.out.mono ?_);rintro e w' ⟨rfl,rfl⟩)|(go_at_call 169;(with_reducible refine t.out.mono ?_);rintro e w' ⟨rfl,rfl⟩)|(go_at_call 170;(with_reducible refine(aIo _ _ _ (by first|assumption|exact(b32 _ _ _).1|omega) (by first|assumption|exact(b32 _ _ _).2|omega) (by decide) (by decide)).mono ?_);rintro e w' ⟨rfl,rfl⟩))
   go_round
   case rel=>
    refine⟨k+1,o+12,yH (by have:=j.out;omega),by omega,by go_num,?_,?_,?_⟩
    ·rw[g.out];simp[mix,mix1,mix2,mix3,mix4,mix5,mix6,plus3,stir,add32]
    ·rw[g.out];simp[mix,mix1,mix2,mix3,mix4,mix5,mix6,plus3,stir,add32]
    ·rw[g.out];simp[mix,mix1,mix2,mix3,mix4,mix5,mix6,plus3,stir,add32]
   case measure=>simp[intOf];omega
  ·have B:decide ((12:Int)<(len:Int)-(o:Int))=false:=by simp;omega
   have G:=yH (H.out f)
   clear g
   go_wp2_with(first|(go_at_call 169;(with_reducible refine s.out.mono ?_);rintro e w' ⟨rfl,rfl⟩)|(go_at_call 169;(with_reducible refine u.out.mono ?_);rintro e w' ⟨rfl,rfl⟩)|(go_at_call 169;(with_reducible refine t.out.mono ?_);rintro e w' ⟨rfl,rfl⟩)|(go_at_call 170;(with_reducible refine(aIo _ _ _ (by first|assumption|exact(b32 _ _ _).1|omega) (by first|assumption|exact(b32 _ _ _).2|omega) (by decide) (by decide)).mono ?_);rintro e w' ⟨rfl,rfl⟩))
   go_ret
   refine⟨aCa ?_,rfl⟩
   rw[G.out]
   simp[ans,fin,plus3,setl,add32]
end Hf
namespace RefA
open Bytes8 LeA LeNum LeP
theorem aK5 (l:List Int)(b n k:Nat)(g:k<n)(h:b+n≤l.length):
 leNum ((l.drop (b+(k+1))).take (n-(k+1)))*256+l.getD (b+k) 0=leNum ((l.drop (b+k)).take (n-k)):=by
 have f:l.drop (b+k)=l[b+k]::l.drop (b+k+1):=List.drop_eq_getElem_cons (by omega)
 have c:n-k=(n-(k+1))+1:=by omega
 rw[f,c,List.take_succ_cons,leNum,Nat.add_assoc]
 have d:l.getD (b+k) 0=l[b+k]:=by simp[List.getElem?_eq_getElem (show b+k<l.length by omega)]
 rw[d]
 omega
theorem aJD (l:List Int)(b n k:Nat)(i:k<n)(f:n≤8)(d:AllB l):
 0≤leNum ((l.drop (b+(k+1))).take (n-(k+1)))∧leNum ((l.drop (b+(k+1))).take (n-(k+1)))≤72057594037927935:=by
 have h:=aAK ((l.drop (b+(k+1))).take (n-(k+1))) ((d.drop _).take _)
 have c:((l.drop (b+(k+1))).take (n-(k+1))).length≤7:=by
  have:=List.length_take_le (n-(k+1)) (l.drop (b+(k+1)))
  omega
 have g:(256:Int)^((l.drop (b+(k+1))).take (n-(k+1))).length≤256^7:=by
  generalize ((l.drop (b+(k+1))).take (n-(k+1))).length=m at c
  match m,c with
  |0,_|1,_|2,_|3,_|4,_|5,_|6,_|7,_=>decide
 have e:(256:Int)^7=72057594037927936:=rfl
 omega
theorem aIH (a:Option Addr)(l:List Int)(f:Nat)(c n:Nat)(w:World)(X:l.length≤9223372036854775807)(d:fits l.length c n=true)(m:Bytes w a l):
 Calls Tryz.prog 133 #[.slice a l.length f,.int .i64 c,.int .i64 n] w fun e w'=>e= .returned (.tuple #[.int .u64 (leNum ((l.drop c).take n)),.bool true])∧w=w':=by
 obtain⟨H,L,F,J⟩:=aJo d
 have t:n=1∨n=2∨n=4∨n=8:=by simp[fits,isW]at d;omega
 obtain⟨b,x,rfl,B,o⟩:=m.spot (by omega)
 have q:=yH m.1
 have z:=yH o
 have I:c+n≤l.length:=by omega
 generalize p:l.length=len at*
 have A:=yH p
 clear p m o d
 obtain⟨N,j⟩: ∃N,Hid (N=n):=⟨_,rfl⟩
 rcases t with rfl|rfl|rfl|rfl
 all_goals
  go_enter Tryz.func133,Tryz.ntmps133
  go_wp2
  go_loop [8,9] (fun v i=> ∃k:Nat,k≤N∧i= .int .i64 ((k:Int)-1)∧v= .int .u64 (leNum ((l.drop (c+k)).take (N-k)))) (fun _ i=>(intOf i+1).toNat)
  case atStart=>exact⟨N,yR _,by rw[j.out];rfl,by rw[Nat.sub_self];rfl⟩
  case round=>
   obtain⟨k,R,rfl,rfl⟩:=hrel
   have r:=j.out
   cases k with
   |zero=>
    clear r
    go_wp2
    go_ret2
    exact⟨aFU (by rw[j.out]),rfl⟩
   |succ k=>
    have e:((k+1:Nat):Int)-1=(k:Int):=by omega
    have y:k<8:=by omega
    have g:=z.out (c+k) (by omega)
    obtain⟨M,D⟩:=q.out.at_ (c+k)
    obtain⟨E,G⟩:=aJD l c N k (by omega) (by omega) q.out
    have s:=yH (aK5 l c N k (by omega) (by have:=A.out;omega))
    have u:c+k<len:=by omega
    rw[e]
    generalize leNum ((l.drop (c+(k+1))).take (N-(k+1)))=V at*
    generalize l.getD (c+k) 0=C at*
    clear r e
    go_wp2
    go_round
    case rel=>exact⟨k,by omega,by go_num,by rw[←s.out]⟩
    case measure=>simp[intOf]
end RefA
namespace Hc
open Bytes8 Blk8 LeNum LeB Hm Ha
theorem size8:(Tryz.prog.info? 5).map (·.size)=some 1:=by kernel_rfl
theorem spliced (l:List Int)(n:Nat)(h:l.length≤n):splice ((List.replicate n (0:Int)).map (Value.int .u8)) 0 (l.map (Value.int .u8))=(l++List.replicate (n-l.length) 0).map (Value.int .u8):=by
 simp[splice]
theorem aNm (l:List Int)(o m n:Nat):leNum (((l++List.replicate m 0).drop o).take n)=leNum ((l.drop o).take n):=by
 rw[List.drop_append,List.take_append]
 by_cases h:o≤l.length
 ·rw[show o-l.length=0 by omega,List.drop_zero,List.take_replicate]
  exact aDR _ _
 ·rw[List.drop_of_length_le (by omega:l.length≤o),List.drop_replicate,List.take_replicate]
  exact aDR _ _
theorem aOZ (A:Option Addr)(m:List Int)(v:Int)(w:World)(d:Bytes w A m)(b:m.length=12)(c:leNum ((m.drop 0).take 4)=v):
 Calls Tryz.prog 55 #[.slice A 12 12,.int .i64 0,.int .i64 4] w fun e w'=>e= .returned (.tuple #[.int .u64 v,.bool true])∧w=w':=by
 have h:=aCZ A m 12 0 4 w (by omega) (by rw[b];decide) d (by decide) (by decide) (by omega)
 rw[b,c]at h;exact h
theorem aO0 (A:Option Addr)(m:List Int)(v:Int)(w:World)(d:Bytes w A m)(b:m.length=12)(c:leNum ((m.drop 4).take 4)=v):
 Calls Tryz.prog 55 #[.slice A 12 12,.int .i64 4,.int .i64 4] w fun e w'=>e= .returned (.tuple #[.int .u64 v,.bool true])∧w=w':=by
 have h:=aCZ A m 12 4 4 w (by omega) (by rw[b];decide) d (by decide) (by decide) (by omega)
 rw[b,c]at h;exact h
theorem aO1 (A:Option Addr)(m:List Int)(v:Int)(w:World)(d:Bytes w A m)(b:m.length=12)(c:leNum ((m.drop 8).take 4)=v):
 Calls Tryz.prog 55 #[.slice A 12 12,.int .i64 8,.int .i64 4] w fun e w'=>e= .returned (.tuple #[.int .u64 v,.bool true])∧w=w':=by
 have h:=aCZ A m 12 8 4 w (by omega) (by rw[b];decide) d (by decide) (by decide) (by omega)
 rw[b,c]at h;exact h
theorem aEi (l:List Int)(o m:Nat):leNum (((l++List.replicate m 0).drop o).take 4)=w4 l o:=aNm l o m 4
theorem aII (x y z:Int)(a:Option Addr)(l:List Int)(len n:Nat)(w:World)(r:Bytes w a l)(t:l.length=len)(d:len≤12)(ht:(⟨x,y,z⟩:Trio).ok):
 Calls Tryz.prog 159 #[.agg #[.int .u32 x,.int .u32 y,.int .u32 z],.slice a len n] w fun e w'=>e= .returned (trioV (plus3 ⟨x,y,z⟩ l 0))∧Below w.heap.size w w':=by
 subst t
 have D:=yH r.source
 have i:=r.1
 have s:=spliced l 12 d
 obtain⟨p0,q0⟩:=aFW l 0 i
 obtain⟨p4,q4⟩:=aFW l 4 i
 obtain⟨p8,q8⟩:=aFW l 8 i
 have I:=yH s
 have C:=yH (i.app (AllB.zeros (12-l.length)))
 have o:=yH (show(l++List.replicate (12-l.length) (0:Int)).length=12 by simp;omega)
 have E:=yH (aEi l 0 (12-l.length))
 have M:=yH (aEi l 4 (12-l.length))
 have V:=yH (aEi l 8 (12-l.length))
 generalize l++List.replicate (12-l.length) (0:Int)=m at*
 obtain⟨⟨X,F⟩,⟨H,Z⟩,⟨R,A⟩⟩:=ht
 simp only at X F H Z R A
 clear s i r
 go_enter Tryz.func159,Tryz.ntmps159
 go_wp2_with(refine wpList_copy_splice rfl (.tmp 12) (.tmp 13) 24 24 rfl 5 Tryz.underlying24 size8 _ _ _ _ _ _ rfl rfl (w.heap.size+1+1) 0 _ 322 (Blk.new_at _ ((List.replicate 12 (0:Int)).map (Value.int .u8)) _ _ (by simp)) (l.map (Value.int .u8)) ?hn ?hpos ?hfit ?h1 (w.heap.size+1+1) _ (Below.refl _ _) (yR _) ?_;rotate_right;intro w3 c b)
 case hn=>simpa using(Nat.min_eq_left d).symm
 case hpos=>
  intro Y
  obtain⟨L,e,h⟩:=D.out _ ((((Below.refl _ _).alloc (yR _) _).alloc (by simp) _).alloc (by simp;omega) _) (by simpa using Y)
  refine⟨L,e,fun j v k=>?_⟩
  exact h j v k
 case hfit=>simp;omega
 case h1=>intro v k;obtain⟨x,_,rfl⟩:=List.mem_map.1 k;rfl
 rw[I.out]at c
 have g:Bytes w3 (some ⟨w.heap.size+1+1,0,none⟩) m:=Blk.bytes c.out C.out
 have f:=yH g
 have c0:w3.cell? ⟨w.heap.size,0,none⟩=some (.int .u32 x):=(b.cell (p:=⟨w.heap.size,0,none⟩) (by simp;omega)).trans (by go_simp)
 have c1:w3.cell? ⟨w.heap.size,1,none⟩=some (.int .u32 y):=(b.cell (p:=⟨w.heap.size,1,none⟩) (by simp;omega)).trans (by go_simp)
 have c2:w3.cell? ⟨w.heap.size,2,none⟩=some (.int .u32 z):=(b.cell (p:=⟨w.heap.size,2,none⟩) (by simp;omega)).trans (by go_simp)
 have J:w3.cell? ⟨w.heap.size+1,0,none⟩=some (.int .u32 0):=(b.cell (p:=⟨w.heap.size+1,0,none⟩) (by simp)).trans (by go_simp)
 have f0:w3.frozen? ⟨w.heap.size+1,0,none⟩=false:=(b.frozen (p:=⟨w.heap.size+1,0,none⟩) (by simp)).trans (by go_simp)
 have B:w3.cell? ⟨w.heap.size+1,1,none⟩=some (.int .u32 0):=(b.cell (p:=⟨w.heap.size+1,1,none⟩) (by simp)).trans (by go_simp)
 have f1:w3.frozen? ⟨w.heap.size+1,1,none⟩=false:=(b.frozen (p:=⟨w.heap.size+1,1,none⟩) (by simp)).trans (by go_simp)
 have u:w3.cell? ⟨w.heap.size+1,2,none⟩=some (.int .u32 0):=(b.cell (p:=⟨w.heap.size+1,2,none⟩) (by simp)).trans (by go_simp)
 have f2:w3.frozen? ⟨w.heap.size+1,2,none⟩=false:=(b.frozen (p:=⟨w.heap.size+1,2,none⟩) (by simp)).trans (by go_simp)
 have G:=b.size
 simp at G
 have N:=yH b
 clear c g b
 go_wp2_with(first|(go_at_call 55;(with_reducible refine(aOZ _ _ (w4 l 0) _ f.out o.out E.out).mono ?_);rintro e w' ⟨rfl,rfl⟩)|(go_at_call 55;(with_reducible refine(aO0 _ _ (w4 l 4) _ f.out o.out M.out).mono ?_);rintro e w' ⟨rfl,rfl⟩)|(go_at_call 55;(with_reducible refine(aO1 _ _ (w4 l 8) _ f.out o.out V.out).mono ?_);rintro e w' ⟨rfl,rfl⟩))
 refine bodyPost_ret (v:=trioV (plus3 ⟨x,y,z⟩ l 0)) (by simp[results,Tryz.results159,go_sem,trioV,plus3,add32,J,B,u]) rfl ⟨rfl,?_⟩
 have q:Below w.heap.size w w3:=((((Below.refl _ _).alloc (yR _) _).alloc (by simp) _).alloc (by simp;omega) _).trans (N.out.mono (by omega))
 repeat (first|exact q|refine Below.setCell ?_ (by simp) _|refine Below.alloc ?_ (by simp) _|refine below_drewN ?_ _)
end Hc
namespace RefB
open Bytes8 Blk8 Own8 LeNum
theorem aGz (v:Int)(k:Nat):v/256^k/256=v/256^(k+1):=by
 rw[Int.pow_succ,Int.ediv_ediv_of_nonneg (Int.le_of_lt (Int.pow_pos (by decide)))]
theorem aK6 (v:Int)(k:Nat)(b:0≤v)(c:v≤18446744073709551615):0≤v/256^k∧v/256^k≤18446744073709551615:=by
 have d:(0:Int)<256^k:=Int.pow_pos (by decide)
 have f:0≤v/256^k:=Int.ediv_nonneg b (by omega)
 have g:v/256^k≤v:=Int.ediv_le_self _ b
 omega
theorem one_byte (x:Int):AllB [x%256]:=by
 intro y b
 simp at b
 omega
theorem aNn (v:Int)(n:Nat)(w:World)(p:0≤v)(q:v≤18446744073709551615)(y:n≤8):
 Calls Tryz.prog 123 #[.int .u64 v,.int .i64 n] w fun e w'=> ∃A c,e= .returned (.slice A n c)∧Own w' w.heap.size A n c (lowB v n)∧Below w.heap.size w w':=by
 go_enter Tryz.func123,Tryz.ntmps123
 go_wp2
 go_loopw [0,5,6] (fun x s i wr=> ∃(k:Nat) (A:Option Addr) (c:Nat),k≤n∧i= .int .i64 k∧x= .int .u64 (v/256^k)∧s= .slice A k c∧Own wr w.heap.size A k c (lowB v k)∧Below w.heap.size w wr) (fun _ _ i _=>n-(intOf i).toNat)
 case atStart=>exact⟨0,none,0,Nat.zero_le _,rfl,by simp,rfl,Own.nil w _ (yR _),Below.refl _ _⟩
 case round=>
  obtain⟨k,A,c,B,rfl,rfl,rfl,j,b⟩:=hrel
  by_cases m:k<n
  ·obtain⟨z,C⟩:=aK6 v k p q
   have t:=yH j
   have r:=yH (aGz v k)
   have o:=yH (aDL v k)
   clear j
   generalize v/256^k=x at*
   go_wp2_with(at_builtin;refine aAd rfl (.tmp 12) (.tmp 16) rfl w.heap.size A k c (lowB v k) rfl (t.out.kept ((Below.refl _ _).alloc (yR _) _) (yR _)) (some ⟨wr.heap.size,0,none⟩) 1 1 [x%256] rfl (Row.bytes (Row.new wr [x%256]) (one_byte x)) rfl (by omega) ?_;intro l u w2 f d;have g:=yH f;clear f)
   go_roundw
   case rel=>exact⟨k+1,l,u,by omega,by go_num,by rw[r.out],rfl,by rw[o.out];exact g.out,(b.alloc b.size _).trans d⟩
   case measure=>simp[intOf];omega
  ·obtain rfl:k=n:=by omega
   go_wp2
   go_ret
   exact⟨A,c,rfl,j,b⟩
theorem aFC (v:Int)(n:Nat)(m:Int)(w:World)(d:0≤v)(f:v≤18446744073709551615)(b:n≤8)(g:m=n):
 Calls Tryz.prog 123 #[.int .u64 v,.int .i64 m] w fun e w'=> ∃A c,e= .returned (.slice A n c)∧Own w' w.heap.size A n c (lowB v n)∧Below w.heap.size w w':=by
 subst g;exact aNn v n w d f b
end RefB
namespace Oc
open Bytes8 Blk8 Own8 OwnE LeA LeNum LeB RefA RefB Ob
theorem aO2 {w:World}{base g n:Nat}{l:List Int}(h:Row w g l)(i:AllB l)(c:base≤g)(b:l.length=n)(d:n≤maxLen):Own w base (some ⟨g,0,none⟩) n n l:=by
 have f:=h.lt
 refine⟨i,b,by omega,by simpa using b,.inr ⟨g,n,_,rfl,c,h,yR _,d,by simpa using b,?_⟩⟩
 rw[List.take_of_length_le (by simp;omega)]
abbrev NumsAt (w:World)(g:Nat)(l:List Int)(T:TypeId):Prop:=Blk w g (l.map (Value.int .u64)) T
theorem aJE (k:Int)(w:World):
 Calls Tryz.prog 56 #[.int .i64 k] w fun e w'=>e= .returned (.bool (decide (1≤k)&&decide (k≤7)))∧w=w':=by
 by_cases h:1≤k
 ·go_enter Tryz.func56,Tryz.ntmps56
  go_wp2
  go_ret
  exact⟨aAC (by rw[decide_eq_true h,Bool.true_and]),rfl⟩
 ·go_enter Tryz.func56,Tryz.ntmps56
  go_wp2
  go_ret
  exact⟨aAC (by rw[decide_eq_false (by omega: ¬1≤k),Bool.false_and]),rfl⟩
theorem aEj (g n t:Nat)(l:List Int)(T:TypeId)(w:World)(E:NumsAt w g l T)(H:I64 l)(F:l.length=n)(G:n≤1000):
 Calls Tryz.prog 124 #[.slice (some ⟨g,0,none⟩) n t] w fun e w'=> ∃A c,e= .returned (.slice A (8*n) c)∧Own w' w.heap.size A (8*n) c (nums l)∧Below w.heap.size w w':=by
 have z:=E.lt
 have V:=yH fun(wr:World) (h:Below w.heap.size w wr) (k:Nat) (L:k<n)=>(E.below h z).cell (i:=k) (v:= .int .u64 (l.getD k 0)) (by
  have:k<l.length:=by omega
  simp[List.getElem?_eq_getElem this])
 have J:=yH F
 have Y:=yH fun k (L:k<n)=>H (l.getD k 0) (by
  have:k<l.length:=by omega
  simp[List.getElem?_eq_getElem this])
 clear E H F
 go_enter Tryz.func124,Tryz.ntmps124
 go_wp2
 go_loopw [3,4] (fun s i wr=> ∃(k:Nat) (A:Option Addr) (c:Nat),k≤n∧i= .int .i64 (k:Int)∧s= .slice A (8*k) c∧Hid (Own wr w.heap.size A (8*k) c (nums (l.take k)))∧Hid (Below w.heap.size w wr)) (fun _ i _=>n-(intOf i).toNat)
 case atStart=>exact⟨0,none,0,Nat.zero_le _,rfl,rfl,Own.nil w _ (yR _),Below.refl _ _⟩
 case round=>
  obtain⟨k,A,c,L,rfl,rfl,D,b⟩:=hrel
  by_cases j:k<n
  ·have u:=V.out wr b.out k j
   obtain⟨X,R⟩:=Y.out k j
   have HN:=yH (aKy l k (by rw[J.out];exact j))
   have y:=b.out.size
   generalize l.getD k 0=x at*
   have r:=yH fun(W:World)=>aFC x 8 8 W X R (by decide) rfl
   go_wp2_with(first|(go_at_call 123;(with_reducible refine(r.out _).mono ?_);rintro e w2 ⟨M,Z,rfl,o,f⟩;have q:=yH o;have p:=yH f;clear o f)|(at_builtin;refine aAd rfl (.tmp 11) (.tmp 16) rfl w.heap.size A (8*k) c (nums (l.take k)) rfl (D.out.kept p.out (yR _)) M 8 Z _ rfl q.out.bytes (aAj _ _) (by omega) ?_;intro A3 N w3 m d;have B:=yH m;have C:=yH d;clear m d))
   go_roundw
   case rel=>
    refine⟨k+1,A3,N,by omega,by go_num,rfl,?_,yH ((b.out.trans (p.out.mono y)).trans C.out)⟩
    rw[HN.out]
    exact B
   case measure=>simp[intOf];omega
  ·obtain rfl:k=n:=by omega
   have I:l.take k=l:=List.take_of_length_le (by rw[J.out];exact yR _)
   rw[I]at D
   clear I
   go_wp2
   go_ret
   exact⟨A,c,rfl,D.out,b.out⟩
theorem aP2 (len i:Nat)(h:i+8≤len):fits len (i:Int) ((8:Nat):Int)=true:=by
 simp[fits,isW];omega
theorem get8 (a:Option Addr)(l:List Int)(n b i:Nat)(z:Int)(w:World)(d:z=(i:Int))(c:l.length=n)(g:n≤1000000)(f:Bytes w a l)(j:i+8≤n):
 Calls Tryz.prog 55 #[.slice a n b,.int .i64 z,.int .i64 8] w fun e w'=>e= .returned (.tuple #[.int .u64 (u8 l i),.bool true])∧w=w':=by
 subst d c
 exact aCZ a l b i 8 w (by omega) (aP2 _ _ (by omega)) f (by decide) (by decide) (by omega)
theorem aP3 (a:Option Addr)(l:List Int)(n b i:Nat)(z:Int)(w:World)(d:z=(i:Int))(c:l.length=n)(g:n≤1000000)(f:Bytes w a l)(j:i+8≤n):
 Calls Tryz.prog 133 #[.slice a n b,.int .i64 z,.int .i64 8] w fun e w'=>e= .returned (.tuple #[.int .u64 (u8 l i),.bool true])∧w=w':=by
 subst d c
 exact aIH a l b i 8 w (by omega) (aP2 _ _ (by omega)) f
theorem aIJ (A:Option Addr)(l:List Int)(n b i:Nat)(w:World)(d:Bytes w A l)(c:l.length=n)(f:n≤1000000)(j:i+8≤n):
 Calls Tryz.prog 94 #[.slice A n b,.int .u64 (i:Int)] w fun e w'=>e= .returned (.int .u64 (u8 l i))∧w=w':=by
 have g:=yH fun(z:Int) (hz:z=(i:Int))=>aP3 A l n b i z w hz c f d j
 generalize u8 l i=x at*
 clear d c
 go_enter Tryz.func94,Tryz.ntmps94
 go_wp2_with(go_at_call 133;(with_reducible refine(g.out _ (by omega)).mono ?_);rintro e w' ⟨rfl,rfl⟩)
 go_ret
 exact⟨rfl,rfl⟩
end Oc
namespace Od
open Own8
def Owned (m:List Int)(n:Nat)(w:World)(e:Ending)(w':World):Prop:= ∃A c,e= .returned (.slice A n c)∧Own w' w.heap.size A n c m∧Below w.heap.size w w'
theorem Own.base {w:World}{b b2 n c:Nat}{A:Option Addr}{l:List Int}(h:Own w b A n c l)(i:b2≤b):Own w b2 A n c l:=by
 obtain⟨r,m,p,k,o⟩:=h
 refine⟨r,m,Nat.le_trans i p,k,?_⟩
 rcases o with h|⟨g,d,f,e,j,q⟩
 ·exact .inl h
 ·exact .inr ⟨g,d,f,e,Nat.le_trans i j,q⟩
end Od
end Go.Proofs.YtlelnfokffflnaaGreat
