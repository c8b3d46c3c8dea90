/-
  Texts beneath.
-/
import Derived.Test.YteaikbodkgjkdaaGreatQl43
set_option linter.unusedVariables false
set_option linter.unusedSimpArgs false
set_option maxRecDepth 100000
set_option maxHeartbeats 16000000
open Go.ChangeShapes Go.WideShapes Go.ChangeAt Go.RowKit
namespace Go.Proofs.YteaikbodkgjkdaaGreat
namespace Blk8
def IsRow (k:IntKind)(w:World)(a:Option Addr)(len cap:Nat)(zs:List Int):Prop:=
 (a=none∧len=0∧cap=0∧zs=[])∨
 ∃x,a=some x∧len≤cap∧cap≤maxLen∧zs.length=cap∧(∀i,i<zs.length→w.cell? (x.add i)=some (.int k (zs.getD i 0)))∧ ∀n∈zs,(Lit.int k n).wf=true
theorem aH5 {H:Type}{enc:TypeId×Value→H}{P:Program}{w:World}{base:Nat}{g:Bool}{t e:TypeId}{k:IntKind}{a:Option Addr}{len i:Nat}{d:DataW H}{p:List MemPlace}(o:P.underlying t=some (.slice e))(v:P.underlying e=some (.int k))(y:P.cellsOf e=1)
 (h:DataW.Trod enc P w base (fun _=>true) g t (.slice a len i) d p): ∃j,IsRow k w a len i j:=by
 obtain⟨n,r⟩:=h
 rcases open_ints o v y r with⟨b,_⟩|⟨x,l,c,j,b,_,s,u,q,_,f,m⟩
 ·simp[Value.cells]at b
  obtain⟨rfl,rfl,rfl⟩:=b
  exact⟨[],.inl ⟨rfl,rfl,rfl,rfl⟩⟩
 ·simp[Value.cells]at b
  obtain⟨rfl,rfl,rfl⟩:=b
  exact⟨j,.inr ⟨_,rfl,s,u,by simpa using q,f,m⟩⟩
end Blk8
namespace Rows2
open Bytes8 Blk8
theorem aPx {k:IntKind}{w:World}{a:Option Addr}{len e:Nat}{g:List Int}(h:IsRow k w a len e g):InInts k w a len (fun i=>g.getD i 0)∧len≤e∧e≤maxLen:=by
 rcases h with⟨rfl,rfl,rfl,rfl⟩|⟨x,rfl,o,q,r,c,l⟩
 ·exact⟨fun i hi=>absurd hi (by omega),yR _,by decide⟩
 ·refine⟨fun i hi=>?_,o,q⟩
  have n:=c i (by omega)
  obtain⟨b,m,j⟩:=x
  have d:j=none:=by
   have p:=c 0 (by omega)
   simpa [Addr.add]using World.cell?_spot p
  subst d
  have f:=aAH n
  rw[aAV]at n f
  refine⟨b,m,rfl,f,n,l _ ?_⟩
  show g.getD i 0∈g
  rw[yD,yG (show i<g.length by omega)]
  exact List.getElem_mem _
end Rows2
namespace Yq
open Blk8 Ob
theorem idInfo:(Tryz.prog.info? 61).map (·.size)=some 16:=by kernel_rfl
theorem aMf (K:Nat→Int)(c:IdOk K):Tryz.prog.keyLits 2 61 [.int .u8 (K 0),.int .u8 (K 1),.int .u8 (K 2),.int .u8 (K 3),.int .u8 (K 4),.int .u8 (K 5),.int .u8 (K 6),.int .u8 (K 7),.int .u8 (K 8),.int .u8 (K 9),.int .u8 (K 10),.int .u8 (K 11),.int .u8 (K 12),.int .u8 (K 13),.int .u8 (K 14),.int .u8 (K 15)]=some ((idL K).map (Lit.int .u8)):=by
 have a: ∀i,(Lit.int .u8 (K i)).wf=true:=fun i=>by
  have:=c i
  simp[Lit.wf,IntKind.min,IntKind.max,IntKind.signed,IntKind.bits]
  omega
 have d:Tryz.prog.cellsOf 61=16:=by kernel_rfl
 have b:Tryz.prog.cellsOf 5=1:=by kernel_rfl
 have e:List.range 16=[0,1,2,3,4,5,6,7,8,9,10,11,12,13,14,15]:=rfl
 simp[Program.keyLits,Tryz.underlying61,Tryz.underlying5,d,b,e,a,idL]
theorem aA2 {P:Program}{c:Array Oper}{rest:List Oper}{f:Oper}{a:Act}{w:World}{Q:Exit→Act→World→Prop}(i:Region.wanted f (yielded c a.tmps)=true)(e:TypeId)(x:Operand)(k:f.op= .load e x)
 (b o:Nat)(n:a.eval x= .pointer (some ⟨b,o,none⟩))(g:List Value)(d:TypeDesc)(p:w.rangeAt b o g)
 (l:P.underlying e=some d)(j:d.isRow=true)(m:(P.info? e).map (·.size)=some g.length)
 (h:wpList P c Q rest (a.put f.dst (.agg g.toArray)) w):wpList P c Q (f::rest) a w:=
 BigFrame.wpList_want i fun _ hK=>wp_load_mid e x k b o n g d p l j m (hK _ _ h)
end Yq
namespace Pb8
open Bytes8 Blk8 Fa Fb Pr8 Pa8
def subB (l m:List PR):Bool:=l.all fun p=>decide (p∈m)
theorem aPy {l m:List PR}{i:Nat}(a:i<l.length)(h:l.getD i nil2∉m):subB l m=false:=by
 cases hs:subB l m with
 |false=>rfl
 |true=>
  have:=List.all_eq_true.1 hs _ (aEa a)
  simp at this
  exact absurd this (by simpa using h)
theorem subB_yes {l m:List PR}(h: ∀i,i<l.length→l.getD i nil2∈m):subB l m=true:=by
 refine List.all_eq_true.2 fun p hp=>?_
 obtain⟨i,a,rfl⟩:=aIr hp
 simpa using h i a
theorem aFT {m:List PR}{k:Nat}(a:k<m.length)(p:PR):decide (p∈m.take (k+1))=(decide (p∈m.take k)||decide (p=m.getD k nil2)):=by
 rw[aEc a]
 simp[List.mem_append]
set_option maxRecDepth 100000 in
theorem aEA (a b:Option Addr)(l m:List PR)(n k c d:Nat)(w:World)(C:Prs w a l)(v:Prs w b m)(I:l.length=n)(E:m.length=k)(J:n≤1000000)(z:k≤1000000):
 Calls Tryz.prog 78 #[.slice a n c,.slice b k d] w fun e w'=>e= .returned (.bool (subB l m))∧Below w.heap.size w w':=by
 have HP:=yH C
 have HQ:=yH v
 have B:=yH I
 have t:=yH E
 have HE:=yH fun i j=>aOa (C.1.at_ i) (v.1.at_ j)
 have ab:Tryz.prog.follows .mixedOrders=true:=by kernel_rfl
 clear C v I E
 go_enter Tryz.func78,Tryz.ntmps78
 go_wp2
 go_loopw [5] (fun i wr=> ∃j:Nat,j≤n∧i= .int .i64 (j:Int)∧Hid (∀x,x<j→l.getD x nil2∈m)∧Hid (Below w.heap.size w wr)) (fun i _=>n-(intOf i).toNat)
 case atStart=>exact⟨0,by omega,rfl,yH fun j N=>absurd N (by omega),yH (yB _ _)⟩
 case round=>
  obtain⟨j,N,rfl,f,R⟩:=hrel
  rcases Nat.lt_or_ge j n with Z|Y
  ·have ae:(j:Int)<(n:Int):=by omega
   go_wp2
   go_loopw [6,7] (fun s i wr=> ∃x:Nat,x≤k∧i= .int .i64 (x:Int)∧s= .bool (decide (l.getD j nil2∈m.take x))∧Hid (Below w.heap.size w wr)) (fun _ i _=>k-(intOf i).toNat)
   case atStart=>exact⟨0,by omega,rfl,by simp,R⟩
   case round=>
    obtain⟨x,hx,rfl,rfl,g⟩:=hrel
    rcases Nat.lt_or_ge x k with M|G
    ·have X:(x:Int)<(k:Int):=by omega
     obtain⟨b1,D,rfl,F,aa,ac⟩:=(HP.out.below g.out).2 j (by have:=B.out;omega)
     obtain⟨b2,L,rfl,V,af,ad⟩:=(HQ.out.below g.out).2 x (by have:=t.out;omega)
     have hq:=HE.out j x
     have r:=yH (aFT (m:=m) (k:=x) (by have:=t.out;omega) (l.getD j nil2))
     generalize T (l.getD j nil2).1=E1 at*
     generalize T (l.getD j nil2).2=E2 at*
     generalize T (m.getD x nil2).1=F1 at*
     generalize T (m.getD x nil2).2=F2 at*
     generalize decide (l.getD j nil2=m.getD x nil2)=q at*
     cases hs:decide (l.getD j nil2∈m.take x)with
     |true=>
      rw[hs]at r
      clear hs
      go_wp2_with fail
      go_quiet (fail)
      go_wp2
      go_round
      case rel=>exact⟨x+1,by omega,by go_num,by rw[r.out];rfl,yH (below_drewN g.out _)⟩
      case measure=>simp[intOf];omega
     |false=>
      rw[hs]at r
      clear hs
      go_wp2_with fail
      go_quiet (fail)
      go_wp2
      go_round
      case rel=>exact⟨x+1,by omega,by go_num,by rw[r.out];rfl,yH (below_drewN g.out _)⟩
      case measure=>simp[intOf];omega
    ·obtain rfl:x=k:=by omega
     have u:m.take x=m:=List.take_of_length_le (by have:=t.out;omega)
     rw[u]
     by_cases p:l.getD j nil2∈m
     ·have o:=yH (fun y (hy:y<j+1)=>(by
       rcases Nat.lt_or_ge y j with H|H
       ·exact f.out y H
       ·obtain rfl:y=j:=by omega
        exact p:l.getD y nil2∈m))
      rw[decide_eq_true p]
      clear p f u
      go_wp2
      go_round
      case rel=>exact⟨j+1,by omega,by go_num,o,g⟩
      case measure=>simp[intOf];omega
     ·have A:=yH (aPy (m:=m) (by have:=B.out;omega) p)
      rw[decide_eq_false p]
      clear p f u
      go_wp2
      go_ret
      exact⟨aAC A.out.symm,g.out⟩
  ·obtain rfl:j=n:=by omega
   have A:=yH (subB_yes (m:=m) fun i hi=>f.out i (by have:=B.out;omega))
   clear f
   go_wp2
   go_ret
   exact⟨aAC A.out.symm,R.out⟩
end Pb8
namespace Rq
open Bytes8 Blk8 OwnE Ob Nr Np Yq
theorem aQj (K:Nat→Int)(b:IdOk K)(w:World):(binOp .eql 61 (.agg #[.int .u8 (K 0),.int .u8 (K 1),.int .u8 (K 2),.int .u8 (K 3),.int .u8 (K 4),.int .u8 (K 5),.int .u8 (K 6),.int .u8 (K 7),.int .u8 (K 8),.int .u8 (K 9),.int .u8 (K 10),.int .u8 (K 11),.int .u8 (K 12),.int .u8 (K 13),.int .u8 (K 14),.int .u8 (K 15)]) (.agg #[.int .u8 (K 0),.int .u8 (K 1),.int .u8 (K 2),.int .u8 (K 3),.int .u8 (K 4),.int .u8 (K 5),.int .u8 (K 6),.int .u8 (K 7),.int .u8 (K 8),.int .u8 (K 9),.int .u8 (K 10),.int .u8 (K 11),.int .u8 (K 12),.int .u8 (K 13),.int .u8 (K 14),.int .u8 (K 15)])).run Tryz.prog w= .ok (.bool true) w:=by
 obtain⟨r,c,a⟩:=run_equalIn_deep (P:=Tryz.prog) 9998 2 61 (by kernel_rfl) w 2 2 (.agg #[.int .u8 (K 0),.int .u8 (K 1),.int .u8 (K 2),.int .u8 (K 3),.int .u8 (K 4),.int .u8 (K 5),.int .u8 (K 6),.int .u8 (K 7),.int .u8 (K 8),.int .u8 (K 9),.int .u8 (K 10),.int .u8 (K 11),.int .u8 (K 12),.int .u8 (K 13),.int .u8 (K 14),.int .u8 (K 15)]) (.agg #[.int .u8 (K 0),.int .u8 (K 1),.int .u8 (K 2),.int .u8 (K 3),.int .u8 (K 4),.int .u8 (K 5),.int .u8 (K 6),.int .u8 (K 7),.int .u8 (K 8),.int .u8 (K 9),.int .u8 (K 10),.int .u8 (K 11),.int .u8 (K 12),.int .u8 (K 13),.int .u8 (K 14),.int .u8 (K 15)]) ((idL K).map (Lit.int .u8)) ((idL K).map (Lit.int .u8)) (by kernel_rfl) (by kernel_rfl) (aMf K b) (aMf K b)
 have h:r=true:=a.2 rfl
 subst h
 rw[run_eql_struct,show(10000:Nat)=9998+2 from rfl,c]
 rfl
theorem rec_range {w:World}{g:Nat}{T:TypeId}{s r m:Int}{K:Nat→Int}{F:Value}(h:Blk w g (recL s r m K F) T):w.rangeAt g 3 (idJ K):=fun j v hj=>by
 have a:j<16:=(List.getElem?_eq_some_iff.1 hj).1
 refine h.cell (i:=3+j) ?_
 rw[aC7 K j a]at hj
 rcases j with _|_|_|_|_|_|_|_|_|_|_|_|_|_|_|_|j
 all_goals first|exact hj|omega
attribute [local irreducible] wpList Code.wp
end Rq
namespace Zs
open Bytes8 Blk8 Own8 OwnE Rows2 Ob Nr Np Pr8 Yq Pb8 Rq
theorem subB_yes {l m:List PR}(h: ∀x∈l,x∈m):subB l m=true:=by
 unfold subB
 rw[List.all_eq_true]
 exact fun x hx=>by simpa using h x hx
theorem aMg {s r m:Int}{K a:Nat→Int}{F:Value}(h: ∀i,i<16→K i=a i):recL s r m K F=recL s r m a F:=by
 unfold recL
 rw[h 0 (by decide),h 1 (by decide),h 2 (by decide),h 3 (by decide),h 4 (by decide),h 5 (by decide),h 6 (by decide),h 7 (by decide),h 8 (by decide),h 9 (by decide),h 10 (by decide),h 11 (by decide),h 12 (by decide),h 13 (by decide),h 14 (by decide),h 15 (by decide)]
attribute [local irreducible] wpList Code.wp
theorem aH6 (s r m:Int)(K:Nat→Int)(Y:IdOk K)(A B:Option Addr)(n k c d:Nat)(y z:List PR)(w:World)(h1:Prs w A y)(h2:Prs w B z)(v:y.length=n)(o:z.length=k)(M:n≤1000000)(J:k≤1000000)(hs: ∀x,x∈y↔x∈z):
 Calls Tryz.prog 35 #[.agg (recL s r m K (.slice A n c)).toArray,.agg (recL s r m K (.slice B k d)).toArray] w fun e w'=>e= .returned (.bool true)∧Below w.heap.size w w':=by
 have D:=yH (((yB w.heap.size w).alloc (yR _) (.cells (recL s r m K (.slice A n c)).toArray 64)).alloc (by simp) (.cells (recL s r m K (.slice B k d)).toArray 64))
 have f:=yH ((show Blk (w.alloc (.cells (recL s r m K (.slice A n c)).toArray 64)) w.heap.size (recL s r m K (.slice A n c)) 64 from Blk.new w _ _).alloc (.cells (recL s r m K (.slice B k d)).toArray 64))
 have j:=yH (show Blk ((w.alloc (.cells (recL s r m K (.slice A n c)).toArray 64)).alloc (.cells (recL s r m K (.slice B k d)).toArray 64)) (w.heap.size+1) (recL s r m K (.slice B k d)) 64 from Blk.new_at _ _ _ _ (by simp))
 have t:=yH (h1.below D.out)
 have p:=yH (h2.below D.out)
 have R:=aQj K Y
 clear h1 h2
 have p0:=f.out.cell (i:=0) rfl;have p1:=f.out.cell (i:=1) rfl;have p2:=f.out.cell (i:=2) rfl;have X:=f.out.cell (i:=19) rfl
 have q0:=j.out.cell (i:=0) rfl;have q1:=j.out.cell (i:=1) rfl;have q2:=j.out.cell (i:=2) rfl;have Z:=j.out.cell (i:=19) rfl
 go_enter Tryz.func35,Tryz.ntmps35
 go_upto_region 1 with fail
 have l:=f.out.lt
 have u:=j.out.lt
 have H:=yH (rec_range f.out)
 have I:=yH (rec_range j.out)
 generalize (w.alloc (.cells (recL s r m K (.slice A n c)).toArray 64)).alloc (.cells (recL s r m K (.slice B k d)).toArray 64)=b at*
 have F:=yH (by have q:=aEA A B y z n k c d b t.out p.out v o M J;rw[subB_yes fun x hx=>(hs x).1 hx]at q;exact q)
 have G:=yH fun(W:World) (hW:Below b.heap.size b W)=>by have q:=aEA B A z y k n d c W (p.out.below hW) (t.out.below hW) o v J M;rw[subB_yes fun x hx=>(hs x).2 hx]at q;exact q
 have HP:=yH fun(W:World) (hW:Below b.heap.size b W)=>(f.out.below hW l).cell (i:=19) rfl
 have V:=yH fun(W:World) (hW:Below b.heap.size b W)=>(j.out.below hW u).cell (i:=19) rfl
 go_wp2_with(first
  |(refine aA2 rfl 61 (.tmp 25) rfl w.heap.size 3 rfl [.int .u8 (K 0),.int .u8 (K 1),.int .u8 (K 2),.int .u8 (K 3),.int .u8 (K 4),.int .u8 (K 5),.int .u8 (K 6),.int .u8 (K 7),.int .u8 (K 8),.int .u8 (K 9),.int .u8 (K 10),.int .u8 (K 11),.int .u8 (K 12),.int .u8 (K 13),.int .u8 (K 14),.int .u8 (K 15)] _ H.out Tryz.underlying61 rfl idInfo ?_)
  |(refine aA2 rfl 61 (.tmp 27) rfl (w.heap.size+1) 3 rfl [.int .u8 (K 0),.int .u8 (K 1),.int .u8 (K 2),.int .u8 (K 3),.int .u8 (K 4),.int .u8 (K 5),.int .u8 (K 6),.int .u8 (K 7),.int .u8 (K 8),.int .u8 (K 9),.int .u8 (K 10),.int .u8 (K 11),.int .u8 (K 12),.int .u8 (K 13),.int .u8 (K 14),.int .u8 (K 15)] _ I.out Tryz.underlying61 rfl idInfo ?_)
  |(go_at_call 78;(with_reducible refine F.out.mono ?_);rintro e w2 ⟨rfl,a⟩;have g:=yH a;have L:=HP.out _ a;have N:=V.out _ a;clear a)
  |(go_at_call 78;(with_reducible refine(G.out _ g.out).mono ?_);rintro e w3 ⟨rfl,C⟩;have E:=yH (g.out.trans (C.mono g.out.size));clear C))
 go_ret
 exact⟨rfl,D.out.trans (E.out.mono D.out.size)⟩
end Zs
namespace Skc
open Bytes8 Blk8 Own8 OwnE Ga Gb Ma Na Np Nr Ns Nt Rn Rr
open Jj (prs_off)
open Go1 (hcode)
open Yg (NewIn aAr)
attribute [local irreducible] HD.cells wpList Code.wp
theorem aN1 {w:World}{a m:Nat}{R:Nat→RecP}(q:Idx w a m R)(k:Int)(C:k<0∨(m:Int)≤k):Calls Tryz.prog 33 #[.pointer (some ⟨a,0,none⟩),.int .i64 k] w fun e w'=>e= .returned (.tuple #[.agg zR,.bool false])∧Below w.heap.size w w':=by
 obtain⟨gf,B,h,A,E,c,l,P,n,cp,out,cd,j,g,b,o,r,s,rfl⟩:=q
 have f:=yH ((yB w.heap.size w).alloc (yR _) (.cells zR 64))
 have d:=yH (heap_alloc_new w (.cells zR 64))
 have x:(w.alloc (.cells zR 64)).cell? ⟨a,1,none⟩=some (.slice j m g):=(f.out.cell (p:=⟨a,1,none⟩) b.lt).trans (b.cell (i:=1) rfl)
 have D:w.cell? ⟨a,1,none⟩=some (.slice j m g):=b.cell (i:=1) rfl
 have u:Tryz.prog.built 64 []=some zR:=by kernel_rfl
 clear b o r s
 by_cases z:k<0
 ·have t:decide (k<0)=true:=by simp;omega
  go_enter Tryz.func33,Tryz.ntmps33
  go_wp2_with(first
   |((with_reducible apply aAa (.tmp 4) (.tmp 19));refine wpList_store_row rfl 64 (.tmp 4) (.tmp 19) rfl w.heap.size zR rfl rfl 64 zR d.out (by kernel_rfl) rfl (aAo 0 0 0 (fun _=>0) none 0 0) ?_)
   |fail)
  refine bodyPost_ret (v:= .tuple #[.agg zR,.bool false]) (by exact aAr Tryz.results33 _ _ w.heap.size 64 _ (0,0) _ _ rfl rfl (setRow_heap _ _ _ _ _ (0,0) d.out) Tryz.underlying64 rfl (by kernel_rfl)) rfl ?_
  exact⟨rfl,below_setRow f.out (yR _) _⟩
 ·have t:decide (k<0)=false:=by simp;omega
  have y:decide ((m:Int)≤k)=true:=by simp;omega
  go_enter Tryz.func33,Tryz.ntmps33
  go_wp2_with(first
   |((with_reducible apply aAa (.tmp 4) (.tmp 19));refine wpList_store_row rfl 64 (.tmp 4) (.tmp 19) rfl w.heap.size zR rfl rfl 64 zR d.out (by kernel_rfl) rfl (aAo 0 0 0 (fun _=>0) none 0 0) ?_)
   |fail)
  refine bodyPost_ret (v:= .tuple #[.agg zR,.bool false]) (by exact aAr Tryz.results33 _ _ w.heap.size 64 _ (0,0) _ _ rfl rfl (setRow_heap _ _ _ _ _ (0,0) d.out) Tryz.underlying64 rfl (by kernel_rfl)) rfl ?_
  exact⟨rfl,below_setRow f.out (yR _) _⟩
end Skc
namespace Jf
open Bytes8 Blk8 OwnE Rows2 Ga Gb Ma Kf Na Np Nr Nt Nu Rc Rr Va Pr8 Dc
def RowAt (w:World)(A:Option Addr)(i:Nat)(r:RecP):Prop:= ∃(b:Nat) (F:Option Addr) (c:Nat),A=some ⟨b,0,none⟩∧b<w.heap.size∧w.rangeAt b (i*20) (recL r.s r.r r.m r.K (.slice F r.n c))∧Prs w F r.pl∧r.Ok
theorem RowAt.below {w w':World}{A:Option Addr}{i:Nat}{r:RecP}(h:RowAt w A i r)(d:Below w.heap.size w w'):RowAt w' A i r:=by
 obtain⟨b,F,c,e,f,l,g,k⟩:=h
 exact⟨b,F,c,e,yL f d.size,fun j v hj=>(World.cell?_of_block (a:=⟨b,i*20+j,none⟩) (d.block b f)).trans (l j v hj),g.below d,k⟩
theorem aMh {w:World}{B n c:Nat}{A:Option Addr}{xs:List Value}(h:OwnE 64 20 w B A n c xs)(i:Nat)(l:i<n): ∃b,A=some ⟨b,0,none⟩∧b<w.heap.size∧w.rangeAt b (i*20) ((xs.drop (20*i)).take 20):=by
 have k:xs.length=n*20:=OwnE.len h
 obtain⟨b,e,_,d,_⟩:=OwnE.cell h (i:=20*i) (by omega)
 refine⟨b,e,d,fun j v hj=>?_⟩
 have f:j<20:=by
  have:=(List.getElem?_eq_some_iff.1 hj).1
  rw[List.length_take]at this;omega
 rw[List.getElem?_take_of_lt f,List.getElem?_drop]at hj
 rw[Nat.mul_comm i 20]
 obtain⟨b2,a,_,_,g⟩:=OwnE.cell h (i:=20*i+j) (List.getElem?_eq_some_iff.1 hj).1
 rw[e]at a
 injection a with a
 injection a with a
 subst a
 exact g.trans hj
theorem aJ1 {w:World}{B n c:Nat}{A:Option Addr}{xs:List Value}{l:Nat}{F:Nat→Prop}{b0:Int}{rs:List Zj.RR}(h:OwnE 64 20 w B A n c xs)(q:RowsR w l F A xs b0 rs)(i:Nat)(f:i<rs.length)(o:IdOk rs[i].2.2.2):RowAt w A i (rowP b0 i rs[i]):=by
 have s:xs.length=n*20:=OwnE.len h
 have g:=q.len
 obtain⟨b,e,a,d⟩:=aMh h i (by omega)
 obtain⟨j,r,cr,k,p,t,m,_⟩:=q.at_ i f
 rw[k]at d
 subst p
 exact⟨b,j,cr,e,a,d,m,⟨o,rfl,by show rs[i].1.length≤_;omega⟩⟩
attribute [local irreducible] HD.cells wpList Code.wp
end Jf
namespace SeekRecordsW
open Bytes8 Blk8 Own8 OwnM OwnE Rows2 Od Ga Gb Gj Ma Mb Mh Na Np Nr Ns Nt Nu Rc Rn Rr Va Wa Pr8 Zg Zh Zj Zl Zs Seq8 Kf Jb Jd Jf Ji Ska Skc Skd Skf
open Go1 (hcode)
attribute [local irreducible] HD.cells wpList Code.wp
theorem aPz {w:World}{b m:Nat}{R:Nat→RecP}(d:Idx w b m R)(x:Nat)(f:x<m):
 Calls Tryz.prog 34 #[.pointer (some ⟨b,0,none⟩),.int .u64 (R x).s] w fun e w'=>(∃c:Nat,e= .returned (.tuple #[.int .i64 (x:Int),.int .i64 (c:Int)]))∧Below w.heap.size w w':=by
 have a:=d.facts.2.2.1
 refine(aHT d (R x).s).mono ?_
 rintro e w' ⟨r,c,rfl,i,_,j⟩
 have g:r=x:=i.uniq ⟨Nat.le_of_lt f,fun k hk=>by have:=a k x hk f;simp;omega,fun _=>by simp⟩
 subst g
 exact⟨⟨c,rfl⟩,j⟩
theorem aJ2 {w:World}{g:Nat}{a:List Value}{T:TypeId}(h:Blk w g a T):w.rangeAt g 0 a:=fun j v hj=>by rw[Nat.zero_add];exact h.cell hj
theorem walk_main (a:Option Addr)(len H:Nat)(f:Nat→Int)(z:Int)(w:World)(hI:InInts .i64 w a len f)(hl:len≤300):
 Calls Tryz.prog 7 #[.slice a len H,.int .i64 z] w fun e w'=>e= .returned (.bool true)∧Below w.heap.size w w':=by
 have d1:decide ((300:Int)<(len:Int))=false:=by simp;omega
 have HI:=yH hI
 clear hI
 go_enter Tryz.func7,Tryz.ntmps7
 go_upto_region 6 with(go_at_call 30;((with_reducible refine(aDg _).mono ?_);rintro e w1 ⟨rfl,k⟩;have B1:=yH k;clear k))
 clear d1
 have ah:=yH (HI.out.below B1.out)
 have Q1:=yH (show SeqIn (w1.alloc (.cells #[.slice a len H,.int .i64 0] 42)) w1.heap.size a len H f 0 from⟨Blk.new w1 [.slice a len H,.int .i64 0] _,ah.out.below ((yB _ _).alloc (yR _) _),fun h0 b off e=>by obtain⟨b',a6,e',h1,_⟩:=ah.out 0 h0;rw[e]at e';injection e' with e';injection e' with e';omega,Nat.zero_le _,by omega⟩)
 have b1:=yH ((yB w1.heap.size w1).alloc (yR _) (.cells #[.slice a len H,.int .i64 0] 42))
 have HM:=yH (aEX w1.heap.size a len H f 0 30 _ Q1.out (by decide))
 unfold MadeR at HM
 go_upto_region 7 with(first
  |(go_at_call 21;(refine HM.out.mono ?_);rintro e w2 ⟨g,A,n,c,B,p,m,rs,xs,b0,rfl,J,aS,au,hk,aL,aM,aH,aZ,aB⟩;have HA:=yH aS;have HG:=yH au;have HK:=yH hk;have aY:=yH aL;have aN:=yH aM;have N:=yH aH;have aG:=yH aZ;have ar:=yH aB;clear aS au hk aL aM aH aZ aB)
  |fail)
 have hI:=HG.out.img
 obtain⟨l1,l2,l3⟩:=hI.lens
 have a7:=HG.out.le
 obtain⟨os,hs,Z,es,r,s⟩:=aGD aN.out
 have a4:=yH (show Z.length=n by rw[r.len,N.out])
 have ht:(0:Int)≤1∧(1:Int)≤2:=by decide
 have ac:=yH (aD5 B g p.bb p.cb p.S m 1 w2 HA.out.st (by omega) (aLO hI ht) (by have:=hI.inv.dep;omega))
 unfold Owned at ac
 have aC:(HD.plus (Mk.head m 1) (m.depth:Int)).bytes 21++m.b.drop 272=stL m 1:=rfl
 rw[aC]at ac
 have X:=yH fun(A:Option Addr) (c:Nat) (W:World) (hb:Bytes W A (stL m 1)) (hc:m.b.length≤c)=>aLR r ht A c W hb hc
 unfold Op16 at X
 obtain⟨az,aI⟩:=aLQ r s ht (by rw[N.out];exact aG.out)
 have aJ:(toI Z).length=Z.length:=List.length_map _
 rw[aJ]at X
 have V:(goodL (hdOf (stL m 1)) (stL m 1) m.b.length (toI Z) Z.length).length=n:=by rw[←aDu,az,N.out]
 have an:=yH (show ∀i (hi:i<rs.length),SameP (rK (hdOf (stL m 1)) (stL m 1) m.b.length (toI Z) Z.length i) (rowP b0 i rs[i])from fun i hi=>by
  rw[←aLS _ _ _ _ _ i (by rw[V,←N.out];exact hi)]
  exact aI i hi)
 rw[V]at X
 have aK:=yH fun(i:Nat) (hi:i<rs.length)=>(s.ok _ (List.getElem_mem hi)).K
 have B2:=yH (B1.out.trans ((b1.out.trans (KeptB.below (HK.out.mono b1.out.size) (yR _))).mono B1.out.size))
 clear Q1 HM b1 HI ah aC hI r s aN aG HG HK l1 l2 l3 HA aI az aJ ht V
 generalize rK (hdOf (stL m 1)) (stL m 1) m.b.length (toI Z) Z.length=R at*
 generalize stL m 1=l at*
 generalize m.b.length=E at*
 have a0:((n:Int)!=(n:Int))=false:=by simp
 go_upto_region 10 with(first
  |(go_at_call 22;(refine ac.out.mono ?_);rintro e w3 ⟨A3,c3,rfl,ao,t⟩;have aT:=yH ao.bytes;have aF:=yH (aBs ao);have B3:=yH t;clear ao t)
  |(go_at_call 31;(refine(X.out _ _ _ aT.out aF.out.1).mono ?_);rintro e w4 ⟨gx,A9,c9,ys,B0,rfl,hx,_,_,aW⟩;have HX:=yH hx;have HL:=yH (aFN hx);have B4:=yH (B3.out.trans (aW.mono B3.out.size));clear hx aW)
  |(go_at_call 32;((refine HL.out.mono ?_);rintro e w6 ⟨rfl,rfl⟩))
  |fail)
 have al:=yH fun(i:Nat) (hi:i<rs.length)=>(aJ1 aY.out.own ar.out i hi (aK.out i hi)).below B4.out
 have S4:=yH (yB w4.heap.size w4)
 have BW:=yH (B2.out.trans (B4.out.mono B2.out.size))
 clear HL ac X aY ar aK aT aF J B3 a0 B1 B2 B4 a4
 go_wp2_with fail
 go_loopw [10] (fun iv wr=> ∃x:Nat,x≤n∧iv= .int .i64 (x:Int)∧Hid (Below w4.heap.size w4 wr)) (fun iv _=>n-Rn.natOf iv)
 case atStart=>exact⟨0,Nat.zero_le _,rfl,S4⟩
 case round=>
  clear S4
  obtain⟨x,hx,rfl,J⟩:=hrel
  have C:=yH (HX.out.below J.out)
  by_cases aa:x<n
  ·have a2:decide ((x:Int)<(n:Int))=true:=by simp;omega
   have ba:(x:Int)<(n:Int):=by omega
   have a8:IntKind.i64.wrap ((x:Int)+1)=((x+1:Nat):Int):=by rw[IntKind.wrap_i64];omega
   have ai:x<rs.length:=by rw[N.out];exact aa
   obtain⟨bb,Fb,cb,rfl,aq,ap,av,ag⟩:=(al.out x ai).below J.out
   obtain⟨s1,s2,s3,s4,s5⟩:=an.out x ai
   rw[←s1,←s2,←s3,←aMg s4]at ap
   have ad:=HX.out.facts.2.1 x
   have a1:=yH ad.K
   have la:=ad.len;have na:=ad.n;have lb:=ag.len;have nb:=ag.n
   have u:=yH (aHR C.out x aa)
   have aX:=yH fun(W:World) (hW:Below wr.heap.size wr W)=>aPz (C.out.below hW) x aa
   have aR:=yH ap
   have a5:=yH av
   have a3:=yH s5
   unfold ITell at u
   clear s1 s2 s3 s4 s5 ad ag ap av an al HX C
   generalize R x=p at*
   generalize rowP b0 x _=q at*
   clear ai
   obtain⟨D,real,mono,K,M,pl⟩:=p
   obtain⟨_,_,_,_,nr,L⟩:=q
   dsimp only at*
   go_upto_region 14 with(first
    |(go_at_call 33;(refine u.out.mono ?_);rintro e d ⟨I,o,rfl,aQ,_,k⟩;have aU:=yH aQ;have F:=yH k;clear aQ k)
    |((with_reducible apply aAa (.tmp 11) (.tmp 56));refine wpList_store_row rfl 64 (.tmp 11) (.tmp 56) rfl d.heap.size (recL D real mono K (.slice I M o)).toArray rfl rfl 64 zR (heap_alloc_new d _) (aAm _ _ _ _ _) rfl (by simp[Value.oneCell']) ?_)
    |fail)
   have aj:=yH (show Blk ((d.alloc (.cells zR 64)).setRow d.heap.size (recL D real mono K (.slice I M o)).toArray) d.heap.size (recL D real mono K (.slice I M o)) 64 from setRow_heap _ _ _ _ _ (0,0) (heap_alloc_new d _))
   have am:=yH (show Below d.heap.size d ((d.alloc (.cells zR 64)).setRow d.heap.size (recL D real mono K (.slice I M o)).toArray)from below_setRow ((yB _ _).alloc (yR _) _) (yR _) _)
   generalize (d.alloc (.cells zR 64)).setRow d.heap.size (recL D real mono K (.slice I M o)).toArray=y2 at*
   have C2:=yH (F.out.trans (am.out.mono F.out.size))
   have ax:=yH (aU.out.below am.out)
   have aA:=aj.out.lt
   generalize d.heap.size=aw at*
   have kS:y2.cell? ⟨bb,x*20,none⟩=some (.int .u64 D):=(C2.out.cell (p:=⟨bb,x*20,none⟩) aq).trans (aR.out 0 _ rfl)
   have ay:=yH (aX.out y2 C2.out)
   clear u aX aU F am
   go_upto_region 15 with(first
    |(go_at_call 34;(refine ay.out.mono ?_);rintro e Y ⟨⟨cl,rfl⟩,t⟩;have C3:=yH (C2.out.trans (t.mono C2.out.size));have aD:=yH (ax.out.below t);have ak:=yH (aj.out.below t aA);clear t)
    |fail)
   clear ay kS ax aj C2
   have aP:=ak.out.lt
   have aV:=yL aq C3.out.size
   have af:=yH (a5.out.below C3.out)
   have D0:=yH (show Below Y.heap.size Y Y.drew from(yB Y.heap.size Y).drew)
   have HS:=yH fun(W:World) (hW:Below Y.heap.size Y W)=>show W.rangeAt aw 0 (recL D real mono K (.slice I M o))∧W.rangeAt bb (x*20) (recL D real mono K (.slice Fb nr cb))from
    ⟨aJ2 (ak.out.below hW aP),fun j v hj=>(World.cell?_of_block (a:=⟨bb,x*20+j,none⟩) (hW.block bb aV)).trans ((World.cell?_of_block (a:=⟨bb,x*20+j,none⟩) (C3.out.block bb aq)).trans (aR.out j v hj))⟩
   have aO:=yH fun(W:World) (hW:Below Y.heap.size Y W)=>aH6 D real mono K a1.out I Fb M nr o cb pl L W (aD.out.below hW) (af.out.below hW) la lb na nb a3.out
   have a9:((x:Int)!=(x:Int))=false:=by simp
   refine wp_region_noPanic ?_
   refine wp_region_held_drew (S:=fun W:World=>W.rangeAt aw 0 (recL D real mono K (.slice I M o))∧W.rangeAt bb (x*20) (recL D real mono K (.slice Fb nr cb))) (by kernel_rfl) (by exact HS.out _ D0.out) (fun hHeld=>?_)
   refine tq 0 68 rfl (fun W hSw=>by go_simp;try (with_reducible rfl)) ?_
   try simp only[Act.put,sA,sZ,sS]
   refine tq 1 69 rfl (fun W hSw=>by go_simp;try (with_reducible rfl)) ?_
   try simp only[Act.put,sA,sZ,sS]
   refine tq 2 70 rfl (fun W hSw=>by go_simp;try (with_reducible rfl)) ?_
   try simp only[Act.put,sA,sZ,sS]
   refine tk (i:=3) (oi:=⟨some 71,_,_,_,_,_⟩) rfl (yieldsIf_load_mid (by rfl) _ _ rfl _ _ rfl _ _ (fun _ h=>h.1) Tryz.underlying64 rfl (aAm _ _ _ _ _)) ?_
   try simp only[Act.put,sA,sZ,sS]
   refine tq 4 72 rfl (fun W hSw=>by go_simp;try (with_reducible rfl)) ?_
   try simp only[Act.put,sA,sZ,sS]
   refine tq 5 73 rfl (fun W hSw=>by go_simp;try (with_reducible rfl)) ?_
   try simp only[Act.put,sA,sZ,sS]
   refine tq 6 74 rfl (fun W hSw=>by go_simp;try (with_reducible rfl)) ?_
   try simp only[Act.put,sA,sZ,sS]
   refine tk (i:=7) (oi:=⟨some 75,_,_,_,_,_⟩) rfl (yieldsIf_load_mid (by rfl) _ _ rfl _ _ rfl _ _ (fun _ h=>h.2) Tryz.underlying64 rfl (aAm _ _ _ _ _)) ?_
   try simp only[Act.put,sA,sZ,sS]
   refine rd 8 rfl (fun KK hKK=>?_)
   go_simp
   ((with_reducible refine(aO.out _ D0.out).mono ?_);rintro e w9 ⟨rfl,aE⟩;have B9:=yH (D0.out.trans (aE.mono D0.out.size));clear aE)
   try go_wp2_with fail
   refine hKK.out _ _ (by exact(HS.out _ B9.out)) (fun hHeld=>?_)
   clear hKK KK
   try simp only[Act.put,sA,sZ,sS]
   refine tq 9 77 rfl (fun W hSw=>by go_simp;try (with_reducible rfl)) ?_
   try simp only[Act.put,sA,sZ,sS]
   refine tq 10 78 rfl (fun W hSw=>by go_simp;try (with_reducible rfl)) ?_
   try simp only[Act.put,sA,sZ,sS]
   refine tq 11 79 rfl (fun W hSw=>by go_simp;try (with_reducible rfl)) ?_
   try simp only[Act.put,sA,sZ,sS]
   refine tq 12 80 rfl (fun W hSw=>by go_simp;try (with_reducible rfl)) ?_
   try simp only[Act.put,sA,sZ,sS]
   refine tq 13 81 rfl (fun W hSw=>by go_simp;try (with_reducible rfl)) ?_
   try simp only[Act.put,sA,sZ,sS]
   refine tq 14 82 rfl (fun W hSw=>by go_simp;try (with_reducible rfl)) ?_
   try simp only[Act.put,sA,sZ,sS]
   refine tq 15 83 rfl (fun W hSw=>by go_simp;try (with_reducible rfl)) ?_
   try simp only[Act.put,sA,sZ,sS]
   refine wpAnyH_done (by kernel_rfl) ?_ _
   refine NoPanic.normal ?_
   have SK:=yH (J.out.trans ((C3.out.trans (B9.out.mono C3.out.size)).mono J.out.size))
   clear HS aO hHeld D0 B9 ak aD af C3
   go_wp2_with fail
   go_roundw
   case rel=>exact⟨x+1,aa,rfl,SK⟩
   case measure=>simp[Rn.natOf];omega
  ·have a2:decide ((x:Int)<(n:Int))=false:=by simp;omega
   clear an al
   by_cases ae:0≤z∧z<(n:Int)
   ·obtain⟨y,rfl⟩: ∃y:Nat,z=(y:Int):=⟨z.toNat,by omega⟩
    have hy:y<n:=by omega
    have e1:decide ((0:Int)≤(y:Int))=true:=by simp
    have e2:decide ((y:Int)<(n:Int))=true:=by simp;omega
    have u:=yH (aHR C.out y hy)
    unfold ITell at u
    clear HX C ae hx
    generalize R y=p at*
    obtain⟨D,real,mono,K,M,pl⟩:=p
    dsimp only at*
    go_upto_region 18 with(first
     |(go_at_call 33;(refine u.out.mono ?_);rintro e d ⟨I,o,rfl,_,_,k⟩;have F:=yH k;clear k)
     |((with_reducible apply aAa (.tmp 15) (.tmp 88));refine wpList_store_row rfl 64 (.tmp 15) (.tmp 88) rfl d.heap.size (recL D real mono K (.slice I M o)).toArray rfl rfl 64 zR (heap_alloc_new d _) (aAm _ _ _ _ _) rfl (by simp[Value.oneCell']) ?_)
     |fail)
    have Bz:=yH (show Below d.heap.size d ((d.alloc (.cells zR 64)).setRow d.heap.size (recL D real mono K (.slice I M o)).toArray)from below_setRow ((yB _ _).alloc (yR _) _) (yR _) _)
    generalize (d.alloc (.cells zR 64)).setRow d.heap.size (recL D real mono K (.slice I M o)).toArray=y2 at*
    have BF:=yH (BW.out.trans ((J.out.trans ((F.out.trans (Bz.out.mono F.out.size)).mono J.out.size)).mono BW.out.size))
    clear u Bz F
    go_wp2_with fail
    go_ret
    exact⟨rfl,BF.out⟩
   ·have G:=yH (aN1 C.out z (by omega))
    have ab:(decide (0≤z)&&decide (z<(n:Int)))=false:=by
     cases h1:decide (0≤z)with
     |false=>rfl
     |true=>
      have h2:0≤z:=by simpa using h1
      have h3: ¬z<(n:Int):=fun h=>ae ⟨h2,h⟩
      simp[h3]
    clear HX C hx
    by_cases h0:0≤z
    ·have e1:decide (0≤z)=true:=by simpa using h0
     have e2:decide (z<(n:Int))=false:=by rw[e1,Bool.true_and]at ab;exact ab
     clear ab h0 ae
     go_upto_region 18 with(first
      |(go_at_call 33;(refine G.out.mono ?_);rintro e d ⟨rfl,k⟩;have F:=yH k;clear k)
      |((with_reducible apply aAa (.tmp 15) (.tmp 88));refine wpList_store_row rfl 64 (.tmp 15) (.tmp 88) rfl d.heap.size zR rfl rfl 64 zR (heap_alloc_new d _) (by kernel_rfl) rfl (aAo 0 0 0 (fun _=>0) none 0 0) ?_)
      |fail)
     have Bz:=yH (show Below d.heap.size d ((d.alloc (.cells zR 64)).setRow d.heap.size zR)from below_setRow ((yB _ _).alloc (yR _) _) (yR _) _)
     generalize (d.alloc (.cells zR 64)).setRow d.heap.size zR=y2 at*
     have BF:=yH (BW.out.trans ((J.out.trans ((F.out.trans (Bz.out.mono F.out.size)).mono J.out.size)).mono BW.out.size))
     clear G Bz F
     go_wp2_with fail
     go_ret
     exact⟨rfl,BF.out⟩
    ·have e1:decide (0≤z)=false:=by simp;omega
     clear ab h0 ae
     go_upto_region 18 with(first
      |(go_at_call 33;(refine G.out.mono ?_);rintro e d ⟨rfl,k⟩;have F:=yH k;clear k)
      |((with_reducible apply aAa (.tmp 15) (.tmp 88));refine wpList_store_row rfl 64 (.tmp 15) (.tmp 88) rfl d.heap.size zR rfl rfl 64 zR (heap_alloc_new d _) (by kernel_rfl) rfl (aAo 0 0 0 (fun _=>0) none 0 0) ?_)
      |fail)
     have Bz:=yH (show Below d.heap.size d ((d.alloc (.cells zR 64)).setRow d.heap.size zR)from below_setRow ((yB _ _).alloc (yR _) _) (yR _) _)
     generalize (d.alloc (.cells zR 64)).setRow d.heap.size zR=y2 at*
     have BF:=yH (BW.out.trans ((J.out.trans ((F.out.trans (Bz.out.mono F.out.size)).mono J.out.size)).mono BW.out.size))
     clear G Bz F
     go_wp2_with fail
     go_ret
     exact⟨rfl,BF.out⟩
theorem walk (a:Option Addr)(len b:Nat)(z:List Int)(d:Int)(w:World)(h:IsRow .i64 w a len b z)(hs:(Lit.int .i64 d).wf=true):
 Calls Tryz.prog 7 #[.slice a len b,.int .i64 d] w fun e w'=>e= .returned (.bool true)∧Below w.heap.size w w':=by
 obtain⟨f,j,l⟩:=aPx h
 by_cases g:len≤300
 ·exact walk_main a len b _ d w f g
 ·have k:decide ((300:Int)<(len:Int))=true:=by simp;omega
  clear h f
  go_enter Tryz.func7,Tryz.ntmps7
  go_wp2_with(go_at_call 30;((with_reducible refine(aDg _).mono ?_);rintro e w1 ⟨rfl,c⟩;have i:=yH c;clear c))
  go_ret
  exact⟨rfl,i.out⟩
end SeekRecordsW
end Go.Proofs.YteaikbodkgjkdaaGreat
