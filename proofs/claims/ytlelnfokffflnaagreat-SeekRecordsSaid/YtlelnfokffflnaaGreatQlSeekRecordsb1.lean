/-
  Texts beneath the proof.
-/
import Derived.Test.YtlelnfokffflnaaGreatQl44
set_option linter.unusedVariables false
set_option linter.unusedSimpArgs false
set_option maxRecDepth 100000
set_option maxHeartbeats 16000000
open Go.ChangeShapes Go.WideShapes Go.ChangeAt Go.RowKit
namespace Go.Proofs.YtlelnfokffflnaaGreat
namespace Blk8
def IsRow (k:IntKind)(w:World)(a:Option Addr)(len cap:Nat)(zs:List Int):Prop:=
 (a=none∧len=0∧cap=0∧zs=[])∨
 ∃x,a=some x∧len≤cap∧cap≤maxLen∧zs.length=cap∧(∀i,i<zs.length→w.cell? (x.add i)=some (.int k (zs.getD i 0)))∧ ∀n∈zs,(Lit.int k n).wf=true
theorem aH5 {H:Type}{enc:TypeId×Value→H}{P:Program}{w:World}{base:Nat}{i:Bool}{t e:TypeId}{k:IntKind}{a:Option Addr}{len g:Nat}{d:DataW H}{p:List MemPlace}(u:P.underlying t=some (.slice e))(r:P.underlying e=some (.int k))(q:P.cellsOf e=1)
 (h:DataW.Trod enc P w base (fun _=>true) i t (.slice a len g) d p): ∃m,IsRow k w a len g m:=by
 obtain⟨n,o⟩:=h
 rcases open_ints u r q o with⟨b,_⟩|⟨x,l,c,m,b,_,y,s,v,_,f,j⟩
 ·simp[Value.cells]at b
  obtain⟨rfl,rfl,rfl⟩:=b
  exact⟨[],.inl ⟨rfl,rfl,rfl,rfl⟩⟩
 ·simp[Value.cells]at b
  obtain⟨rfl,rfl,rfl⟩:=b
  exact⟨m,.inr ⟨_,rfl,y,s,by simpa using v,f,j⟩⟩
end Blk8
namespace Rows2
open Bytes8 Blk8
theorem aPx {k:IntKind}{w:World}{a:Option Addr}{len d:Nat}{j:List Int}(h:IsRow k w a len d j):InInts k w a len (fun i=>j.getD i 0)∧len≤d∧d≤maxLen:=by
 rcases h with⟨rfl,rfl,rfl,rfl⟩|⟨x,rfl,q,p,r,c,n⟩
 ·exact⟨fun i hi=>absurd hi (by omega),yR _,by decide⟩
 ·refine⟨fun i hi=>?_,q,p⟩
  have l:=c i (by omega)
  obtain⟨b,m,f⟩:=x
  have e:f=none:=by
   have o:=c 0 (by omega)
   simpa [Addr.add]using World.cell?_spot o
  subst e
  have g:=aAH l
  rw[aAV]at l g
  refine⟨b,m,rfl,g,l,n _ ?_⟩
  show j.getD i 0∈j
  rw[List.getD_eq_getElem?_getD,List.getElem?_eq_getElem (show i<j.length by omega)]
  exact List.getElem_mem _
end Rows2
namespace Yq
open Blk8 Ob
theorem idInfo:(Tryz.prog.info? 37).map (·.size)=some 16:=by kernel_rfl
theorem aMf (K:Nat→Int)(b:IdOk K):Tryz.prog.keyLits 2 37 [.int .u8 (K 0),.int .u8 (K 1),.int .u8 (K 2),.int .u8 (K 3),.int .u8 (K 4),.int .u8 (K 5),.int .u8 (K 6),.int .u8 (K 7),.int .u8 (K 8),.int .u8 (K 9),.int .u8 (K 10),.int .u8 (K 11),.int .u8 (K 12),.int .u8 (K 13),.int .u8 (K 14),.int .u8 (K 15)]=some ((idL K).map (Lit.int .u8)):=by
 have a: ∀i,(Lit.int .u8 (K i)).wf=true:=fun i=>by
  have:=b i
  simp[Lit.wf,IntKind.min,IntKind.max,IntKind.signed,IntKind.bits]
  omega
 have d:Tryz.prog.cellsOf 37=16:=by kernel_rfl
 have e:Tryz.prog.cellsOf 5=1:=by kernel_rfl
 have c:List.range 16=[0,1,2,3,4,5,6,7,8,9,10,11,12,13,14,15]:=rfl
 simp[Program.keyLits,Tryz.underlying37,Tryz.underlying5,d,e,c,a,idL]
theorem aA2 {P:Program}{c:Array Oper}{rest:List Oper}{e:Oper}{a:Act}{w:World}{Q:Exit→Act→World→Prop}(p:Region.wanted e (yielded c a.tmps)=true)(g:TypeId)(x:Operand)(i:e.op= .load g x)
 (b o:Nat)(j:a.eval x= .pointer (some ⟨b,o,none⟩))(f:List Value)(d:TypeDesc)(l:w.rangeAt b o f)
 (m:P.underlying g=some d)(k:d.isRow=true)(n:(P.info? g).map (·.size)=some f.length)
 (h:wpList P c Q rest (a.put e.dst (.agg f.toArray)) w):wpList P c Q (e::rest) a w:=
 BigFrame.wpList_want p fun _ hK=>wp_load_mid g x i b o j f d l m k n (hK _ _ h)
end Yq
namespace Pb8
open Bytes8 Blk8 Fa Fb Pr8 Pa8
def subB (l m:List PR):Bool:=l.all fun p=>decide (p∈m)
theorem aPy {l m:List PR}{i:Nat}(a:i<l.length)(h:l.getD i nil2∉m):subB l m=false:=by
 cases hs:subB l m with
 |false=>rfl
 |true=>
  have:=List.all_eq_true.1 hs _ (aEa a)
  simp at this
  exact absurd this (by simpa using h)
theorem subB_yes {l m:List PR}(h: ∀i,i<l.length→l.getD i nil2∈m):subB l m=true:=by
 refine List.all_eq_true.2 fun p hp=>?_
 obtain⟨i,a,rfl⟩:=aIr hp
 simpa using h i a
theorem aFT {m:List PR}{k:Nat}(a:k<m.length)(p:PR):decide (p∈m.take (k+1))=(decide (p∈m.take k)||decide (p=m.getD k nil2)):=by
 rw[aEc a]
 simp[List.mem_append]
set_option maxRecDepth 100000 in
theorem aEA (a b:Option Addr)(l m:List PR)(n k c d:Nat)(w:World)(B:Prs w a l)(r:Prs w b m)(C:l.length=n)(N:m.length=k)(R:n≤1000000)(v:k≤1000000):
 Calls Tryz.prog 73 #[.slice a n c,.slice b k d] w fun e w'=>e= .returned (.bool (subB l m))∧Below w.heap.size w w':=by
 have X:=yH B
 have HQ:=yH r
 have t:=yH C
 have A:=yH N
 have HE:=yH fun i j=>aOa (B.1.at_ i) (r.1.at_ j)
 have aa:Tryz.prog.follows .mixedOrders=true:=by kernel_rfl
 clear B r C N
 go_enter Tryz.func73,Tryz.ntmps73
 go_wp2
 go_loopw [5] (fun i wr=> ∃j:Nat,j≤n∧i= .int .i64 (j:Int)∧Hid (∀x,x<j→l.getD x nil2∈m)∧Hid (Below w.heap.size w wr)) (fun i _=>n-(intOf i).toNat)
 case atStart=>exact⟨0,by omega,rfl,yH fun j L=>absurd L (by omega),yH (Below.refl _ _)⟩
 case round=>
  obtain⟨j,L,rfl,f,F⟩:=hrel
  rcases Nat.lt_or_ge j n with ab|ac
  ·have Y:(j:Int)<(n:Int):=by omega
   go_wp2
   go_loopw [6,7] (fun s i wr=> ∃x:Nat,x≤k∧i= .int .i64 (x:Int)∧s= .bool (decide (l.getD j nil2∈m.take x))∧Hid (Below w.heap.size w wr)) (fun _ i _=>k-(intOf i).toNat)
   case atStart=>exact⟨0,by omega,rfl,by simp,F⟩
   case round=>
    obtain⟨x,hx,rfl,rfl,g⟩:=hrel
    rcases Nat.lt_or_ge x k with E|J
    ·have H:(x:Int)<(k:Int):=by omega
     obtain⟨b1,G,rfl,I,ae,af⟩:=(X.out.below g.out).2 j (by have:=t.out;omega)
     obtain⟨b2,D,rfl,M,ad,Z⟩:=(HQ.out.below g.out).2 x (by have:=A.out;omega)
     have hq:=HE.out j x
     have p:=yH (aFT (m:=m) (k:=x) (by have:=A.out;omega) (l.getD j nil2))
     generalize T (l.getD j nil2).1=E1 at*
     generalize T (l.getD j nil2).2=E2 at*
     generalize T (m.getD x nil2).1=F1 at*
     generalize T (m.getD x nil2).2=F2 at*
     generalize decide (l.getD j nil2=m.getD x nil2)=q at*
     cases hs:decide (l.getD j nil2∈m.take x)with
     |true=>
      rw[hs]at p
      clear hs
      go_wp2_with fail
      go_quiet (fail)
      go_wp2
      go_round
      case rel=>exact⟨x+1,by omega,by go_num,by rw[p.out];rfl,yH (below_drewN g.out _)⟩
      case measure=>simp[intOf];omega
     |false=>
      rw[hs]at p
      clear hs
      go_wp2_with fail
      go_quiet (fail)
      go_wp2
      go_round
      case rel=>exact⟨x+1,by omega,by go_num,by rw[p.out];rfl,yH (below_drewN g.out _)⟩
      case measure=>simp[intOf];omega
    ·obtain rfl:x=k:=by omega
     have z:m.take x=m:=List.take_of_length_le (by have:=A.out;omega)
     rw[z]
     by_cases o:l.getD j nil2∈m
     ·have h:=yH (fun y (hy:y<j+1)=>(by
       rcases Nat.lt_or_ge y j with V|V
       ·exact f.out y V
       ·obtain rfl:y=j:=by omega
        exact o:l.getD y nil2∈m))
      rw[decide_eq_true o]
      clear o f z
      go_wp2
      go_round
      case rel=>exact⟨j+1,by omega,by go_num,h,g⟩
      case measure=>simp[intOf];omega
     ·have u:=yH (aPy (m:=m) (by have:=t.out;omega) o)
      rw[decide_eq_false o]
      clear o f z
      go_wp2
      go_ret
      exact⟨aAC u.out.symm,g.out⟩
  ·obtain rfl:j=n:=by omega
   have u:=yH (subB_yes (m:=m) fun i hi=>f.out i (by have:=t.out;omega))
   clear f
   go_wp2
   go_ret
   exact⟨aAC u.out.symm,F.out⟩
end Pb8
namespace Rq
open Bytes8 Blk8 OwnE Ob Nr Np Yq
theorem aQj (K:Nat→Int)(b:IdOk K)(w:World):(binOp .eql 37 (.agg #[.int .u8 (K 0),.int .u8 (K 1),.int .u8 (K 2),.int .u8 (K 3),.int .u8 (K 4),.int .u8 (K 5),.int .u8 (K 6),.int .u8 (K 7),.int .u8 (K 8),.int .u8 (K 9),.int .u8 (K 10),.int .u8 (K 11),.int .u8 (K 12),.int .u8 (K 13),.int .u8 (K 14),.int .u8 (K 15)]) (.agg #[.int .u8 (K 0),.int .u8 (K 1),.int .u8 (K 2),.int .u8 (K 3),.int .u8 (K 4),.int .u8 (K 5),.int .u8 (K 6),.int .u8 (K 7),.int .u8 (K 8),.int .u8 (K 9),.int .u8 (K 10),.int .u8 (K 11),.int .u8 (K 12),.int .u8 (K 13),.int .u8 (K 14),.int .u8 (K 15)])).run Tryz.prog w= .ok (.bool true) w:=by
 obtain⟨r,c,a⟩:=run_equalIn_deep (P:=Tryz.prog) 9998 2 37 (by kernel_rfl) w 2 2 (.agg #[.int .u8 (K 0),.int .u8 (K 1),.int .u8 (K 2),.int .u8 (K 3),.int .u8 (K 4),.int .u8 (K 5),.int .u8 (K 6),.int .u8 (K 7),.int .u8 (K 8),.int .u8 (K 9),.int .u8 (K 10),.int .u8 (K 11),.int .u8 (K 12),.int .u8 (K 13),.int .u8 (K 14),.int .u8 (K 15)]) (.agg #[.int .u8 (K 0),.int .u8 (K 1),.int .u8 (K 2),.int .u8 (K 3),.int .u8 (K 4),.int .u8 (K 5),.int .u8 (K 6),.int .u8 (K 7),.int .u8 (K 8),.int .u8 (K 9),.int .u8 (K 10),.int .u8 (K 11),.int .u8 (K 12),.int .u8 (K 13),.int .u8 (K 14),.int .u8 (K 15)]) ((idL K).map (Lit.int .u8)) ((idL K).map (Lit.int .u8)) (by kernel_rfl) (by kernel_rfl) (aMf K b) (aMf K b)
 have h:r=true:=a.2 rfl
 subst h
 rw[run_eql_struct,show(10000:Nat)=9998+2 from rfl,c]
 rfl
theorem rec_range {w:World}{g:Nat}{T:TypeId}{s r m:Int}{K:Nat→Int}{F:Value}(h:Blk w g (recL s r m K F) T):w.rangeAt g 3 (idJ K):=fun j v hj=>by
 have a:j<16:=(List.getElem?_eq_some_iff.1 hj).1
 refine h.cell (i:=3+j) ?_
 rw[aC7 K j a]at hj
 rcases j with _|_|_|_|_|_|_|_|_|_|_|_|_|_|_|_|j
 all_goals first|exact hj|omega
attribute [local irreducible] wpList Code.wp
end Rq
namespace Zs
open Bytes8 Blk8 Own8 OwnE Rows2 Ob Nr Np Pr8 Yq Pb8 Rq
theorem subB_yes {l m:List PR}(h: ∀x∈l,x∈m):subB l m=true:=by
 unfold subB
 rw[List.all_eq_true]
 exact fun x hx=>by simpa using h x hx
theorem aMg {s r m:Int}{K a:Nat→Int}{F:Value}(h: ∀i,i<16→K i=a i):recL s r m K F=recL s r m a F:=by
 unfold recL
 rw[h 0 (by decide),h 1 (by decide),h 2 (by decide),h 3 (by decide),h 4 (by decide),h 5 (by decide),h 6 (by decide),h 7 (by decide),h 8 (by decide),h 9 (by decide),h 10 (by decide),h 11 (by decide),h 12 (by decide),h 13 (by decide),h 14 (by decide),h 15 (by decide)]
attribute [local irreducible] wpList Code.wp
theorem aH6 (s r m:Int)(K:Nat→Int)(Y:IdOk K)(A B:Option Addr)(n k c d:Nat)(y u:List PR)(w:World)(h1:Prs w A y)(h2:Prs w B u)(p:y.length=n)(o:u.length=k)(J:n≤1000000)(M:k≤1000000)(hs: ∀x,x∈y↔x∈u):
 Calls Tryz.prog 31 #[.agg (recL s r m K (.slice A n c)).toArray,.agg (recL s r m K (.slice B k d)).toArray] w fun e w'=>e= .returned (.bool true)∧Below w.heap.size w w':=by
 have C:=yH (((Below.refl w.heap.size w).alloc (yR _) (.cells (recL s r m K (.slice A n c)).toArray 70)).alloc (by simp) (.cells (recL s r m K (.slice B k d)).toArray 70))
 have f:=yH ((show Blk (w.alloc (.cells (recL s r m K (.slice A n c)).toArray 70)) w.heap.size (recL s r m K (.slice A n c)) 70 from Blk.new w _ _).alloc (.cells (recL s r m K (.slice B k d)).toArray 70))
 have b:=yH (show Blk ((w.alloc (.cells (recL s r m K (.slice A n c)).toArray 70)).alloc (.cells (recL s r m K (.slice B k d)).toArray 70)) (w.heap.size+1) (recL s r m K (.slice B k d)) 70 from Blk.new_at _ _ _ _ (by simp))
 have t:=yH (h1.below C.out)
 have j:=yH (h2.below C.out)
 have V:=aQj K Y
 clear h1 h2
 have p0:=f.out.cell (i:=0) rfl;have p1:=f.out.cell (i:=1) rfl;have p2:=f.out.cell (i:=2) rfl;have Z:=f.out.cell (i:=19) rfl
 have q0:=b.out.cell (i:=0) rfl;have q1:=b.out.cell (i:=1) rfl;have q2:=b.out.cell (i:=2) rfl;have X:=b.out.cell (i:=19) rfl
 go_enter Tryz.func31,Tryz.ntmps31
 go_upto_region 1 with fail
 have z:=f.out.lt
 have l:=b.out.lt
 have E:=yH (rec_range f.out)
 have G:=yH (rec_range b.out)
 generalize (w.alloc (.cells (recL s r m K (.slice A n c)).toArray 70)).alloc (.cells (recL s r m K (.slice B k d)).toArray 70)=h at*
 have D:=yH (by have q:=aEA A B y u n k c d h t.out j.out p o J M;rw[subB_yes fun x hx=>(hs x).1 hx]at q;exact q)
 have F:=yH fun(W:World) (hW:Below h.heap.size h W)=>by have q:=aEA B A u y k n d c W (j.out.below hW) (t.out.below hW) o p M J;rw[subB_yes fun x hx=>(hs x).2 hx]at q;exact q
 have N:=yH fun(W:World) (hW:Below h.heap.size h W)=>(f.out.below hW z).cell (i:=19) rfl
 have R:=yH fun(W:World) (hW:Below h.heap.size h W)=>(b.out.below hW l).cell (i:=19) rfl
 go_wp2_with(first
  |(refine aA2 rfl 37 (.tmp 25) rfl w.heap.size 3 rfl [.int .u8 (K 0),.int .u8 (K 1),.int .u8 (K 2),.int .u8 (K 3),.int .u8 (K 4),.int .u8 (K 5),.int .u8 (K 6),.int .u8 (K 7),.int .u8 (K 8),.int .u8 (K 9),.int .u8 (K 10),.int .u8 (K 11),.int .u8 (K 12),.int .u8 (K 13),.int .u8 (K 14),.int .u8 (K 15)] _ E.out Tryz.underlying37 rfl idInfo ?_)
  |(refine aA2 rfl 37 (.tmp 27) rfl (w.heap.size+1) 3 rfl [.int .u8 (K 0),.int .u8 (K 1),.int .u8 (K 2),.int .u8 (K 3),.int .u8 (K 4),.int .u8 (K 5),.int .u8 (K 6),.int .u8 (K 7),.int .u8 (K 8),.int .u8 (K 9),.int .u8 (K 10),.int .u8 (K 11),.int .u8 (K 12),.int .u8 (K 13),.int .u8 (K 14),.int .u8 (K 15)] _ G.out Tryz.underlying37 rfl idInfo ?_)
  |(go_at_call 73;(with_reducible refine D.out.mono ?_);rintro e w2 ⟨rfl,a⟩;have g:=yH a;have I:=N.out _ a;have L:=R.out _ a;clear a)
  |(go_at_call 73;(with_reducible refine(F.out _ g.out).mono ?_);rintro e w3 ⟨rfl,v⟩;have H:=yH (g.out.trans (v.mono g.out.size));clear v))
 go_ret
 exact⟨rfl,C.out.trans (H.out.mono C.out.size)⟩
end Zs
namespace Skc
open Bytes8 Blk8 Own8 OwnE Ga Gb Ma Na Np Nr Ns Nt Rn Rr
open Jj (prs_off)
open Go1 (hcode)
open Yg (NewIn aAr)
attribute [local irreducible] HD.cells wpList Code.wp
theorem aN1 {w:World}{a m:Nat}{R:Nat→RecP}(r:Idx w a m R)(k:Int)(D:k<0∨(m:Int)≤k):Calls Tryz.prog 29 #[.pointer (some ⟨a,0,none⟩),.int .i64 k] w fun e w'=>e= .returned (.tuple #[.agg zR,.bool false])∧Below w.heap.size w w':=by
 obtain⟨gf,y,h,A,E,c,l,P,n,cp,out,cd,g,j,d,o,u,q,rfl⟩:=r
 have f:=yH ((Below.refl w.heap.size w).alloc (yR _) (.cells zR 70))
 have b:=yH (heap_alloc_new w (.cells zR 70))
 have C:(w.alloc (.cells zR 70)).cell? ⟨a,1,none⟩=some (.slice g m j):=(f.out.cell (p:=⟨a,1,none⟩) d.lt).trans (d.cell (i:=1) rfl)
 have z:w.cell? ⟨a,1,none⟩=some (.slice g m j):=d.cell (i:=1) rfl
 have t:Tryz.prog.built 70 []=some zR:=by kernel_rfl
 clear d o u q
 by_cases x:k<0
 ·have s:decide (k<0)=true:=by simp;omega
  go_enter Tryz.func29,Tryz.ntmps29
  go_wp2_with(first
   |((with_reducible apply aAa (.tmp 4) (.tmp 19));refine wpList_store_row rfl 70 (.tmp 4) (.tmp 19) rfl w.heap.size zR rfl rfl 70 zR b.out (by kernel_rfl) rfl (aAo 0 0 0 (fun _=>0) none 0 0) ?_)
   |fail)
  refine bodyPost_ret (v:= .tuple #[.agg zR,.bool false]) (by exact aAr Tryz.results29 _ _ w.heap.size 70 _ (0,0) _ _ rfl rfl (setRow_heap _ _ _ _ _ (0,0) b.out) Tryz.underlying70 rfl (by kernel_rfl)) rfl ?_
  exact⟨rfl,below_setRow f.out (yR _) _⟩
 ·have s:decide (k<0)=false:=by simp;omega
  have B:decide ((m:Int)≤k)=true:=by simp;omega
  go_enter Tryz.func29,Tryz.ntmps29
  go_wp2_with(first
   |((with_reducible apply aAa (.tmp 4) (.tmp 19));refine wpList_store_row rfl 70 (.tmp 4) (.tmp 19) rfl w.heap.size zR rfl rfl 70 zR b.out (by kernel_rfl) rfl (aAo 0 0 0 (fun _=>0) none 0 0) ?_)
   |fail)
  refine bodyPost_ret (v:= .tuple #[.agg zR,.bool false]) (by exact aAr Tryz.results29 _ _ w.heap.size 70 _ (0,0) _ _ rfl rfl (setRow_heap _ _ _ _ _ (0,0) b.out) Tryz.underlying70 rfl (by kernel_rfl)) rfl ?_
  exact⟨rfl,below_setRow f.out (yR _) _⟩
end Skc
namespace Jf
open Bytes8 Blk8 OwnE Rows2 Ga Gb Ma Kf Na Np Nr Nt Nu Rc Rr Va Pr8 Dc
def RowAt (w:World)(A:Option Addr)(i:Nat)(r:RecP):Prop:= ∃(b:Nat) (F:Option Addr) (c:Nat),A=some ⟨b,0,none⟩∧b<w.heap.size∧w.rangeAt b (i*20) (recL r.s r.r r.m r.K (.slice F r.n c))∧Prs w F r.pl∧r.Ok
theorem RowAt.below {w w':World}{A:Option Addr}{i:Nat}{r:RecP}(h:RowAt w A i r)(d:Below w.heap.size w w'):RowAt w' A i r:=by
 obtain⟨b,F,c,e,f,g,k,l⟩:=h
 exact⟨b,F,c,e,yL f d.size,fun j v hj=>(World.cell?_of_block (a:=⟨b,i*20+j,none⟩) (d.block b f)).trans (g j v hj),k.below d,l⟩
theorem aMh {w:World}{B n c:Nat}{A:Option Addr}{xs:List Value}(h:OwnE 70 20 w B A n c xs)(i:Nat)(l:i<n): ∃b,A=some ⟨b,0,none⟩∧b<w.heap.size∧w.rangeAt b (i*20) ((xs.drop (20*i)).take 20):=by
 have k:xs.length=n*20:=OwnE.len h
 obtain⟨b,e,_,f,_⟩:=OwnE.cell h (i:=20*i) (by omega)
 refine⟨b,e,f,fun j v hj=>?_⟩
 have d:j<20:=by
  have:=(List.getElem?_eq_some_iff.1 hj).1
  rw[List.length_take]at this;omega
 rw[List.getElem?_take_of_lt d,List.getElem?_drop]at hj
 rw[Nat.mul_comm i 20]
 obtain⟨b2,a,_,_,g⟩:=OwnE.cell h (i:=20*i+j) (List.getElem?_eq_some_iff.1 hj).1
 rw[e]at a
 injection a with a
 injection a with a
 subst a
 exact g.trans hj
theorem aJ1 {w:World}{B n c:Nat}{A:Option Addr}{xs:List Value}{o:Nat}{F:Nat→Prop}{b0:Int}{rs:List Zj.RR}(h:OwnE 70 20 w B A n c xs)(q:RowsR w o F A xs b0 rs)(i:Nat)(k:i<rs.length)(m:IdOk rs[i].2.2.2):RowAt w A i (rowP b0 i rs[i]):=by
 have t:xs.length=n*20:=OwnE.len h
 have j:=q.len
 obtain⟨b,e,a,d⟩:=aMh h i (by omega)
 obtain⟨p,r,cr,f,l,s,g,_⟩:=q.at_ i k
 rw[f]at d
 subst l
 exact⟨b,p,cr,e,a,d,g,⟨m,rfl,by show rs[i].1.length≤_;omega⟩⟩
attribute [local irreducible] HD.cells wpList Code.wp
end Jf
namespace SeekRecordsW
open Bytes8 Blk8 Own8 OwnM OwnE Rows2 Od Ga Gb Gj Ma Mb Mh Na Np Nr Ns Nt Nu Rc Rn Rr Va Wa Pr8 Zg Zh Zj Zl Zs Seq8 Kf Jb Jd Jf Ji Ska Skc Skd Skf
open Go1 (hcode)
attribute [local irreducible] HD.cells wpList Code.wp
theorem aPz {w:World}{d m:Nat}{R:Nat→RecP}(f:Idx w d m R)(x:Nat)(b:x<m):
 Calls Tryz.prog 30 #[.pointer (some ⟨d,0,none⟩),.int .u64 (R x).s] w fun e w'=>(∃c:Nat,e= .returned (.tuple #[.int .i64 (x:Int),.int .i64 (c:Int)]))∧Below w.heap.size w w':=by
 have a:=f.facts.2.2.1
 refine(aHW f (R x).s).mono ?_
 rintro e w' ⟨r,c,rfl,g,_,i⟩
 have h:r=x:=g.uniq ⟨Nat.le_of_lt b,fun k hk=>by have:=a k x hk b;simp;omega,fun _=>by simp⟩
 subst h
 exact⟨⟨c,rfl⟩,i⟩
theorem aJ2 {w:World}{g:Nat}{a:List Value}{T:TypeId}(h:Blk w g a T):w.rangeAt g 0 a:=fun j v hj=>by rw[Nat.zero_add];exact h.cell hj
theorem walk_main (a:Option Addr)(len H:Nat)(f:Nat→Int)(s:Int)(w:World)(hI:InInts .i64 w a len f)(hl:len≤300):
 Calls Tryz.prog 7 #[.slice a len H,.int .i64 s] w fun e w'=>e= .returned (.bool true)∧Below w.heap.size w w':=by
 have d1:decide ((300:Int)<(len:Int))=false:=by simp;omega
 have HI:=yH hI
 clear hI
 go_enter Tryz.func7,Tryz.ntmps7
 go_upto_region 6 with(go_at_call 24;((with_reducible refine(aDg _).mono ?_);rintro e w1 ⟨rfl,k⟩;have B1:=yH k;clear k))
 clear d1
 have an:=yH (HI.out.below B1.out)
 have Q1:=yH (show SeqIn (w1.alloc (.cells #[.slice a len H,.int .i64 0] 62)) w1.heap.size a len H f 0 from⟨Blk.new w1 [.slice a len H,.int .i64 0] _,an.out.below ((Below.refl _ _).alloc (yR _) _),fun h0 b off e=>by obtain⟨b',a6,e',h1,_⟩:=an.out 0 h0;rw[e]at e';injection e' with e';injection e' with e';omega,Nat.zero_le _,by omega⟩)
 have b1:=yH ((Below.refl w1.heap.size w1).alloc (yR _) (.cells #[.slice a len H,.int .i64 0] 62))
 have HM:=yH (aEX w1.heap.size a len H f 0 30 _ Q1.out (by decide))
 unfold MadeR at HM
 go_upto_region 7 with(first
  |(go_at_call 25;(refine HM.out.mono ?_);rintro e w2 ⟨g,A,n,c,B,p,m,rs,xs,b0,rfl,M,aP,aV,hk,aL,ay,aH,aM,aT⟩;have HA:=yH aP;have HG:=yH aV;have HK:=yH hk;have aR:=yH aL;have aQ:=yH ay;have X:=yH aH;have aC:=yH aM;have ax:=yH aT;clear aP aV hk aL ay aH aM aT)
  |fail)
 have hI:=HG.out.img
 obtain⟨l1,l2,l3⟩:=hI.lens
 have a5:=HG.out.le
 obtain⟨os,hs,Z,es,r,D⟩:=aGE aQ.out
 have a1:=yH (show Z.length=n by rw[r.len,X.out])
 have ht:(0:Int)≤1∧(1:Int)≤2:=by decide
 have aa:=yH (aD5 B g p.bb p.cb p.S m 1 w2 HA.out.st (by omega) (aLP hI ht) (by have:=hI.inv.dep;omega))
 unfold Owned at aa
 have av:(HD.plus (Mk.head m 1) (m.depth:Int)).bytes 21++m.b.drop 272=stL m 1:=rfl
 rw[av]at aa
 have N:=yH fun(A:Option Addr) (c:Nat) (W:World) (hb:Bytes W A (stL m 1)) (hc:m.b.length≤c)=>aLS r ht A c W hb hc
 unfold Op16 at N
 obtain⟨aF,ar⟩:=aLR r D ht (by rw[X.out];exact aC.out)
 have aX:(toI Z).length=Z.length:=List.length_map _
 rw[aX]at N
 have V:(goodL (hdOf (stL m 1)) (stL m 1) m.b.length (toI Z) Z.length).length=n:=by rw[←aDu,aF,X.out]
 have ak:=yH (show ∀i (hi:i<rs.length),SameP (rK (hdOf (stL m 1)) (stL m 1) m.b.length (toI Z) Z.length i) (rowP b0 i rs[i])from fun i hi=>by
  rw[←aLT _ _ _ _ _ i (by rw[V,←X.out];exact hi)]
  exact ar i hi)
 rw[V]at N
 have aq:=yH fun(i:Nat) (hi:i<rs.length)=>(D.ok _ (List.getElem_mem hi)).K
 have B2:=yH (B1.out.trans ((b1.out.trans (KeptB.below (HK.out.mono b1.out.size) (yR _))).mono B1.out.size))
 clear Q1 HM b1 HI an av hI r D aQ aC HG HK l1 l2 l3 HA ar aF aX ht V
 generalize rK (hdOf (stL m 1)) (stL m 1) m.b.length (toI Z) Z.length=R at*
 generalize stL m 1=l at*
 generalize m.b.length=E at*
 have a3:((n:Int)!=(n:Int))=false:=by simp
 go_upto_region 10 with(first
  |(go_at_call 27;(refine aa.out.mono ?_);rintro e w3 ⟨A3,c3,rfl,ag,t⟩;have az:=yH ag.bytes;have aS:=yH (aBs ag);have B3:=yH t;clear ag t)
  |(go_at_call 26;(refine(N.out _ _ _ az.out aS.out.1).mono ?_);rintro e w4 ⟨gx,A9,c9,ys,B0,rfl,hx,_,_,aJ⟩;have HX:=yH hx;have HL:=yH (aFN hx);have B4:=yH (B3.out.trans (aJ.mono B3.out.size));clear hx aJ)
  |(go_at_call 28;((refine HL.out.mono ?_);rintro e w6 ⟨rfl,rfl⟩))
  |fail)
 have am:=yH fun(i:Nat) (hi:i<rs.length)=>(aJ1 aR.out.own ax.out i hi (aq.out i hi)).below B4.out
 have S4:=yH (Below.refl w4.heap.size w4)
 have BW:=yH (B2.out.trans (B4.out.mono B2.out.size))
 clear HL aa N aR ax aq az aS M B3 a3 B1 B2 B4 a1
 go_wp2_with fail
 go_loopw [10] (fun iv wr=> ∃x:Nat,x≤n∧iv= .int .i64 (x:Int)∧Hid (Below w4.heap.size w4 wr)) (fun iv _=>n-Rn.natOf iv)
 case atStart=>exact⟨0,Nat.zero_le _,rfl,S4⟩
 case round=>
  clear S4
  obtain⟨x,hx,rfl,M⟩:=hrel
  have u:=yH (HX.out.below M.out)
  by_cases ad:x<n
  ·have a4:decide ((x:Int)<(n:Int))=true:=by simp;omega
   have a7:(x:Int)<(n:Int):=by omega
   have a9:IntKind.i64.wrap ((x:Int)+1)=((x+1:Nat):Int):=by rw[IntKind.wrap_i64];omega
   have aj:x<rs.length:=by rw[X.out];exact ad
   obtain⟨bb,Fb,cb,rfl,ap,af,au,ah⟩:=(am.out x aj).below M.out
   obtain⟨s1,s2,s3,s4,s5⟩:=ak.out x aj
   rw[←s1,←s2,←s3,←aMg s4]at af
   have Y:=HX.out.facts.2.1 x
   have aZ:=yH Y.K
   have la:=Y.len;have na:=Y.n;have lb:=ah.len;have nb:=ah.n
   have C:=yH (aHU u.out x ad)
   have aG:=yH fun(W:World) (hW:Below wr.heap.size wr W)=>aPz (u.out.below hW) x ad
   have aw:=yH af
   have a2:=yH au
   have a0:=yH s5
   unfold ITell at C
   clear s1 s2 s3 s4 s5 Y ah af au ak am HX u
   generalize R x=p at*
   generalize rowP b0 x _=q at*
   clear aj
   obtain⟨z,real,mono,K,J,pl⟩:=p
   obtain⟨_,_,_,_,nr,L⟩:=q
   dsimp only at*
   go_upto_region 14 with(first
    |(go_at_call 29;(refine C.out.mono ?_);rintro e d ⟨I,o,rfl,aK,_,k⟩;have aD:=yH aK;have F:=yH k;clear aK k)
    |((with_reducible apply aAa (.tmp 11) (.tmp 56));refine wpList_store_row rfl 70 (.tmp 11) (.tmp 56) rfl d.heap.size (recL z real mono K (.slice I J o)).toArray rfl rfl 70 zR (heap_alloc_new d _) (aAm _ _ _ _ _) rfl (by simp[Value.oneCell']) ?_)
    |fail)
   have ao:=yH (show Blk ((d.alloc (.cells zR 70)).setRow d.heap.size (recL z real mono K (.slice I J o)).toArray) d.heap.size (recL z real mono K (.slice I J o)) 70 from setRow_heap _ _ _ _ _ (0,0) (heap_alloc_new d _))
   have ai:=yH (show Below d.heap.size d ((d.alloc (.cells zR 70)).setRow d.heap.size (recL z real mono K (.slice I J o)).toArray)from below_setRow ((Below.refl _ _).alloc (yR _) _) (yR _) _)
   generalize (d.alloc (.cells zR 70)).setRow d.heap.size (recL z real mono K (.slice I J o)).toArray=y2 at*
   have C2:=yH (F.out.trans (ai.out.mono F.out.size))
   have aI:=yH (aD.out.below ai.out)
   have aY:=ao.out.lt
   generalize d.heap.size=aO at*
   have kS:y2.cell? ⟨bb,x*20,none⟩=some (.int .u64 z):=(C2.out.cell (p:=⟨bb,x*20,none⟩) ap).trans (aw.out 0 _ rfl)
   have aA:=yH (aG.out y2 C2.out)
   clear C aG aD F ai
   go_upto_region 15 with(first
    |(go_at_call 30;(refine aA.out.mono ?_);rintro e y3 ⟨⟨cl,rfl⟩,t⟩;have C3:=yH (C2.out.trans (t.mono C2.out.size));have aE:=yH (aI.out.below t);have al:=yH (ao.out.below t aY);clear t)
    |fail)
   clear aA kS aI ao C2
   have aW:=al.out.lt
   have aN:=yL ap C3.out.size
   have ae:=yH (a2.out.below C3.out)
   have D0:=yH (show Below y3.heap.size y3 y3.drew from(Below.refl y3.heap.size y3).drew)
   have HS:=yH fun(W:World) (hW:Below y3.heap.size y3 W)=>show W.rangeAt aO 0 (recL z real mono K (.slice I J o))∧W.rangeAt bb (x*20) (recL z real mono K (.slice Fb nr cb))from
    ⟨aJ2 (al.out.below hW aW),fun j v hj=>(World.cell?_of_block (a:=⟨bb,x*20+j,none⟩) (hW.block bb aN)).trans ((World.cell?_of_block (a:=⟨bb,x*20+j,none⟩) (C3.out.block bb ap)).trans (aw.out j v hj))⟩
   have aB:=yH fun(W:World) (hW:Below y3.heap.size y3 W)=>aH6 z real mono K aZ.out I Fb J nr o cb pl L W (aE.out.below hW) (ae.out.below hW) la lb na nb a0.out
   have a8:((x:Int)!=(x:Int))=false:=by simp
   refine wp_region_noPanic ?_
   refine wp_region_held_drew (S:=fun W:World=>W.rangeAt aO 0 (recL z real mono K (.slice I J o))∧W.rangeAt bb (x*20) (recL z real mono K (.slice Fb nr cb))) (by kernel_rfl) (by exact HS.out _ D0.out) (fun hHeld=>?_)
   refine tq 0 68 rfl (fun W hSw=>by go_simp;try (with_reducible rfl)) ?_
   try simp only[Act.put,sA,sZ,sS]
   refine tq 1 69 rfl (fun W hSw=>by go_simp;try (with_reducible rfl)) ?_
   try simp only[Act.put,sA,sZ,sS]
   refine tq 2 70 rfl (fun W hSw=>by go_simp;try (with_reducible rfl)) ?_
   try simp only[Act.put,sA,sZ,sS]
   refine tk (i:=3) (oi:=⟨some 71,_,_,_,_,_⟩) rfl (yieldsIf_load_mid (by rfl) _ _ rfl _ _ rfl _ _ (fun _ h=>h.1) Tryz.underlying70 rfl (aAm _ _ _ _ _)) ?_
   try simp only[Act.put,sA,sZ,sS]
   refine tq 4 72 rfl (fun W hSw=>by go_simp;try (with_reducible rfl)) ?_
   try simp only[Act.put,sA,sZ,sS]
   refine tq 5 73 rfl (fun W hSw=>by go_simp;try (with_reducible rfl)) ?_
   try simp only[Act.put,sA,sZ,sS]
   refine tq 6 74 rfl (fun W hSw=>by go_simp;try (with_reducible rfl)) ?_
   try simp only[Act.put,sA,sZ,sS]
   refine tk (i:=7) (oi:=⟨some 75,_,_,_,_,_⟩) rfl (yieldsIf_load_mid (by rfl) _ _ rfl _ _ rfl _ _ (fun _ h=>h.2) Tryz.underlying70 rfl (aAm _ _ _ _ _)) ?_
   try simp only[Act.put,sA,sZ,sS]
   refine rd 8 rfl (fun KK hKK=>?_)
   go_simp
   ((with_reducible refine(aB.out _ D0.out).mono ?_);rintro e w9 ⟨rfl,aU⟩;have B9:=yH (D0.out.trans (aU.mono D0.out.size));clear aU)
   try go_wp2_with fail
   refine hKK.out _ _ (by exact(HS.out _ B9.out)) (fun hHeld=>?_)
   clear hKK KK
   try simp only[Act.put,sA,sZ,sS]
   refine tq 9 77 rfl (fun W hSw=>by go_simp;try (with_reducible rfl)) ?_
   try simp only[Act.put,sA,sZ,sS]
   refine tq 10 78 rfl (fun W hSw=>by go_simp;try (with_reducible rfl)) ?_
   try simp only[Act.put,sA,sZ,sS]
   refine tq 11 79 rfl (fun W hSw=>by go_simp;try (with_reducible rfl)) ?_
   try simp only[Act.put,sA,sZ,sS]
   refine tq 12 80 rfl (fun W hSw=>by go_simp;try (with_reducible rfl)) ?_
   try simp only[Act.put,sA,sZ,sS]
   refine tq 13 81 rfl (fun W hSw=>by go_simp;try (with_reducible rfl)) ?_
   try simp only[Act.put,sA,sZ,sS]
   refine tq 14 82 rfl (fun W hSw=>by go_simp;try (with_reducible rfl)) ?_
   try simp only[Act.put,sA,sZ,sS]
   refine tq 15 83 rfl (fun W hSw=>by go_simp;try (with_reducible rfl)) ?_
   try simp only[Act.put,sA,sZ,sS]
   refine wpAnyH_done (by kernel_rfl) ?_ _
   refine NoPanic.normal ?_
   have SK:=yH (M.out.trans ((C3.out.trans (B9.out.mono C3.out.size)).mono M.out.size))
   clear HS aB hHeld D0 B9 al aE ae C3
   go_wp2_with fail
   go_roundw
   case rel=>exact⟨x+1,ad,rfl,SK⟩
   case measure=>simp[Rn.natOf];omega
  ·have a4:decide ((x:Int)<(n:Int))=false:=by simp;omega
   clear ak am
   by_cases ab:0≤s∧s<(n:Int)
   ·obtain⟨y,rfl⟩: ∃y:Nat,s=(y:Int):=⟨s.toNat,by omega⟩
    have hy:y<n:=by omega
    have e1:decide ((0:Int)≤(y:Int))=true:=by simp
    have e2:decide ((y:Int)<(n:Int))=true:=by simp;omega
    have C:=yH (aHU u.out y hy)
    unfold ITell at C
    clear HX u ab hx
    generalize R y=p at*
    obtain⟨z,real,mono,K,J,pl⟩:=p
    dsimp only at*
    go_upto_region 18 with(first
     |(go_at_call 29;(refine C.out.mono ?_);rintro e d ⟨I,o,rfl,_,_,k⟩;have F:=yH k;clear k)
     |((with_reducible apply aAa (.tmp 15) (.tmp 88));refine wpList_store_row rfl 70 (.tmp 15) (.tmp 88) rfl d.heap.size (recL z real mono K (.slice I J o)).toArray rfl rfl 70 zR (heap_alloc_new d _) (aAm _ _ _ _ _) rfl (by simp[Value.oneCell']) ?_)
     |fail)
    have Bz:=yH (show Below d.heap.size d ((d.alloc (.cells zR 70)).setRow d.heap.size (recL z real mono K (.slice I J o)).toArray)from below_setRow ((Below.refl _ _).alloc (yR _) _) (yR _) _)
    generalize (d.alloc (.cells zR 70)).setRow d.heap.size (recL z real mono K (.slice I J o)).toArray=y2 at*
    have BF:=yH (BW.out.trans ((M.out.trans ((F.out.trans (Bz.out.mono F.out.size)).mono M.out.size)).mono BW.out.size))
    clear C Bz F
    go_wp2_with fail
    go_ret
    exact⟨rfl,BF.out⟩
   ·have G:=yH (aN1 u.out s (by omega))
    have ac:(decide (0≤s)&&decide (s<(n:Int)))=false:=by
     cases h1:decide (0≤s)with
     |false=>rfl
     |true=>
      have h2:0≤s:=by simpa using h1
      have h3: ¬s<(n:Int):=fun h=>ab ⟨h2,h⟩
      simp[h3]
    clear HX u hx
    by_cases h0:0≤s
    ·have e1:decide (0≤s)=true:=by simpa using h0
     have e2:decide (s<(n:Int))=false:=by rw[e1,Bool.true_and]at ac;exact ac
     clear ac h0 ab
     go_upto_region 18 with(first
      |(go_at_call 29;(refine G.out.mono ?_);rintro e d ⟨rfl,k⟩;have F:=yH k;clear k)
      |((with_reducible apply aAa (.tmp 15) (.tmp 88));refine wpList_store_row rfl 70 (.tmp 15) (.tmp 88) rfl d.heap.size zR rfl rfl 70 zR (heap_alloc_new d _) (by kernel_rfl) rfl (aAo 0 0 0 (fun _=>0) none 0 0) ?_)
      |fail)
     have Bz:=yH (show Below d.heap.size d ((d.alloc (.cells zR 70)).setRow d.heap.size zR)from below_setRow ((Below.refl _ _).alloc (yR _) _) (yR _) _)
     generalize (d.alloc (.cells zR 70)).setRow d.heap.size zR=y2 at*
     have BF:=yH (BW.out.trans ((M.out.trans ((F.out.trans (Bz.out.mono F.out.size)).mono M.out.size)).mono BW.out.size))
     clear G Bz F
     go_wp2_with fail
     go_ret
     exact⟨rfl,BF.out⟩
    ·have e1:decide (0≤s)=false:=by simp;omega
     clear ac h0 ab
     go_upto_region 18 with(first
      |(go_at_call 29;(refine G.out.mono ?_);rintro e d ⟨rfl,k⟩;have F:=yH k;clear k)
      |((with_reducible apply aAa (.tmp 15) (.tmp 88));refine wpList_store_row rfl 70 (.tmp 15) (.tmp 88) rfl d.heap.size zR rfl rfl 70 zR (heap_alloc_new d _) (by kernel_rfl) rfl (aAo 0 0 0 (fun _=>0) none 0 0) ?_)
      |fail)
     have Bz:=yH (show Below d.heap.size d ((d.alloc (.cells zR 70)).setRow d.heap.size zR)from below_setRow ((Below.refl _ _).alloc (yR _) _) (yR _) _)
     generalize (d.alloc (.cells zR 70)).setRow d.heap.size zR=y2 at*
     have BF:=yH (BW.out.trans ((M.out.trans ((F.out.trans (Bz.out.mono F.out.size)).mono M.out.size)).mono BW.out.size))
     clear G Bz F
     go_wp2_with fail
     go_ret
     exact⟨rfl,BF.out⟩
theorem walk (a:Option Addr)(len b:Nat)(z:List Int)(d:Int)(w:World)(h:IsRow .i64 w a len b z)(hs:(Lit.int .i64 d).wf=true):
 Calls Tryz.prog 7 #[.slice a len b,.int .i64 d] w fun e w'=>e= .returned (.bool true)∧Below w.heap.size w w':=by
 obtain⟨f,j,l⟩:=aPx h
 by_cases g:len≤300
 ·exact walk_main a len b _ d w f g
 ·have k:decide ((300:Int)<(len:Int))=true:=by simp;omega
  clear h f
  go_enter Tryz.func7,Tryz.ntmps7
  go_wp2_with(go_at_call 24;((with_reducible refine(aDg _).mono ?_);rintro e w1 ⟨rfl,c⟩;have i:=yH c;clear c))
  go_ret
  exact⟨rfl,i.out⟩
end SeekRecordsW
end Go.Proofs.YtlelnfokffflnaaGreat
