/-
  Texts beneath.
-/
import Derived.Test.YteaikbodkgjkdaaGreatQl43
set_option linter.unusedVariables false
set_option linter.unusedSimpArgs false
set_option maxRecDepth 100000
set_option maxHeartbeats 16000000
open Go.ChangeShapes Go.WideShapes Go.ChangeAt Go.RowKit
namespace Go.Proofs.YteaikbodkgjkdaaGreat
namespace Blk8
def IsRow (k:IntKind)(w:World)(a:Option Addr)(len cap:Nat)(zs:List Int):Prop:=
 (a=none∧len=0∧cap=0∧zs=[])∨
 ∃x,a=some x∧len≤cap∧cap≤maxLen∧zs.length=cap∧(∀i,i<zs.length→w.cell? (x.add i)=some (.int k (zs.getD i 0)))∧ ∀n∈zs,(Lit.int k n).wf=true
theorem aH5 {H:Type}{enc:TypeId×Value→H}{P:Program}{w:World}{base:Nat}{held:Bool}{t e:TypeId}{k:IntKind}{a:Option Addr}{len cap:Nat}{d:DataW H}{p:List MemPlace}(ht:P.underlying t=some (.slice e))(he:P.underlying e=some (.int k))(hc:P.cellsOf e=1)
 (h:DataW.Trod enc P w base (fun _=>true) held t (.slice a len cap) d p): ∃zs,IsRow k w a len cap zs:=by
 obtain⟨fuel,hf⟩:=h
 rcases open_ints ht he hc hf with⟨hcs,_⟩|⟨x,l,c,zs,hcs,_,hl,hm,hz,_,hcell,hwz⟩
 ·simp[Value.cells]at hcs
  obtain⟨rfl,rfl,rfl⟩:=hcs
  exact⟨[],.inl ⟨rfl,rfl,rfl,rfl⟩⟩
 ·simp[Value.cells]at hcs
  obtain⟨rfl,rfl,rfl⟩:=hcs
  exact⟨zs,.inr ⟨_,rfl,hl,hm,by simpa using hz,hcell,hwz⟩⟩
end Blk8
namespace Rows2
open Bytes8 Blk8
theorem aPx {k:IntKind}{w:World}{a:Option Addr}{len cap:Nat}{zs:List Int}(h:IsRow k w a len cap zs):InInts k w a len (fun i=>zs.getD i 0)∧len≤cap∧cap≤maxLen:=by
 rcases h with⟨rfl,rfl,rfl,rfl⟩|⟨x,rfl,hl,hm,hz,hcell,hwz⟩
 ·exact⟨fun i hi=>absurd hi (by omega),yR _,by decide⟩
 ·refine⟨fun i hi=>?_,hl,hm⟩
  have hc:=hcell i (by omega)
  obtain⟨b,off,spot⟩:=x
  have hspot:spot=none:=by
   have h0:=hcell 0 (by omega)
   simpa [Addr.add]using World.cell?_spot h0
  subst hspot
  have hlt:=aAH hc
  rw[aAV]at hc hlt
  refine⟨b,off,rfl,hlt,hc,hwz _ ?_⟩
  show zs.getD i 0∈zs
  rw[List.getD_eq_getElem?_getD,List.getElem?_eq_getElem (show i<zs.length by omega)]
  exact List.getElem_mem _
end Rows2
namespace Yq
open Blk8 Ob
theorem idInfo:(Tryz.prog.info? 61).map (·.size)=some 16:=by kernel_rfl
theorem aMf (K:Nat→Int)(hK:IdOk K):Tryz.prog.keyLits 2 61 [.int .u8 (K 0),.int .u8 (K 1),.int .u8 (K 2),.int .u8 (K 3),.int .u8 (K 4),.int .u8 (K 5),.int .u8 (K 6),.int .u8 (K 7),.int .u8 (K 8),.int .u8 (K 9),.int .u8 (K 10),.int .u8 (K 11),.int .u8 (K 12),.int .u8 (K 13),.int .u8 (K 14),.int .u8 (K 15)]=some ((idL K).map (Lit.int .u8)):=by
 have wfi: ∀i,(Lit.int .u8 (K i)).wf=true:=fun i=>by
  have:=hK i
  simp[Lit.wf,IntKind.min,IntKind.max,IntKind.signed,IntKind.bits]
  omega
 have c1:Tryz.prog.cellsOf 61=16:=by kernel_rfl
 have c2:Tryz.prog.cellsOf 5=1:=by kernel_rfl
 have hr:List.range 16=[0,1,2,3,4,5,6,7,8,9,10,11,12,13,14,15]:=rfl
 simp[Program.keyLits,Tryz.underlying61,Tryz.underlying5,c1,c2,hr,wfi,idL]
theorem aA2 {P:Program}{ops:Array Oper}{rest:List Oper}{op:Oper}{a:Act}{w:World}{Q:Exit→Act→World→Prop}(hw:Region.wanted op (yielded ops a.tmps)=true)(ty:TypeId)(x:Operand)(ho:op.op= .load ty x)
 (b o:Nat)(hx:a.eval x= .pointer (some ⟨b,o,none⟩))(cs:List Value)(d:TypeDesc)(hc:w.rangeAt b o cs)
 (hu:P.underlying ty=some d)(hd:d.isRow=true)(hi:(P.info? ty).map (·.size)=some cs.length)
 (h:wpList P ops Q rest (a.put op.dst (.agg cs.toArray)) w):wpList P ops Q (op::rest) a w:=
 BigFrame.wpList_want hw fun _ hK=>wp_load_mid ty x ho b o hx cs d hc hu hd hi (hK _ _ h)
end Yq
namespace Pb8
open Bytes8 Blk8 Fa Fb Pr8 Pa8
def subB (l m:List PR):Bool:=l.all fun p=>decide (p∈m)
theorem aPy {l m:List PR}{i:Nat}(hi:i<l.length)(h:l.getD i nil2∉m):subB l m=false:=by
 cases hs:subB l m with
 |false=>rfl
 |true=>
  have:=List.all_eq_true.1 hs _ (aEa hi)
  simp at this
  exact absurd this (by simpa using h)
theorem subB_yes {l m:List PR}(h: ∀i,i<l.length→l.getD i nil2∈m):subB l m=true:=by
 refine List.all_eq_true.2 fun p hp=>?_
 obtain⟨i,hi,rfl⟩:=aIr hp
 simpa using h i hi
theorem aFT {m:List PR}{k:Nat}(hk:k<m.length)(p:PR):decide (p∈m.take (k+1))=(decide (p∈m.take k)||decide (p=m.getD k nil2)):=by
 rw[aEc hk]
 simp[List.mem_append]
set_option maxRecDepth 100000 in
theorem aEA (a b:Option Addr)(l m:List PR)(n k c d:Nat)(w:World)(hP:Prs w a l)(hQ:Prs w b m)(hL:l.length=n)(hM:m.length=k)(hmax:n≤1000000)(hmax2:k≤1000000):
 Calls Tryz.prog 78 #[.slice a n c,.slice b k d] w fun e w'=>e= .returned (.bool (subB l m))∧Below w.heap.size w w':=by
 have HP:=yH hP
 have HQ:=yH hQ
 have HL:=yH hL
 have HM:=yH hM
 have HE:=yH fun i j=>aOa (hP.1.at_ i) (hQ.1.at_ j)
 have hmx:Tryz.prog.follows .mixedOrders=true:=by kernel_rfl
 clear hP hQ hL hM
 go_enter Tryz.func78,Tryz.ntmps78
 go_wp2
 go_loopw [5] (fun i wr=> ∃j:Nat,j≤n∧i= .int .i64 (j:Int)∧Hid (∀x,x<j→l.getD x nil2∈m)∧Hid (Below w.heap.size w wr)) (fun i _=>n-(intOf i).toNat)
 case atStart=>exact⟨0,by omega,rfl,yH fun j hj=>absurd hj (by omega),yH (Below.refl _ _)⟩
 case round=>
  obtain⟨j,hj,rfl,hall,hB⟩:=hrel
  rcases Nat.lt_or_ge j n with hlt|hge
  ·have hin:(j:Int)<(n:Int):=by omega
   go_wp2
   go_loopw [6,7] (fun s i wr=> ∃x:Nat,x≤k∧i= .int .i64 (x:Int)∧s= .bool (decide (l.getD j nil2∈m.take x))∧Hid (Below w.heap.size w wr)) (fun _ i _=>k-(intOf i).toNat)
   case atStart=>exact⟨0,by omega,rfl,by simp,hB⟩
   case round=>
    obtain⟨x,hx,rfl,rfl,hB2⟩:=hrel
    rcases Nat.lt_or_ge x k with hlt2|hge2
    ·have hin2:(x:Int)<(k:Int):=by omega
     obtain⟨b1,off1,rfl,hbl1,hc0,hc1⟩:=(HP.out.below hB2.out).2 j (by have:=HL.out;omega)
     obtain⟨b2,off2,rfl,hbl2,hd0,hd1⟩:=(HQ.out.below hB2.out).2 x (by have:=HM.out;omega)
     have hq:=HE.out j x
     have HS:=yH (aFT (m:=m) (k:=x) (by have:=HM.out;omega) (l.getD j nil2))
     generalize T (l.getD j nil2).1=E1 at*
     generalize T (l.getD j nil2).2=E2 at*
     generalize T (m.getD x nil2).1=F1 at*
     generalize T (m.getD x nil2).2=F2 at*
     generalize decide (l.getD j nil2=m.getD x nil2)=q at*
     cases hs:decide (l.getD j nil2∈m.take x)with
     |true=>
      rw[hs]at HS
      clear hs
      go_wp2_with fail
      go_quiet (fail)
      go_wp2
      go_round
      case rel=>exact⟨x+1,by omega,by go_num,by rw[HS.out];rfl,yH (below_drewN hB2.out _)⟩
      case measure=>simp[intOf];omega
     |false=>
      rw[hs]at HS
      clear hs
      go_wp2_with fail
      go_quiet (fail)
      go_wp2
      go_round
      case rel=>exact⟨x+1,by omega,by go_num,by rw[HS.out];rfl,yH (below_drewN hB2.out _)⟩
      case measure=>simp[intOf];omega
    ·obtain rfl:x=k:=by omega
     have ht:m.take x=m:=List.take_of_length_le (by have:=HM.out;omega)
     rw[ht]
     by_cases hm:l.getD j nil2∈m
     ·have hall2:=yH (fun y (hy:y<j+1)=>(by
       rcases Nat.lt_or_ge y j with h1|h1
       ·exact hall.out y h1
       ·obtain rfl:y=j:=by omega
        exact hm:l.getD y nil2∈m))
      rw[decide_eq_true hm]
      clear hm hall ht
      go_wp2
      go_round
      case rel=>exact⟨j+1,by omega,by go_num,hall2,hB2⟩
      case measure=>simp[intOf];omega
     ·have HN:=yH (aPy (m:=m) (by have:=HL.out;omega) hm)
      rw[decide_eq_false hm]
      clear hm hall ht
      go_wp2
      go_ret
      exact⟨aAC HN.out.symm,hB2.out⟩
  ·obtain rfl:j=n:=by omega
   have HN:=yH (subB_yes (m:=m) fun i hi=>hall.out i (by have:=HL.out;omega))
   clear hall
   go_wp2
   go_ret
   exact⟨aAC HN.out.symm,hB.out⟩
end Pb8
namespace Rq
open Bytes8 Blk8 OwnE Ob Nr Np Yq
theorem aQj (K:Nat→Int)(hK:IdOk K)(w:World):(binOp .eql 61 (.agg #[.int .u8 (K 0),.int .u8 (K 1),.int .u8 (K 2),.int .u8 (K 3),.int .u8 (K 4),.int .u8 (K 5),.int .u8 (K 6),.int .u8 (K 7),.int .u8 (K 8),.int .u8 (K 9),.int .u8 (K 10),.int .u8 (K 11),.int .u8 (K 12),.int .u8 (K 13),.int .u8 (K 14),.int .u8 (K 15)]) (.agg #[.int .u8 (K 0),.int .u8 (K 1),.int .u8 (K 2),.int .u8 (K 3),.int .u8 (K 4),.int .u8 (K 5),.int .u8 (K 6),.int .u8 (K 7),.int .u8 (K 8),.int .u8 (K 9),.int .u8 (K 10),.int .u8 (K 11),.int .u8 (K 12),.int .u8 (K 13),.int .u8 (K 14),.int .u8 (K 15)])).run Tryz.prog w= .ok (.bool true) w:=by
 obtain⟨r,hr,hiff⟩:=run_equalIn_deep (P:=Tryz.prog) 9998 2 61 (by kernel_rfl) w 2 2 (.agg #[.int .u8 (K 0),.int .u8 (K 1),.int .u8 (K 2),.int .u8 (K 3),.int .u8 (K 4),.int .u8 (K 5),.int .u8 (K 6),.int .u8 (K 7),.int .u8 (K 8),.int .u8 (K 9),.int .u8 (K 10),.int .u8 (K 11),.int .u8 (K 12),.int .u8 (K 13),.int .u8 (K 14),.int .u8 (K 15)]) (.agg #[.int .u8 (K 0),.int .u8 (K 1),.int .u8 (K 2),.int .u8 (K 3),.int .u8 (K 4),.int .u8 (K 5),.int .u8 (K 6),.int .u8 (K 7),.int .u8 (K 8),.int .u8 (K 9),.int .u8 (K 10),.int .u8 (K 11),.int .u8 (K 12),.int .u8 (K 13),.int .u8 (K 14),.int .u8 (K 15)]) ((idL K).map (Lit.int .u8)) ((idL K).map (Lit.int .u8)) (by kernel_rfl) (by kernel_rfl) (aMf K hK) (aMf K hK)
 have h:r=true:=hiff.2 rfl
 subst h
 rw[run_eql_struct,show(10000:Nat)=9998+2 from rfl,hr]
 rfl
theorem rec_range {w:World}{g:Nat}{T:TypeId}{s r m:Int}{K:Nat→Int}{F:Value}(h:Blk w g (recL s r m K F) T):w.rangeAt g 3 (idJ K):=fun j v hj=>by
 have hl:j<16:=(List.getElem?_eq_some_iff.1 hj).1
 refine h.cell (i:=3+j) ?_
 rw[aC7 K j hl]at hj
 rcases j with _|_|_|_|_|_|_|_|_|_|_|_|_|_|_|_|j
 all_goals first|exact hj|omega
attribute [local irreducible] wpList Code.wp
end Rq
namespace Zs
open Bytes8 Blk8 Own8 OwnE Rows2 Ob Nr Np Pr8 Yq Pb8 Rq
theorem subB_yes {l m:List PR}(h: ∀x∈l,x∈m):subB l m=true:=by
 unfold subB
 rw[List.all_eq_true]
 exact fun x hx=>by simpa using h x hx
theorem aMg {s r m:Int}{K K2:Nat→Int}{F:Value}(h: ∀i,i<16→K i=K2 i):recL s r m K F=recL s r m K2 F:=by
 unfold recL
 rw[h 0 (by decide),h 1 (by decide),h 2 (by decide),h 3 (by decide),h 4 (by decide),h 5 (by decide),h 6 (by decide),h 7 (by decide),h 8 (by decide),h 9 (by decide),h 10 (by decide),h 11 (by decide),h 12 (by decide),h 13 (by decide),h 14 (by decide),h 15 (by decide)]
attribute [local irreducible] wpList Code.wp
theorem aH6 (s r m:Int)(K:Nat→Int)(hK:IdOk K)(A B:Option Addr)(n k c d:Nat)(l1 l2:List PR)(w:World)(h1:Prs w A l1)(h2:Prs w B l2)(hl1:l1.length=n)(hl2:l2.length=k)(hn:n≤1000000)(hk:k≤1000000)(hs: ∀x,x∈l1↔x∈l2):
 Calls Tryz.prog 35 #[.agg (recL s r m K (.slice A n c)).toArray,.agg (recL s r m K (.slice B k d)).toArray] w fun e w'=>e= .returned (.bool true)∧Below w.heap.size w w':=by
 have B0:=yH (((Below.refl w.heap.size w).alloc (yR _) (.cells (recL s r m K (.slice A n c)).toArray 64)).alloc (by simp) (.cells (recL s r m K (.slice B k d)).toArray 64))
 have P0:=yH ((show Blk (w.alloc (.cells (recL s r m K (.slice A n c)).toArray 64)) w.heap.size (recL s r m K (.slice A n c)) 64 from Blk.new w _ _).alloc (.cells (recL s r m K (.slice B k d)).toArray 64))
 have Q0:=yH (show Blk ((w.alloc (.cells (recL s r m K (.slice A n c)).toArray 64)).alloc (.cells (recL s r m K (.slice B k d)).toArray 64)) (w.heap.size+1) (recL s r m K (.slice B k d)) 64 from Blk.new_at _ _ _ _ (by simp))
 have h1':=yH (h1.below B0.out)
 have h2':=yH (h2.below B0.out)
 have heq:=aQj K hK
 clear h1 h2
 have p0:=P0.out.cell (i:=0) rfl;have p1:=P0.out.cell (i:=1) rfl;have p2:=P0.out.cell (i:=2) rfl;have p19:=P0.out.cell (i:=19) rfl
 have q0:=Q0.out.cell (i:=0) rfl;have q1:=Q0.out.cell (i:=1) rfl;have q2:=Q0.out.cell (i:=2) rfl;have q19:=Q0.out.cell (i:=19) rfl
 go_enter Tryz.func35,Tryz.ntmps35
 go_upto_region 1 with fail
 have hlt1:=P0.out.lt
 have hlt2:=Q0.out.lt
 have PR0:=yH (rec_range P0.out)
 have QR0:=yH (rec_range Q0.out)
 generalize (w.alloc (.cells (recL s r m K (.slice A n c)).toArray 64)).alloc (.cells (recL s r m K (.slice B k d)).toArray 64)=W0 at*
 have HS1:=yH (by have q:=aEA A B l1 l2 n k c d W0 h1'.out h2'.out hl1 hl2 hn hk;rw[subB_yes fun x hx=>(hs x).1 hx]at q;exact q)
 have HS2:=yH fun(W:World) (hW:Below W0.heap.size W0 W)=>by have q:=aEA B A l2 l1 k n d c W (h2'.out.below hW) (h1'.out.below hW) hl2 hl1 hk hn;rw[subB_yes fun x hx=>(hs x).2 hx]at q;exact q
 have HP:=yH fun(W:World) (hW:Below W0.heap.size W0 W)=>(P0.out.below hW hlt1).cell (i:=19) rfl
 have HQ:=yH fun(W:World) (hW:Below W0.heap.size W0 W)=>(Q0.out.below hW hlt2).cell (i:=19) rfl
 go_wp2_with(first
  |(refine aA2 rfl 61 (.tmp 25) rfl w.heap.size 3 rfl [.int .u8 (K 0),.int .u8 (K 1),.int .u8 (K 2),.int .u8 (K 3),.int .u8 (K 4),.int .u8 (K 5),.int .u8 (K 6),.int .u8 (K 7),.int .u8 (K 8),.int .u8 (K 9),.int .u8 (K 10),.int .u8 (K 11),.int .u8 (K 12),.int .u8 (K 13),.int .u8 (K 14),.int .u8 (K 15)] _ PR0.out Tryz.underlying61 rfl idInfo ?_)
  |(refine aA2 rfl 61 (.tmp 27) rfl (w.heap.size+1) 3 rfl [.int .u8 (K 0),.int .u8 (K 1),.int .u8 (K 2),.int .u8 (K 3),.int .u8 (K 4),.int .u8 (K 5),.int .u8 (K 6),.int .u8 (K 7),.int .u8 (K 8),.int .u8 (K 9),.int .u8 (K 10),.int .u8 (K 11),.int .u8 (K 12),.int .u8 (K 13),.int .u8 (K 14),.int .u8 (K 15)] _ QR0.out Tryz.underlying61 rfl idInfo ?_)
  |(go_at_call 78;(with_reducible refine HS1.out.mono ?_);rintro e w2 ⟨rfl,hb2⟩;have HB2:=yH hb2;have p19b:=HP.out _ hb2;have q19b:=HQ.out _ hb2;clear hb2)
  |(go_at_call 78;(with_reducible refine(HS2.out _ HB2.out).mono ?_);rintro e w3 ⟨rfl,hb3⟩;have HB3:=yH (HB2.out.trans (hb3.mono HB2.out.size));clear hb3))
 go_ret
 exact⟨rfl,B0.out.trans (HB3.out.mono B0.out.size)⟩
end Zs
namespace Skc
open Bytes8 Blk8 Own8 OwnE Ga Gb Ma Na Np Nr Ns Nt Rn Rr
open Jj (prs_off)
open Go1 (hcode)
open Yg (NewIn aAr)
attribute [local irreducible] HD.cells wpList Code.wp
theorem aN1 {w:World}{gx m:Nat}{R:Nat→RecP}(ix:Idx w gx m R)(k:Int)(hk:k<0∨(m:Int)≤k):Calls Tryz.prog 33 #[.pointer (some ⟨gx,0,none⟩),.int .i64 k] w fun e w'=>e= .returned (.tuple #[.agg zR,.bool false])∧Below w.heap.size w w':=by
 obtain⟨gf,gv,h,A,E,c,l,P,n,cp,out,cd,GA,mc,h1,h2,h3,h4,rfl⟩:=ix
 have b1:=yH ((Below.refl w.heap.size w).alloc (yR _) (.cells zR 64))
 have Z1:=yH (heap_alloc_new w (.cells zR 64))
 have k1:(w.alloc (.cells zR 64)).cell? ⟨gx,1,none⟩=some (.slice GA m mc):=(b1.out.cell (p:=⟨gx,1,none⟩) h1.lt).trans (h1.cell (i:=1) rfl)
 have k0:w.cell? ⟨gx,1,none⟩=some (.slice GA m mc):=h1.cell (i:=1) rfl
 have hbd:Tryz.prog.built 64 []=some zR:=by kernel_rfl
 clear h1 h2 h3 h4
 by_cases h0:k<0
 ·have d1:decide (k<0)=true:=by simp;omega
  go_enter Tryz.func33,Tryz.ntmps33
  go_wp2_with(first
   |((with_reducible apply aAa (.tmp 4) (.tmp 19));refine wpList_store_row rfl 64 (.tmp 4) (.tmp 19) rfl w.heap.size zR rfl rfl 64 zR Z1.out (by kernel_rfl) rfl (aAo 0 0 0 (fun _=>0) none 0 0) ?_)
   |fail)
  refine bodyPost_ret (v:= .tuple #[.agg zR,.bool false]) (by exact aAr Tryz.results33 _ _ w.heap.size 64 _ (0,0) _ _ rfl rfl (setRow_heap _ _ _ _ _ (0,0) Z1.out) Tryz.underlying64 rfl (by kernel_rfl)) rfl ?_
  exact⟨rfl,below_setRow b1.out (yR _) _⟩
 ·have d1:decide (k<0)=false:=by simp;omega
  have d2:decide ((m:Int)≤k)=true:=by simp;omega
  go_enter Tryz.func33,Tryz.ntmps33
  go_wp2_with(first
   |((with_reducible apply aAa (.tmp 4) (.tmp 19));refine wpList_store_row rfl 64 (.tmp 4) (.tmp 19) rfl w.heap.size zR rfl rfl 64 zR Z1.out (by kernel_rfl) rfl (aAo 0 0 0 (fun _=>0) none 0 0) ?_)
   |fail)
  refine bodyPost_ret (v:= .tuple #[.agg zR,.bool false]) (by exact aAr Tryz.results33 _ _ w.heap.size 64 _ (0,0) _ _ rfl rfl (setRow_heap _ _ _ _ _ (0,0) Z1.out) Tryz.underlying64 rfl (by kernel_rfl)) rfl ?_
  exact⟨rfl,below_setRow b1.out (yR _) _⟩
end Skc
namespace Jf
open Bytes8 Blk8 OwnE Rows2 Ga Gb Ma Kf Na Np Nr Nt Nu Rc Rr Va Pr8 Dc
def RowAt (w:World)(A:Option Addr)(i:Nat)(r:RecP):Prop:= ∃(b:Nat) (F:Option Addr) (c:Nat),A=some ⟨b,0,none⟩∧b<w.heap.size∧w.rangeAt b (i*20) (recL r.s r.r r.m r.K (.slice F r.n c))∧Prs w F r.pl∧r.Ok
theorem RowAt.below {w w':World}{A:Option Addr}{i:Nat}{r:RecP}(h:RowAt w A i r)(hb:Below w.heap.size w w'):RowAt w' A i r:=by
 obtain⟨b,F,c,e,hl,hr,hp,ok⟩:=h
 exact⟨b,F,c,e,yL hl hb.size,fun j v hj=>(World.cell?_of_block (a:=⟨b,i*20+j,none⟩) (hb.block b hl)).trans (hr j v hj),hp.below hb,ok⟩
theorem aMh {w:World}{B n c:Nat}{A:Option Addr}{xs:List Value}(h:OwnE 64 20 w B A n c xs)(i:Nat)(hi:i<n): ∃b,A=some ⟨b,0,none⟩∧b<w.heap.size∧w.rangeAt b (i*20) ((xs.drop (20*i)).take 20):=by
 have hl:xs.length=n*20:=OwnE.len h
 obtain⟨b,e,_,hlt,_⟩:=OwnE.cell h (i:=20*i) (by omega)
 refine⟨b,e,hlt,fun j v hj=>?_⟩
 have hj2:j<20:=by
  have:=(List.getElem?_eq_some_iff.1 hj).1
  rw[List.length_take]at this;omega
 rw[List.getElem?_take_of_lt hj2,List.getElem?_drop]at hj
 rw[Nat.mul_comm i 20]
 obtain⟨b2,h1,_,_,h2⟩:=OwnE.cell h (i:=20*i+j) (List.getElem?_eq_some_iff.1 hj).1
 rw[e]at h1
 injection h1 with h1
 injection h1 with h1
 subst h1
 exact h2.trans hj
theorem aJ1 {w:World}{B n c:Nat}{A:Option Addr}{xs:List Value}{gq:Nat}{F:Nat→Prop}{b0:Int}{rs:List Zj.RR}(h:OwnE 64 20 w B A n c xs)(q:RowsR w gq F A xs b0 rs)(i:Nat)(hi:i<rs.length)(hK:IdOk rs[i].2.2.2):RowAt w A i (rowP b0 i rs[i]):=by
 have hl:xs.length=n*20:=OwnE.len h
 have hl2:=q.len
 obtain⟨b,e,hlt,hr⟩:=aMh h i (by omega)
 obtain⟨Ar,nr,cr,e1,e2,e3,e4,_⟩:=q.at_ i hi
 rw[e1]at hr
 subst e2
 exact⟨b,Ar,cr,e,hlt,hr,e4,⟨hK,rfl,by show rs[i].1.length≤_;omega⟩⟩
attribute [local irreducible] HD.cells wpList Code.wp
end Jf
namespace SeekRecordsW
open Bytes8 Blk8 Own8 OwnM OwnE Rows2 Od Ga Gb Gj Ma Mb Mh Na Np Nr Ns Nt Nu Rc Rn Rr Va Wa Pr8 Zg Zh Zj Zl Zs Seq8 Kf Jb Jd Jf Ji Ska Skc Skd Skf
open Go1 (hcode)
attribute [local irreducible] HD.cells wpList Code.wp
theorem aPz {w:World}{gx m:Nat}{R:Nat→RecP}(ix:Idx w gx m R)(x:Nat)(hx:x<m):
 Calls Tryz.prog 34 #[.pointer (some ⟨gx,0,none⟩),.int .u64 (R x).s] w fun e w'=>(∃c:Nat,e= .returned (.tuple #[.int .i64 (x:Int),.int .i64 (c:Int)]))∧Below w.heap.size w w':=by
 have hri:=ix.facts.2.2.1
 refine(aHT ix (R x).s).mono ?_
 rintro e w' ⟨r,c,rfl,h2,_,h4⟩
 have e1:r=x:=h2.uniq ⟨Nat.le_of_lt hx,fun k hk=>by have:=hri k x hk hx;simp;omega,fun _=>by simp⟩
 subst e1
 exact⟨⟨c,rfl⟩,h4⟩
theorem aJ2 {w:World}{g:Nat}{vs:List Value}{T:TypeId}(h:Blk w g vs T):w.rangeAt g 0 vs:=fun j v hj=>by rw[Nat.zero_add];exact h.cell hj
theorem walk_main (a:Option Addr)(len cap:Nat)(f:Nat→Int)(kq:Int)(w:World)(hI:InInts .i64 w a len f)(hl:len≤300):
 Calls Tryz.prog 7 #[.slice a len cap,.int .i64 kq] w fun e w'=>e= .returned (.bool true)∧Below w.heap.size w w':=by
 have d1:decide ((300:Int)<(len:Int))=false:=by simp;omega
 have HI:=yH hI
 clear hI
 go_enter Tryz.func7,Tryz.ntmps7
 go_upto_region 6 with(go_at_call 30;((with_reducible refine(aDg _).mono ?_);rintro e w1 ⟨rfl,hb1⟩;have B1:=yH hb1;clear hb1))
 clear d1
 have HI1:=yH (HI.out.below B1.out)
 have Q1:=yH (show SeqIn (w1.alloc (.cells #[.slice a len cap,.int .i64 0] 42)) w1.heap.size a len cap f 0 from⟨Blk.new w1 [.slice a len cap,.int .i64 0] _,HI1.out.below ((Below.refl _ _).alloc (yR _) _),fun h0 b off e=>by obtain⟨b',off',e',h1,_⟩:=HI1.out 0 h0;rw[e]at e';injection e' with e';injection e' with e';omega,Nat.zero_le _,by omega⟩)
 have b1:=yH ((Below.refl w1.heap.size w1).alloc (yR _) (.cells #[.slice a len cap,.int .i64 0] 42))
 have HM:=yH (aEX w1.heap.size a len cap f 0 30 _ Q1.out (by decide))
 unfold MadeR at HM
 go_upto_region 7 with(first
  |(go_at_call 21;(refine HM.out.mono ?_);rintro e w2 ⟨g,A,n,c,B,p,m,rs,xs,b0,rfl,hB,hat,hgd,hk,hrw,hrc,hrl,hn9,hro⟩;have HA:=yH hat;have HG:=yH hgd;have HK:=yH hk;have HRw:=yH hrw;have HRc:=yH hrc;have HRl:=yH hrl;have HN9:=yH hn9;have HRo:=yH hro;clear hat hgd hk hrw hrc hrl hn9 hro)
  |fail)
 have hI:=HG.out.img
 obtain⟨l1,l2,l3⟩:=hI.lens
 have hn30:=HG.out.le
 obtain⟨os,hs,mi,es,hkept,hrecs⟩:=aGD HRc.out
 have HMl:=yH (show mi.length=n by rw[hkept.len,HRl.out])
 have ht:(0:Int)≤1∧(1:Int)≤2:=by decide
 have HIm:=yH (aD5 B g p.bb p.cb p.S m 1 w2 HA.out.st (by omega) (aLO hI ht) (by have:=hI.inv.dep;omega))
 unfold Owned at HIm
 have hsl:(HD.plus (Mk.head m 1) (m.depth:Int)).bytes 21++m.b.drop 272=stL m 1:=rfl
 rw[hsl]at HIm
 have HOp:=yH fun(A:Option Addr) (c:Nat) (W:World) (hb:Bytes W A (stL m 1)) (hc:m.b.length≤c)=>aLR hkept ht A c W hb hc
 unfold Op16 at HOp
 obtain⟨hgl,hgs⟩:=aLQ hkept hrecs ht (by rw[HRl.out];exact HN9.out)
 have hlI:(toI mi).length=mi.length:=List.length_map _
 rw[hlI]at HOp
 have hgl2:(goodL (hdOf (stL m 1)) (stL m 1) m.b.length (toI mi) mi.length).length=n:=by rw[←aDu,hgl,HRl.out]
 have HGs:=yH (show ∀i (hi:i<rs.length),SameP (rK (hdOf (stL m 1)) (stL m 1) m.b.length (toI mi) mi.length i) (rowP b0 i rs[i])from fun i hi=>by
  rw[←aLS _ _ _ _ _ i (by rw[hgl2,←HRl.out];exact hi)]
  exact hgs i hi)
 rw[hgl2]at HOp
 have HKk:=yH fun(i:Nat) (hi:i<rs.length)=>(hrecs.ok _ (List.getElem_mem hi)).K
 have B2:=yH (B1.out.trans ((b1.out.trans (KeptB.below (HK.out.mono b1.out.size) (yR _))).mono B1.out.size))
 clear Q1 HM b1 HI HI1 hsl hI hkept hrecs HRc HN9 HG HK l1 l2 l3 HA hgs hgl hlI ht hgl2
 generalize rK (hdOf (stL m 1)) (stL m 1) m.b.length (toI mi) mi.length=R at*
 generalize stL m 1=l at*
 generalize m.b.length=E at*
 have hne:((n:Int)!=(n:Int))=false:=by simp
 go_upto_region 10 with(first
  |(go_at_call 22;(refine HIm.out.mono ?_);rintro e w3 ⟨A3,c3,rfl,ho3,hb3⟩;have HO3:=yH ho3.bytes;have HC3:=yH (aBs ho3);have B3:=yH hb3;clear ho3 hb3)
  |(go_at_call 31;(refine(HOp.out _ _ _ HO3.out HC3.out.1).mono ?_);rintro e w4 ⟨gx,A9,c9,ys,B0,rfl,hx,_,_,hb4⟩;have HX:=yH hx;have HL:=yH (aFN hx);have B4:=yH (B3.out.trans (hb4.mono B3.out.size));clear hx hb4)
  |(go_at_call 32;((refine HL.out.mono ?_);rintro e w6 ⟨rfl,rfl⟩))
  |fail)
 have HRa:=yH fun(i:Nat) (hi:i<rs.length)=>(aJ1 HRw.out.own HRo.out i hi (HKk.out i hi)).below B4.out
 have S4:=yH (Below.refl w4.heap.size w4)
 have BW:=yH (B2.out.trans (B4.out.mono B2.out.size))
 clear HL HIm HOp HRw HRo HKk HO3 HC3 hB B3 hne B1 B2 B4 HMl
 go_wp2_with fail
 go_loopw [10] (fun iv wr=> ∃x:Nat,x≤n∧iv= .int .i64 (x:Int)∧Hid (Below w4.heap.size w4 wr)) (fun iv _=>n-Rn.natOf iv)
 case atStart=>exact⟨0,Nat.zero_le _,rfl,S4⟩
 case round=>
  clear S4
  obtain⟨x,hx,rfl,hB⟩:=hrel
  have HXr:=yH (HX.out.below hB.out)
  by_cases hlt:x<n
  ·have dd1:decide ((x:Int)<(n:Int))=true:=by simp;omega
   have hxi:(x:Int)<(n:Int):=by omega
   have hw1:IntKind.i64.wrap ((x:Int)+1)=((x+1:Nat):Int):=by rw[IntKind.wrap_i64];omega
   have hxl:x<rs.length:=by rw[HRl.out];exact hlt
   obtain⟨bb,Fb,cb,rfl,hlb,hrb,hpb,okb⟩:=(HRa.out x hxl).below hB.out
   obtain⟨s1,s2,s3,s4,s5⟩:=HGs.out x hxl
   rw[←s1,←s2,←s3,←aMg s4]at hrb
   have oka:=HX.out.facts.2.1 x
   have HKx:=yH oka.K
   have la:=oka.len;have na:=oka.n;have lb:=okb.len;have nb:=okb.n
   have HRi:=yH (aHR HXr.out x hlt)
   have HSh:=yH fun(W:World) (hW:Below wr.heap.size wr W)=>aPz (HXr.out.below hW) x hlt
   have HRb:=yH hrb
   have HPb:=yH hpb
   have HSs:=yH s5
   unfold ITell at HRi
   clear s1 s2 s3 s4 s5 oka okb hrb hpb HGs HRa HX HXr
   generalize R x=p at*
   generalize rowP b0 x _=q at*
   clear hxl
   obtain⟨sq,real,mono,K,kk,pl⟩:=p
   obtain⟨_,_,_,_,nr,L⟩:=q
   dsimp only at*
   go_upto_region 14 with(first
    |(go_at_call 33;(refine HRi.out.mono ?_);rintro e y1 ⟨F1,c11,rfl,hp1,_,hb1⟩;have HP1:=yH hp1;have C1:=yH hb1;clear hp1 hb1)
    |((with_reducible apply aAa (.tmp 11) (.tmp 56));refine wpList_store_row rfl 64 (.tmp 11) (.tmp 56) rfl y1.heap.size (recL sq real mono K (.slice F1 kk c11)).toArray rfl rfl 64 zR (heap_alloc_new y1 _) (aAm _ _ _ _ _) rfl (by simp[Value.oneCell']) ?_)
    |fail)
   have Ra1:=yH (show Blk ((y1.alloc (.cells zR 64)).setRow y1.heap.size (recL sq real mono K (.slice F1 kk c11)).toArray) y1.heap.size (recL sq real mono K (.slice F1 kk c11)) 64 from setRow_heap _ _ _ _ _ (0,0) (heap_alloc_new y1 _))
   have Bb1:=yH (show Below y1.heap.size y1 ((y1.alloc (.cells zR 64)).setRow y1.heap.size (recL sq real mono K (.slice F1 kk c11)).toArray)from below_setRow ((Below.refl _ _).alloc (yR _) _) (yR _) _)
   generalize (y1.alloc (.cells zR 64)).setRow y1.heap.size (recL sq real mono K (.slice F1 kk c11)).toArray=y2 at*
   have C2:=yH (C1.out.trans (Bb1.out.mono C1.out.size))
   have HP2:=yH (HP1.out.below Bb1.out)
   have hlt1:=Ra1.out.lt
   generalize y1.heap.size=g11 at*
   have kS:y2.cell? ⟨bb,x*20,none⟩=some (.int .u64 sq):=(C2.out.cell (p:=⟨bb,x*20,none⟩) hlb).trans (HRb.out 0 _ rfl)
   have HSq:=yH (HSh.out y2 C2.out)
   clear HRi HSh HP1 C1 Bb1
   go_upto_region 15 with(first
    |(go_at_call 34;(refine HSq.out.mono ?_);rintro e y3 ⟨⟨cl,rfl⟩,hb3⟩;have C3:=yH (C2.out.trans (hb3.mono C2.out.size));have HP3:=yH (HP2.out.below hb3);have Ra3:=yH (Ra1.out.below hb3 hlt1);clear hb3)
    |fail)
   clear HSq kS HP2 Ra1 C2
   have hlt3:=Ra3.out.lt
   have hlb3:=yL hlb C3.out.size
   have HPb3:=yH (HPb.out.below C3.out)
   have D0:=yH (show Below y3.heap.size y3 y3.drew from(Below.refl y3.heap.size y3).drew)
   have HS:=yH fun(W:World) (hW:Below y3.heap.size y3 W)=>show W.rangeAt g11 0 (recL sq real mono K (.slice F1 kk c11))∧W.rangeAt bb (x*20) (recL sq real mono K (.slice Fb nr cb))from
    ⟨aJ2 (Ra3.out.below hW hlt3),fun j v hj=>(World.cell?_of_block (a:=⟨bb,x*20+j,none⟩) (hW.block bb hlb3)).trans ((World.cell?_of_block (a:=⟨bb,x*20+j,none⟩) (C3.out.block bb hlb)).trans (HRb.out j v hj))⟩
   have HSm:=yH fun(W:World) (hW:Below y3.heap.size y3 W)=>aH6 sq real mono K HKx.out F1 Fb kk nr c11 cb pl L W (HP3.out.below hW) (HPb3.out.below hW) la lb na nb HSs.out
   have hxx:((x:Int)!=(x:Int))=false:=by simp
   refine wp_region_noPanic ?_
   refine wp_region_held_drew (S:=fun W:World=>W.rangeAt g11 0 (recL sq real mono K (.slice F1 kk c11))∧W.rangeAt bb (x*20) (recL sq real mono K (.slice Fb nr cb))) (by kernel_rfl) (by exact HS.out _ D0.out) (fun hHeld=>?_)
   refine tq 0 68 rfl (fun W hSw=>by go_simp;try (with_reducible rfl)) ?_
   try simp only[Act.put,sA,sZ,sS]
   refine tq 1 69 rfl (fun W hSw=>by go_simp;try (with_reducible rfl)) ?_
   try simp only[Act.put,sA,sZ,sS]
   refine tq 2 70 rfl (fun W hSw=>by go_simp;try (with_reducible rfl)) ?_
   try simp only[Act.put,sA,sZ,sS]
   refine tk (i:=3) (oi:=⟨some 71,_,_,_,_,_⟩) rfl (yieldsIf_load_mid (by rfl) _ _ rfl _ _ rfl _ _ (fun _ h=>h.1) Tryz.underlying64 rfl (aAm _ _ _ _ _)) ?_
   try simp only[Act.put,sA,sZ,sS]
   refine tq 4 72 rfl (fun W hSw=>by go_simp;try (with_reducible rfl)) ?_
   try simp only[Act.put,sA,sZ,sS]
   refine tq 5 73 rfl (fun W hSw=>by go_simp;try (with_reducible rfl)) ?_
   try simp only[Act.put,sA,sZ,sS]
   refine tq 6 74 rfl (fun W hSw=>by go_simp;try (with_reducible rfl)) ?_
   try simp only[Act.put,sA,sZ,sS]
   refine tk (i:=7) (oi:=⟨some 75,_,_,_,_,_⟩) rfl (yieldsIf_load_mid (by rfl) _ _ rfl _ _ rfl _ _ (fun _ h=>h.2) Tryz.underlying64 rfl (aAm _ _ _ _ _)) ?_
   try simp only[Act.put,sA,sZ,sS]
   refine rd 8 rfl (fun KK hKK=>?_)
   go_simp
   ((with_reducible refine(HSm.out _ D0.out).mono ?_);rintro e w9 ⟨rfl,hb9⟩;have B9:=yH (D0.out.trans (hb9.mono D0.out.size));clear hb9)
   try go_wp2_with fail
   refine hKK.out _ _ (by exact(HS.out _ B9.out)) (fun hHeld=>?_)
   clear hKK KK
   try simp only[Act.put,sA,sZ,sS]
   refine tq 9 77 rfl (fun W hSw=>by go_simp;try (with_reducible rfl)) ?_
   try simp only[Act.put,sA,sZ,sS]
   refine tq 10 78 rfl (fun W hSw=>by go_simp;try (with_reducible rfl)) ?_
   try simp only[Act.put,sA,sZ,sS]
   refine tq 11 79 rfl (fun W hSw=>by go_simp;try (with_reducible rfl)) ?_
   try simp only[Act.put,sA,sZ,sS]
   refine tq 12 80 rfl (fun W hSw=>by go_simp;try (with_reducible rfl)) ?_
   try simp only[Act.put,sA,sZ,sS]
   refine tq 13 81 rfl (fun W hSw=>by go_simp;try (with_reducible rfl)) ?_
   try simp only[Act.put,sA,sZ,sS]
   refine tq 14 82 rfl (fun W hSw=>by go_simp;try (with_reducible rfl)) ?_
   try simp only[Act.put,sA,sZ,sS]
   refine tq 15 83 rfl (fun W hSw=>by go_simp;try (with_reducible rfl)) ?_
   try simp only[Act.put,sA,sZ,sS]
   refine wpAnyH_done (by kernel_rfl) ?_ _
   refine NoPanic.normal ?_
   have SK:=yH (hB.out.trans ((C3.out.trans (B9.out.mono C3.out.size)).mono hB.out.size))
   clear HS HSm hHeld D0 B9 Ra3 HP3 HPb3 C3
   go_wp2_with fail
   go_roundw
   case rel=>exact⟨x+1,hlt,rfl,SK⟩
   case measure=>simp[Rn.natOf];omega
  ·have dd1:decide ((x:Int)<(n:Int))=false:=by simp;omega
   clear HGs HRa
   by_cases hin:0≤kq∧kq<(n:Int)
   ·obtain⟨y,rfl⟩: ∃y:Nat,kq=(y:Int):=⟨kq.toNat,by omega⟩
    have hy:y<n:=by omega
    have e1:decide ((0:Int)≤(y:Int))=true:=by simp
    have e2:decide ((y:Int)<(n:Int))=true:=by simp;omega
    have HRi:=yH (aHR HXr.out y hy)
    unfold ITell at HRi
    clear HX HXr hin hx
    generalize R y=p at*
    obtain⟨sq,real,mono,K,kk,pl⟩:=p
    dsimp only at*
    go_upto_region 18 with(first
     |(go_at_call 33;(refine HRi.out.mono ?_);rintro e y1 ⟨F1,c11,rfl,_,_,hb1⟩;have C1:=yH hb1;clear hb1)
     |((with_reducible apply aAa (.tmp 15) (.tmp 88));refine wpList_store_row rfl 64 (.tmp 15) (.tmp 88) rfl y1.heap.size (recL sq real mono K (.slice F1 kk c11)).toArray rfl rfl 64 zR (heap_alloc_new y1 _) (aAm _ _ _ _ _) rfl (by simp[Value.oneCell']) ?_)
     |fail)
    have Bz:=yH (show Below y1.heap.size y1 ((y1.alloc (.cells zR 64)).setRow y1.heap.size (recL sq real mono K (.slice F1 kk c11)).toArray)from below_setRow ((Below.refl _ _).alloc (yR _) _) (yR _) _)
    generalize (y1.alloc (.cells zR 64)).setRow y1.heap.size (recL sq real mono K (.slice F1 kk c11)).toArray=y2 at*
    have BF:=yH (BW.out.trans ((hB.out.trans ((C1.out.trans (Bz.out.mono C1.out.size)).mono hB.out.size)).mono BW.out.size))
    clear HRi Bz C1
    go_wp2_with fail
    go_ret
    exact⟨rfl,BF.out⟩
   ·have HRo2:=yH (aN1 HXr.out kq (by omega))
    have hbo:(decide (0≤kq)&&decide (kq<(n:Int)))=false:=by
     cases h1:decide (0≤kq)with
     |false=>rfl
     |true=>
      have h2:0≤kq:=by simpa using h1
      have h3: ¬kq<(n:Int):=fun h=>hin ⟨h2,h⟩
      simp[h3]
    clear HX HXr hx
    by_cases h0:0≤kq
    ·have e1:decide (0≤kq)=true:=by simpa using h0
     have e2:decide (kq<(n:Int))=false:=by rw[e1,Bool.true_and]at hbo;exact hbo
     clear hbo h0 hin
     go_upto_region 18 with(first
      |(go_at_call 33;(refine HRo2.out.mono ?_);rintro e y1 ⟨rfl,hb1⟩;have C1:=yH hb1;clear hb1)
      |((with_reducible apply aAa (.tmp 15) (.tmp 88));refine wpList_store_row rfl 64 (.tmp 15) (.tmp 88) rfl y1.heap.size zR rfl rfl 64 zR (heap_alloc_new y1 _) (by kernel_rfl) rfl (aAo 0 0 0 (fun _=>0) none 0 0) ?_)
      |fail)
     have Bz:=yH (show Below y1.heap.size y1 ((y1.alloc (.cells zR 64)).setRow y1.heap.size zR)from below_setRow ((Below.refl _ _).alloc (yR _) _) (yR _) _)
     generalize (y1.alloc (.cells zR 64)).setRow y1.heap.size zR=y2 at*
     have BF:=yH (BW.out.trans ((hB.out.trans ((C1.out.trans (Bz.out.mono C1.out.size)).mono hB.out.size)).mono BW.out.size))
     clear HRo2 Bz C1
     go_wp2_with fail
     go_ret
     exact⟨rfl,BF.out⟩
    ·have e1:decide (0≤kq)=false:=by simp;omega
     clear hbo h0 hin
     go_upto_region 18 with(first
      |(go_at_call 33;(refine HRo2.out.mono ?_);rintro e y1 ⟨rfl,hb1⟩;have C1:=yH hb1;clear hb1)
      |((with_reducible apply aAa (.tmp 15) (.tmp 88));refine wpList_store_row rfl 64 (.tmp 15) (.tmp 88) rfl y1.heap.size zR rfl rfl 64 zR (heap_alloc_new y1 _) (by kernel_rfl) rfl (aAo 0 0 0 (fun _=>0) none 0 0) ?_)
      |fail)
     have Bz:=yH (show Below y1.heap.size y1 ((y1.alloc (.cells zR 64)).setRow y1.heap.size zR)from below_setRow ((Below.refl _ _).alloc (yR _) _) (yR _) _)
     generalize (y1.alloc (.cells zR 64)).setRow y1.heap.size zR=y2 at*
     have BF:=yH (BW.out.trans ((hB.out.trans ((C1.out.trans (Bz.out.mono C1.out.size)).mono hB.out.size)).mono BW.out.size))
     clear HRo2 Bz C1
     go_wp2_with fail
     go_ret
     exact⟨rfl,BF.out⟩
theorem walk (a:Option Addr)(len cap:Nat)(z:List Int)(kq:Int)(w:World)(h:IsRow .i64 w a len cap z)(hs:(Lit.int .i64 kq).wf=true):
 Calls Tryz.prog 7 #[.slice a len cap,.int .i64 kq] w fun e w'=>e= .returned (.bool true)∧Below w.heap.size w w':=by
 obtain⟨hI,h2,h3⟩:=aPx h
 by_cases h1:len≤300
 ·exact walk_main a len cap _ kq w hI h1
 ·have d1:decide ((300:Int)<(len:Int))=true:=by simp;omega
  clear h hI
  go_enter Tryz.func7,Tryz.ntmps7
  go_wp2_with(go_at_call 30;((with_reducible refine(aDg _).mono ?_);rintro e w1 ⟨rfl,hb1⟩;have B1:=yH hb1;clear hb1))
  go_ret
  exact⟨rfl,B1.out⟩
end SeekRecordsW
end Go.Proofs.YteaikbodkgjkdaaGreat
