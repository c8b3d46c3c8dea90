/-
  Texts beneath the proof.
-/
import Derived.Test.YtiddkgcafpaekaaGreatQsSeekSays1
set_option linter.unusedVariables false
set_option linter.unusedSimpArgs false
set_option maxRecDepth 100000
set_option maxHeartbeats 32000000
open Go.ChangeShapes Go.WideShapes Go.ChangeAt Go.RowKit
namespace Go.Proofs.YtiddkgcafpaekaaGreat
namespace Ve
open Ga Np Rr Va Vb
open Yp Ye Yh
open Rn (rcode recL_all natOf)
open Vc (rrecTell)
open Rk (hcode9)
open Ri (ecode9 ez)
open Rd (dcode dz)
open Rg (arcode az)
attribute [local irreducible] wpList Code.wp
theorem wpList_load_row_want {P:Program}{ops:Array Oper}{rest:List Oper}{o:Oper}{a:Act}{w:World}{Q:Exit→Act→World→Prop}(hw:Region.wanted o (yielded ops a.tmps)=true)(ty:TypeId)(x:Operand)(ho:o.op= .load ty x)
 (g:Nat)(hx:a.eval x= .pointer (some ⟨g,0,none⟩))(t:TypeId)(cs:Array Value)(fr:Nat×Nat)(d:TypeDesc)(hg:w.heap[g]? =some (.cells cs t fr))
 (hu:P.underlying ty=some d)(hd:(match d with| .struct _| .array _ _=>true|_=>false)=true)(hi:(P.info? ty).map (·.size)=some cs.size)
 (h:wpList P ops Q rest (a.put o.dst (.agg cs)) w):wpList P ops Q (o::rest) a w:=
 BigFrame.wpList_want hw fun _ hK=>wp_load_row ty x ho g hx t cs fr d hg hu hd hi (hK _ _ h)
end Ve
namespace Ske
open Bytes8 Blk8 Own8 OwnE Rows2 Ob Ga Gb Ma Na Np Nr Ns Nt Rc Rn Rr Va Wa Pr8 Jb Ska Skc
open Yg (NewIn res_row)
theorem id_lits (K:Nat→Int)(hK:IdOk K):Tryz.prog.keyLits 2 37 [.int .u8 (K 0),.int .u8 (K 1),.int .u8 (K 2),.int .u8 (K 3),.int .u8 (K 4),.int .u8 (K 5),.int .u8 (K 6),.int .u8 (K 7),.int .u8 (K 8),.int .u8 (K 9),.int .u8 (K 10),.int .u8 (K 11),.int .u8 (K 12),.int .u8 (K 13),.int .u8 (K 14),.int .u8 (K 15)]=some ((idL K).map (Lit.int .u8)):=Yq.id_lits K hK
theorem lits_eq (a b:List Int):a.map (Lit.int .u8)=b.map (Lit.int .u8)↔a=b:=by
 constructor
 ·intro h
  induction a generalizing b with
  |nil=>cases b with
   |nil=>rfl
   |cons y b=>cases h
  |cons x a ih=>cases b with
   |nil=>cases h
   |cons y b=>
    simp only[List.map_cons,List.cons.injEq,Lit.int.injEq,true_and]at h
    rw[h.1,ih b h.2]
 ·intro h;rw[h]
theorem eql_ids (K M:Nat→Int)(hK:IdOk K)(hM:IdOk M)(w:World):(binOp .eql 37 (.agg (idJ K).toArray) (.agg (idJ M).toArray)).run Tryz.prog w= .ok (.bool (decide (idL K=idL M))) w:=by
 obtain⟨r,hr,hiff⟩:=run_equalIn_deep (P:=Tryz.prog) 9998 2 37 (by kernel_rfl) w 2 2 (.agg (idJ K).toArray) (.agg (idJ M).toArray) ((idL K).map (Lit.int .u8)) ((idL M).map (Lit.int .u8)) (by kernel_rfl) (by kernel_rfl) (id_lits K hK) (id_lits M hM)
 rw[lits_eq]at hiff
 rw[run_eql_struct,show(10000:Nat)=9998+2 from rfl,hr]
 have h:r=decide (idL K=idL M):=by
  by_cases he:idL K=idL M
  ·rw[hiff.2 he];simp[he]
  ·have h1:r≠true:=fun h=>he (hiff.1 h)
   cases r with
   |true=>exact absurd rfl h1
   |false=>simp[he]
 rw[h]
 rfl
theorem rec_range {w:World}{g:Nat}{T:TypeId}{s r m:Int}{K:Nat→Int}{F:Value}(h:Blk w g (recL s r m K F) T):w.rangeAt g 3 (idJ K):=fun j v hj=>by
 have hl:j<16:=(List.getElem?_eq_some_iff.1 hj).1
 refine h.cell (i:=3+j) ?_
 rw[idJ_get K j hl]at hj
 rcases j with _|_|_|_|_|_|_|_|_|_|_|_|_|_|_|_|j
 all_goals first|exact hj|omega
attribute [local irreducible] HD.cells wpList Code.wp
theorem real1_any (t:Int)(b:Nat)(p:RecP)(F:Value)(w:World)(hb:Blk w b [.int .u64 t] 27):
 Calls Tryz.prog 93 #[.agg (recL p.s p.r p.m p.K F).toArray,.pointer (some ⟨b,0,none⟩)] w fun e w'=>e= .returned (.bool (decide (t≤p.r)))∧Below w.heap.size w w':=by
 have B0:=yH ((Below.refl w.heap.size w).alloc (yR _) (.cells (recL p.s p.r p.m p.K F).toArray 74))
 have R0:=yH (Blk.new w (recL p.s p.r p.m p.K F) 74)
 have kt:=(hb.alloc (.cells (recL p.s p.r p.m p.K F).toArray 74)).cell (i:=0) rfl
 have kr:=R0.out.cell (i:=1) rfl
 clear hb R0
 go_enter Tryz.func93,Tryz.ntmps93
 go_upto_region 1 with fail
 generalize w.alloc (.cells (recL p.s p.r p.m p.K F).toArray 74)=w1 at*
 go_wp2_with fail
 go_ret
 exact⟨rfl,B0.out⟩
theorem mono1_any (M:Nat→Int)(hM:IdOk M)(t:Int)(b1 b2:Nat)(p:RecP)(hp:IdOk p.K)(F:Value)(w:World)(hb1:Blk w b1 (idJ M) 37)(hb2:Blk w b2 [.int .u64 t] 27):
 Calls Tryz.prog 92 #[.agg (recL p.s p.r p.m p.K F).toArray,.pointer (some ⟨b1,0,none⟩),.pointer (some ⟨b2,0,none⟩)] w fun e w'=>e= .returned (.bool (decide (idL p.K=idL M)&&decide (t≤p.m)))∧Below w.heap.size w w':=by
 have B0:=yH ((Below.refl w.heap.size w).alloc (yR _) (.cells (recL p.s p.r p.m p.K F).toArray 74))
 have R0:=yH (Blk.new w (recL p.s p.r p.m p.K F) 74)
 have kt:=(hb2.alloc (.cells (recL p.s p.r p.m p.K F).toArray 74)).cell (i:=0) rfl
 have km:=R0.out.cell (i:=2) rfl
 have HRg:=yH (rec_range R0.out)
 have HI:=yH (hb1.alloc (.cells (recL p.s p.r p.m p.K F).toArray 74))
 have heq:=eql_ids p.K M hp hM
 clear hb1 hb2 R0
 generalize decide (idL p.K=idL M)=bi at*
 go_enter Tryz.func92,Tryz.ntmps92
 go_upto_region 1 with fail
 generalize w.alloc (.cells (recL p.s p.r p.m p.K F).toArray 74)=w1 at*
 cases bi with
 |true=>
  go_wp2_with(first
   |((with_reducible apply at_slot 6);refine wpList_load_mid rfl 37 (.tmp 5) rfl w.heap.size 3 rfl (idJ p.K) _ HRg.out Tryz.underlying37 rfl (idJ_info _) ?_)
   |((with_reducible apply at_slot 7);refine wpList_load_row rfl 37 (.tmp 1) rfl b1 rfl 37 (idJ M).toArray (0,0) _ HI.out Tryz.underlying37 rfl (idJ_info _) ?_)
   |fail)
  go_ret
  exact⟨rfl,B0.out⟩
 |false=>
  go_wp2_with(first
   |((with_reducible apply at_slot 6);refine wpList_load_mid rfl 37 (.tmp 5) rfl w.heap.size 3 rfl (idJ p.K) _ HRg.out Tryz.underlying37 rfl (idJ_info _) ?_)
   |((with_reducible apply at_slot 7);refine wpList_load_row rfl 37 (.tmp 1) rfl b1 rfl 37 (idJ M).toArray (0,0) _ HI.out Tryz.underlying37 rfl (idJ_info _) ?_)
   |fail)
  go_ret
  exact⟨rfl,B0.out⟩
theorem first_real {w:World}{gx m:Nat}{R:Nat→RecP}(ix:Idx w gx m R)(q:RecP→Bool)(b1:Nat)(hC: ∀(p:RecP) (F:Value) (W:World),p.Ok→Below w.heap.size w W→Calls Tryz.prog 93 #[.agg (recL p.s p.r p.m p.K F).toArray,.pointer (some ⟨b1,0,none⟩)] W fun e W'=>e= .returned (.bool (q p))∧Below W.heap.size W W'):
 Calls Tryz.prog 91 #[.pointer (some ⟨gx,0,none⟩),.func (.func 93) #[] #[.pointer (some ⟨b1,0,none⟩)]] w fun e w'=> ∃r:Nat,e= .returned (.int .i64 (r:Int))∧IsFst (fun k=>q (R k)) m r∧Below w.heap.size w w':=by
 obtain⟨hm,hok,_,hgx⟩:=ix.facts
 have HR:=yH fun(k:Nat) (hk:k<m) (V:World) (hV:Below w.heap.size w V)=>irec_in (ix.below hV) k hk
 have HK:=yH fun(V:World) (hV:Below w.heap.size w V)=>show ∃GA mc,V.cell? ⟨gx,1,none⟩=some (.slice GA m mc)from by
  obtain⟨gf,gv,h,A,E,c,l,P,n,cp,out,cd,GA,mc,h1,h2,h3,h4,rfl⟩:=ix.below hV
  exact⟨GA,mc,h1.cell (i:=1) rfl⟩
 have HC:=yH hC
 have HOk:=yH hok
 have S0:=yH (Below.refl w.heap.size w)
 have U0:=yH (UpTo.zero (fun k=>q (R k)))
 obtain⟨GA,mc,k1⟩:=HK.out w S0.out
 unfold ITell at HR
 clear ix hC hok
 go_enter Tryz.func91,Tryz.ntmps91
 go_wp2_with fail
 go_loopw [13] (fun iv wr=> ∃k:Nat,k≤m∧iv= .int .i64 (k:Int)∧Hid (UpTo (fun k=>q (R k)) k)∧Hid (Below w.heap.size w wr)) (fun iv _=>m-Rn.natOf iv)
 case atStart=>exact⟨0,Nat.zero_le _,rfl,U0,S0⟩
 case round=>
  clear S0 U0 k1
  obtain⟨k,hk,rfl,hU,hB⟩:=hrel
  by_cases hlt:k<m
  ·have dd1:decide ((k:Int)<(m:Int))=true:=by simp;omega
   have hw1:IntKind.i64.wrap ((k:Int)+1)=((k+1:Nat):Int):=by rw[IntKind.wrap_i64];omega
   have HR1:=yH (HR.out k hlt wr hB.out)
   have HOk1:=yH (HOk.out k)
   have HQ:=yH (show(fun k=>q (R k)) k=q (R k)from rfl)
   have HC1:=yH fun(F:Value) (W:World) (hW:Below w.heap.size w W)=>HC.out (R k) F W HOk1.out hW
   clear HR HC HOk HOk1
   generalize R k=r at*
   obtain⟨rs,rr,rm,rK,rn,rpl⟩:=r
   dsimp only at HR1 HC1
   generalize q ⟨rs,rr,rm,rK,rn,rpl⟩=bq at*
   go_upto_region 5 with(first
    |(go_at_call 44;(refine HR1.out.mono ?_);rintro e w2 ⟨F,c2,rfl,_,_,hb2⟩;have B2:=yH (hB.out.trans (hb2.mono hB.out.size));clear hb2)
    |((with_reducible apply at_store (.tmp 6) (.tmp 20));refine wpList_store_row rfl 74 (.tmp 6) (.tmp 20) rfl w2.heap.size (recL rs rr rm rK (.slice F rn c2)).toArray rfl rfl 74 zR (heap_alloc_new w2 _) (recInfo _ _ _ _ _) rfl (by simp[Value.oneCell']) ?_)
    |fail)
   have R3:=yH (show Blk ((w2.alloc (.cells zR 74)).setRow w2.heap.size (recL rs rr rm rK (.slice F rn c2)).toArray) w2.heap.size (recL rs rr rm rK (.slice F rn c2)) 74 from setRow_heap _ _ _ _ _ (0,0) (heap_alloc_new w2 _))
   have b3:=yH (show Below w2.heap.size w2 ((w2.alloc (.cells zR 74)).setRow w2.heap.size (recL rs rr rm rK (.slice F rn c2)).toArray)from below_setRow ((Below.refl _ _).alloc (yR _) _) (yR _) _)
   generalize (w2.alloc (.cells zR 74)).setRow w2.heap.size (recL rs rr rm rK (.slice F rn c2)).toArray=w3 at*
   have B3:=yH (B2.out.trans (b3.out.mono B2.out.size))
   have HC3:=yH (HC1.out (.slice F rn c2) w3 B3.out)
   clear HR1 HC1 b3 B2
   generalize w2.heap.size=g2 at*
   cases bq with
   |true=>
    go_wp2_with(first
     |((with_reducible apply at_slot 25);refine Ve.wpList_load_row_want rfl 74 (.tmp 6) rfl g2 rfl 74 (recL rs rr rm rK (.slice F rn c2)).toArray (0,0) _ R3.out Tryz.underlying74 rfl (recInfo _ _ _ _ _) ?_)
     |(go_at_call 93;(refine HC3.out.mono ?_);rintro e w4 ⟨rfl,hb4⟩;have B4:=yH (B3.out.trans (hb4.mono B3.out.size));clear hb4)
     |fail)
    go_ret
    exact⟨k,rfl,hU.out.fst hk (fun _=>HQ.out),B4.out⟩
   |false=>
    go_wp2_with(first
     |((with_reducible apply at_slot 25);refine Ve.wpList_load_row_want rfl 74 (.tmp 6) rfl g2 rfl 74 (recL rs rr rm rK (.slice F rn c2)).toArray (0,0) _ R3.out Tryz.underlying74 rfl (recInfo _ _ _ _ _) ?_)
     |(go_at_call 93;(refine HC3.out.mono ?_);rintro e w4 ⟨rfl,hb4⟩;have B4:=yH (B3.out.trans (hb4.mono B3.out.size));clear hb4)
     |fail)
    go_roundw
    case rel=>exact⟨k+1,hlt,rfl,yH (hU.out.succ HQ.out),B4⟩
    case measure=>simp[Rn.natOf];omega
  ·have dd1:decide ((k:Int)<(m:Int))=false:=by simp;omega
   have hkm:k=m:=by omega
   subst hkm
   obtain⟨GA2,mc2,k2⟩:=HK.out wr hB.out
   go_wp2_with fail
   go_ret
   exact⟨k,rfl,hU.out.fst (yR _) (fun h=>absurd h (Nat.lt_irrefl _)),hB.out⟩
theorem first_mono {w:World}{gx m:Nat}{R:Nat→RecP}(ix:Idx w gx m R)(q:RecP→Bool)(b1 b2:Nat)(hC: ∀(p:RecP) (F:Value) (W:World),p.Ok→Below w.heap.size w W→Calls Tryz.prog 92 #[.agg (recL p.s p.r p.m p.K F).toArray,.pointer (some ⟨b1,0,none⟩),.pointer (some ⟨b2,0,none⟩)] W fun e W'=>e= .returned (.bool (q p))∧Below W.heap.size W W'):
 Calls Tryz.prog 91 #[.pointer (some ⟨gx,0,none⟩),.func (.func 92) #[] #[.pointer (some ⟨b1,0,none⟩),.pointer (some ⟨b2,0,none⟩)]] w fun e w'=> ∃r:Nat,e= .returned (.int .i64 (r:Int))∧IsFst (fun k=>q (R k)) m r∧Below w.heap.size w w':=by
 obtain⟨hm,hok,_,hgx⟩:=ix.facts
 have HR:=yH fun(k:Nat) (hk:k<m) (V:World) (hV:Below w.heap.size w V)=>irec_in (ix.below hV) k hk
 have HK:=yH fun(V:World) (hV:Below w.heap.size w V)=>show ∃GA mc,V.cell? ⟨gx,1,none⟩=some (.slice GA m mc)from by
  obtain⟨gf,gv,h,A,E,c,l,P,n,cp,out,cd,GA,mc,h1,h2,h3,h4,rfl⟩:=ix.below hV
  exact⟨GA,mc,h1.cell (i:=1) rfl⟩
 have HC:=yH hC
 have HOk:=yH hok
 have S0:=yH (Below.refl w.heap.size w)
 have U0:=yH (UpTo.zero (fun k=>q (R k)))
 obtain⟨GA,mc,k1⟩:=HK.out w S0.out
 unfold ITell at HR
 clear ix hC hok
 go_enter Tryz.func91,Tryz.ntmps91
 go_wp2_with fail
 go_loopw [13] (fun iv wr=> ∃k:Nat,k≤m∧iv= .int .i64 (k:Int)∧Hid (UpTo (fun k=>q (R k)) k)∧Hid (Below w.heap.size w wr)) (fun iv _=>m-Rn.natOf iv)
 case atStart=>exact⟨0,Nat.zero_le _,rfl,U0,S0⟩
 case round=>
  clear S0 U0 k1
  obtain⟨k,hk,rfl,hU,hB⟩:=hrel
  by_cases hlt:k<m
  ·have dd1:decide ((k:Int)<(m:Int))=true:=by simp;omega
   have hw1:IntKind.i64.wrap ((k:Int)+1)=((k+1:Nat):Int):=by rw[IntKind.wrap_i64];omega
   have HR1:=yH (HR.out k hlt wr hB.out)
   have HOk1:=yH (HOk.out k)
   have HQ:=yH (show(fun k=>q (R k)) k=q (R k)from rfl)
   have HC1:=yH fun(F:Value) (W:World) (hW:Below w.heap.size w W)=>HC.out (R k) F W HOk1.out hW
   clear HR HC HOk HOk1
   generalize R k=r at*
   obtain⟨rs,rr,rm,rK,rn,rpl⟩:=r
   dsimp only at HR1 HC1
   generalize q ⟨rs,rr,rm,rK,rn,rpl⟩=bq at*
   go_upto_region 5 with(first
    |(go_at_call 44;(refine HR1.out.mono ?_);rintro e w2 ⟨F,c2,rfl,_,_,hb2⟩;have B2:=yH (hB.out.trans (hb2.mono hB.out.size));clear hb2)
    |((with_reducible apply at_store (.tmp 6) (.tmp 20));refine wpList_store_row rfl 74 (.tmp 6) (.tmp 20) rfl w2.heap.size (recL rs rr rm rK (.slice F rn c2)).toArray rfl rfl 74 zR (heap_alloc_new w2 _) (recInfo _ _ _ _ _) rfl (by simp[Value.oneCell']) ?_)
    |fail)
   have R3:=yH (show Blk ((w2.alloc (.cells zR 74)).setRow w2.heap.size (recL rs rr rm rK (.slice F rn c2)).toArray) w2.heap.size (recL rs rr rm rK (.slice F rn c2)) 74 from setRow_heap _ _ _ _ _ (0,0) (heap_alloc_new w2 _))
   have b3:=yH (show Below w2.heap.size w2 ((w2.alloc (.cells zR 74)).setRow w2.heap.size (recL rs rr rm rK (.slice F rn c2)).toArray)from below_setRow ((Below.refl _ _).alloc (yR _) _) (yR _) _)
   generalize (w2.alloc (.cells zR 74)).setRow w2.heap.size (recL rs rr rm rK (.slice F rn c2)).toArray=w3 at*
   have B3:=yH (B2.out.trans (b3.out.mono B2.out.size))
   have HC3:=yH (HC1.out (.slice F rn c2) w3 B3.out)
   clear HR1 HC1 b3 B2
   generalize w2.heap.size=g2 at*
   cases bq with
   |true=>
    go_wp2_with(first
     |((with_reducible apply at_slot 25);refine Ve.wpList_load_row_want rfl 74 (.tmp 6) rfl g2 rfl 74 (recL rs rr rm rK (.slice F rn c2)).toArray (0,0) _ R3.out Tryz.underlying74 rfl (recInfo _ _ _ _ _) ?_)
     |(go_at_call 92;(refine HC3.out.mono ?_);rintro e w4 ⟨rfl,hb4⟩;have B4:=yH (B3.out.trans (hb4.mono B3.out.size));clear hb4)
     |fail)
    go_ret
    exact⟨k,rfl,hU.out.fst hk (fun _=>HQ.out),B4.out⟩
   |false=>
    go_wp2_with(first
     |((with_reducible apply at_slot 25);refine Ve.wpList_load_row_want rfl 74 (.tmp 6) rfl g2 rfl 74 (recL rs rr rm rK (.slice F rn c2)).toArray (0,0) _ R3.out Tryz.underlying74 rfl (recInfo _ _ _ _ _) ?_)
     |(go_at_call 92;(refine HC3.out.mono ?_);rintro e w4 ⟨rfl,hb4⟩;have B4:=yH (B3.out.trans (hb4.mono B3.out.size));clear hb4)
     |fail)
    go_roundw
    case rel=>exact⟨k+1,hlt,rfl,yH (hU.out.succ HQ.out),B4⟩
    case measure=>simp[Rn.natOf];omega
  ·have dd1:decide ((k:Int)<(m:Int))=false:=by simp;omega
   have hkm:k=m:=by omega
   subst hkm
   obtain⟨GA2,mc2,k2⟩:=HK.out wr hB.out
   go_wp2_with fail
   go_ret
   exact⟨k,rfl,hU.out.fst (yR _) (fun h=>absurd h (Nat.lt_irrefl _)),hB.out⟩
theorem real_any {w:World}{gx m:Nat}{R:Nat→RecP}(ix:Idx w gx m R)(t:Int):
 Calls Tryz.prog 43 #[.pointer (some ⟨gx,0,none⟩),.int .u64 t] w fun e w'=> ∃r:Nat,e= .returned (.int .i64 (r:Int))∧IsFst (fun k=>decide (t≤(R k).r)) m r∧Below w.heap.size w w':=by
 have b1:=yH ((Below.refl w.heap.size w).alloc (yR _) (.cells #[.int .u64 t] 27))
 have Z1:=yH (Blk.new w [.int .u64 t] 27)
 have HF:=yH (first_real (ix.below b1.out) (fun p=>decide (t≤p.r)) w.heap.size (fun p F W _ hW=>real1_any t w.heap.size p F W (Z1.out.below hW Z1.out.lt)))
 clear ix Z1
 go_enter Tryz.func43,Tryz.ntmps43
 go_wp2_with(first
  |(go_at_call 91;(refine HF.out.mono ?_);rintro e w2 ⟨r,rfl,hr,hb2⟩;have HRr:=yH hr;have B2:=yH (b1.out.trans (hb2.mono b1.out.size));clear hr hb2)
  |fail)
 go_ret
 exact⟨r,rfl,HRr.out,B2.out⟩
theorem mono_any {w:World}{gx m:Nat}{R:Nat→RecP}(ix:Idx w gx m R)(M:Nat→Int)(hM:IdOk M)(t:Int):
 Calls Tryz.prog 42 #[.pointer (some ⟨gx,0,none⟩),.agg (idJ M).toArray,.int .u64 t] w fun e w'=> ∃r:Nat,e= .returned (.tuple (if r<m then #[.int .i64 (r:Int),.bool true]else #[.int .i64 0,.bool false]))∧IsFst (fun k=>decide (idL (R k).K=idL M)&&decide (t≤(R k).m)) m r∧Below w.heap.size w w':=by
 have b2:=yH (((Below.refl w.heap.size w).alloc (yR _) (.cells (idJ M).toArray 37)).alloc (by simp) (.cells #[.int .u64 t] 27))
 have Z1:=yH ((Blk.new w (idJ M) 37).alloc (.cells #[.int .u64 t] 27))
 have Z2:=yH (Blk.new_at (w.alloc (.cells (idJ M).toArray 37)) [.int .u64 t] 27 (w.heap.size+1) (by simp))
 have HF:=yH (first_mono (ix.below b2.out) (fun p=>decide (idL p.K=idL M)&&decide (t≤p.m)) w.heap.size (w.heap.size+1) (fun p F W hp hW=>mono1_any M hM t w.heap.size (w.heap.size+1) p hp.K F W (Z1.out.below hW Z1.out.lt) (Z2.out.below hW Z2.out.lt)))
 have HK:=yH fun(V:World) (hV:Below w.heap.size w V)=>show ∃GA mc,V.cell? ⟨gx,1,none⟩=some (.slice GA m mc)from by
  obtain⟨gf,gv,h,A,E,c,l,P,n,cp,out,cd,GA,mc,h1,h2,h3,h4,rfl⟩:=ix.below hV
  exact⟨GA,mc,h1.cell (i:=1) rfl⟩
 clear ix Z1 Z2
 go_enter Tryz.func42,Tryz.ntmps42
 go_upto_region 2 with(first
  |(go_at_call 91;(refine HF.out.mono ?_);rintro e w3 ⟨r,rfl,hr,hb3⟩;have HRr:=yH hr;have B3:=yH (b2.out.trans (hb3.mono b2.out.size));clear hr hb3)
  |fail)
 obtain⟨GA,mc,k1⟩:=HK.out _ B3.out
 have hle:=HRr.out.1
 by_cases hr:r<m
 ·have d1:((r:Int)==(m:Int))=false:=by simp;omega
  have d2:decide ((r:Int)=(m:Int))=false:=by simp;omega
  clear hle
  go_wp2_with fail
  go_ret2
  exact⟨r,by rw[if_pos hr];rfl,HRr.out,B3.out⟩
 ·have e:r=m:=by omega
  subst e
  have d1:((r:Int)==(r:Int))=true:=by simp
  clear hle
  go_wp2_with fail
  go_ret2
  exact⟨r,by rw[if_neg hr];rfl,HRr.out,B3.out⟩
end Ske
namespace SeekSaysW
open Bytes8 Blk8 Own8 OwnM OwnE Rows2 Ob Ga Gb Gj Ma Mi Na Np Nr Ns Nt Nu Rc Rn Rp Rr Va Vg Wa Pr8 Jb Jd Jf Jj Ska Skc Skd Ske Skf
open Go1 (hcode)
open Gp (z16)
def natJ:Value→Nat
 | .int _ z=>(z+1).toNat
 |_=>0
def moV (m q:Nat):Int:=if q<m then(q:Int)else -1
theorem moV_lt {m q:Nat}(h:q<m):(q:Int)=moV m q:=(if_pos h).symm
theorem moV_no (m:Nat):(-1:Int)=moV m m:=(if_neg (Nat.lt_irrefl m)).symm
attribute [local irreducible] HD.cells wpList Code.wp
theorem seq_is {w:World}{gx m:Nat}{R:Nat→RecP}(ix:Idx w gx m R)(n:Int){q:Nat}(h:IsFst (fun k=>decide (n≤(R k).s)) m q):
 Calls Tryz.prog 41 #[.pointer (some ⟨gx,0,none⟩),.int .u64 n] w fun e w'=>(∃c:Nat,e= .returned (.tuple #[.int .i64 (q:Int),.int .i64 (c:Int)]))∧Below w.heap.size w w':=
 (seq_any ix n).mono fun e w' ⟨r,c,h1,h2,_,h4⟩=>by
   have e1:=h2.uniq h
   subst e1
   exact⟨⟨c,h1⟩,h4⟩
theorem real_is {w:World}{gx m:Nat}{R:Nat→RecP}(ix:Idx w gx m R)(n:Int){q:Nat}(h:IsFst (fun k=>decide (n≤(R k).r)) m q):
 Calls Tryz.prog 43 #[.pointer (some ⟨gx,0,none⟩),.int .u64 n] w fun e w'=>e= .returned (.int .i64 (q:Int))∧Below w.heap.size w w':=
 (real_any ix n).mono fun e w' ⟨r,h1,h2,h4⟩=>by
   have e1:=h2.uniq h
   subst e1
   exact⟨h1,h4⟩
theorem mono_is {w:World}{gx m:Nat}{R:Nat→RecP}(ix:Idx w gx m R)(M:Nat→Int)(hM:IdOk M)(n:Int){q:Nat}(h:IsFst (fun k=>decide (idL (R k).K=idL M)&&decide (n≤(R k).m)) m q):
 Calls Tryz.prog 42 #[.pointer (some ⟨gx,0,none⟩),.agg (idJ M).toArray,.int .u64 n] w fun e w'=>e= .returned (.tuple (if q<m then #[.int .i64 (q:Int),.bool true]else #[.int .i64 0,.bool false]))∧Below w.heap.size w w':=
 (mono_any ix M hM n).mono fun e w' ⟨r,h1,h2,h4⟩=>by
   have e1:=h2.uniq h
   subst e1
   exact⟨h1,h4⟩
def RowC (W:World)(A:Option Addr)(x:Nat)(p:RecP):Prop:= ∃bR F cc,A=some ⟨bR,0,none⟩∧bR<W.heap.size∧W.rangeAt bR (x*20) (recL p.s p.r p.m p.K (.slice F p.n cc))
theorem RowC.below {W W':World}{A:Option Addr}{x:Nat}{p:RecP}(h:RowC W A x p)(hb:Below W.heap.size W W'):RowC W' A x p:=by
 obtain⟨b,F,c,e,hl,hr⟩:=h
 exact⟨b,F,c,e,yL hl hb.size,fun j v hj=>(World.cell?_of_block (a:=⟨b,x*20+j,none⟩) (hb.block b hl)).trans (hr j v hj)⟩
theorem rowC_of {w:World}{B n c:Nat}{A:Option Addr}{xs:List Value}{Q:Nat→RecP}(h:OwnE 74 20 w B A n c xs)(q:RowsN xs n Q)(i:Nat)(hi:i<n):RowC w A i (Q i):=by
 obtain⟨F,cc,e⟩:=q.2 i hi
 obtain⟨b,e1,hlt,hr⟩:=own_range h i hi
 rw[e]at hr
 exact⟨b,F,cc,e1,hlt,hr⟩
theorem rec_mid {w:World}{b o:Nat}{s r m:Int}{K:Nat→Int}{F:Value}(h:w.rangeAt b o (recL s r m K F)):w.rangeAt b (o+3) (idJ K):=fun j v hj=>by
 have hl:j<16:=(List.getElem?_eq_some_iff.1 hj).1
 rw[Nat.add_assoc]
 refine h (3+j) v ?_
 rw[idJ_get K j hl]at hj
 rcases j with _|_|_|_|_|_|_|_|_|_|_|_|_|_|_|_|j
 all_goals first|exact hj|omega
theorem blk_range0 {w:World}{g:Nat}{vs:List Value}{T:TypeId}(h:Blk w g vs T):w.rangeAt g 0 vs:=fun j v hj=>by rw[Nat.zero_add];exact h.cell hj
theorem walk_main (a:Option Addr)(len cap:Nat)(f:Nat→Int)(P:Option Addr)(k kc:Nat)(g:Nat→Int)(by_:Int)(nn tn mn:Nat)(bq:Int)(w:World)(hI:InInts .i64 w a len f)(hl:len≤300)(hP:InInts .i64 w P k g)(hk:k≤4)(hy:0≤by_∧by_<256)(hnn:nn≤18446744073709551615∧tn≤18446744073709551615∧mn≤18446744073709551615):
 Calls Tryz.prog 8 #[.slice a len cap,.slice P k kc,.int .u8 by_,.int .u64 (nn:Int),.int .u64 (tn:Int),.int .u64 (mn:Int),.int .i64 bq] w fun e w'=>e= .returned (.bool true)∧Below w.heap.size w w':=by
 have d1:decide ((300:Int)<(len:Int))=false:=by simp;omega
 have d2:decide ((4:Int)<(k:Int))=false:=by simp;omega
 have HI:=yH hI
 have HP:=yH hP
 have HNn:=yH hnn
 clear hI hP hnn
 go_enter Tryz.func8,Tryz.ntmps8
 go_upto_region 6 with(go_at_call 36;((with_reducible refine(first_seek _).mono ?_);rintro e w1 ⟨rfl,hb1⟩;have B1:=yH hb1;clear hb1))
 clear d1 d2
 have HIm:=yH (image_made a len cap f 30 w1 (HI.out.below B1.out) (by omega) (by decide))
 unfold Imaged at HIm
 have HP1:=yH (HP.out.below B1.out)
 go_upto_region 7 with(first
  |(go_at_call 13;((refine HIm.out.mono ?_);rintro e w2 ⟨A0,c0,m,rfl,hg2,ho2,hb2⟩;have hlen:=hg2.img.lens;have B2:=yH (B1.out.trans (hb2.mono B1.out.size));have HSp:=yH (spoil_any A0 m.b.length c0 (imgB m) P k kc g by_ w2 ho2.bytes (imgB_len hg2.img) (by omega) (HP1.out.below hb2) (by omega) hy);clear hg2 ho2 hb2))
  |(go_at_call 12;((refine HSp.out.mono ?_);rintro e w3 ⟨A,c,l,rfl,hl3,ho3,hb3⟩;have HO:=yH ho3;have B3:=yH (B2.out.trans (hb3.mono B2.out.size));clear ho3 hb3))
  |fail)
 generalize m.b.length=n at*
 have hb:=HO.out.bytes
 have hcap:=own_cap HO.out
 have HB:=yH hb
 have hL:l.length=n:=hl3
 clear HIm HP HP1 HI HSp B1 B2 HO hl3
 by_cases hz:hcode l n=0
 ·have hok:=hdOf_ok hb.1 21
  obtain⟨E,hE,hEB,hEn⟩:=fine_end hz hok
  have HOp:=yH (Skf.open_fine l A n c w3 hb hL (by omega) hcap.1 hz E hE hEB hEn hok)
  unfold Op16 at HOp
  clear hb hz hE hEB hok hEn
  generalize (chase (hdOf l) (l.take E) E ((hdOf l).N 8) 14 2 (E+1) [] ((hdOf l).N 11).toNat 0).1=out at*
  generalize rK (hdOf l) (l.take E) E out out.length=R at*
  generalize (goodL (hdOf l) (l.take E) E out out.length).length=m1 at*
  go_upto_region 8 with(first
   |(go_at_call 37;((refine HOp.out.mono ?_);rintro e w4 ⟨gx,A4,c4,xs,B0,rfl,hx,ho,hr,hb4⟩;have HX:=yH hx;have HRow:=yH (fun i hi=>rowC_of ho hr i hi);have B4:=yH (B3.out.trans (hb4.mono B3.out.size));clear hx ho hr hb4))
   |fail)
  clear HOp HB B3
  obtain⟨hm8,hOk,_,hgx⟩:=HX.out.facts
  have HOk:=yH hOk
  clear hOk
  have HL:=yH (ilen_any HX.out)
  have hne:((m1:Int)!=(m1:Int))=false:=by simp
  go_upto_region 13 with(first
   |(go_at_call 39;((refine HL.out.mono ?_);rintro e y1 ⟨rfl,rfl⟩))
   |fail)
  clear HL hne hm8
  have hm8:=HX.out.facts.1
  have S4:=yH (Below.refl w4.heap.size w4)
  go_wp2_with fail
  go_loopw [3,4,5,21] (fun nv tv mv iv wr=> ∃(i nn tn mn:Nat),i≤3∧nv= .int .u64 (nn:Int)∧tv= .int .u64 (tn:Int)∧mv= .int .u64 (mn:Int)∧iv= .int .i64 (i:Int)∧Hid (nn≤18446744073709551615∧tn≤18446744073709551615∧mn≤18446744073709551615)∧Hid (Below w4.heap.size w4 wr)) (fun _ _ _ iv _=>3-Rn.natOf iv)
  case atStart=>exact⟨0,nn,tn,mn,by omega,rfl,rfl,rfl,rfl,HNn,S4⟩
  case round=>
   clear S4 HNn nn tn mn
   obtain⟨i,nn,tn,mn,hi,rfl,rfl,rfl,rfl,hbd,hB⟩:=hrel
   by_cases hlt:i<3
   ·have dd1:decide ((i:Int)<3)=true:=by simp;omega
    have HId:=yH (mid_any bq wr)
    go_upto_region 17 with(first
     |(go_at_call 40;((refine HId.out.mono ?_);rintro e w5 ⟨xi,hxi,rfl,hb5⟩;have HXi:=yH hxi;have B5:=yH (hB.out.trans (hb5.mono hB.out.size));clear hxi hb5))
     |((with_reducible apply at_store (.tmp 22) (.tmp 72));refine wpList_store_row rfl 37 (.tmp 22) (.tmp 72) rfl w5.heap.size (idJ (mkId xi)).toArray rfl rfl 37 z16.toArray (heap_alloc_new w5 _) (by kernel_rfl) rfl (by simp[Value.oneCell']) ?_)
     |fail)
    have R6:=yH (show Blk ((w5.alloc (.cells z16.toArray 37)).setRow w5.heap.size (idJ (mkId xi)).toArray) w5.heap.size (idJ (mkId xi)) 37 from setRow_heap _ _ _ _ _ (0,0) (heap_alloc_new w5 _))
    have b6:=yH (show Below w5.heap.size w5 ((w5.alloc (.cells z16.toArray 37)).setRow w5.heap.size (idJ (mkId xi)).toArray)from below_setRow ((Below.refl _ _).alloc (yR _) _) (yR _) _)
    have hM:=mkId_ok (x:=xi) ⟨HXi.out.1,by have:=HXi.out.2;omega⟩
    have HM:=yH hM
    clear HId HXi hB hM
    generalize (w5.alloc (.cells z16.toArray 37)).setRow w5.heap.size (idJ (mkId xi)).toArray=w6 at*
    have B6:=yH (B5.out.trans (b6.out.mono B5.out.size))
    clear b6 B5
    generalize w5.heap.size=s22 at*
    generalize mkId xi=M at*
    have S6:=yH (Below.refl w6.heap.size w6)
    have hwl:IntKind.i64.wrap ((m1:Int)-1)=(m1:Int)-1:=by rw[IntKind.wrap_i64];omega
    have F1:=yH (FromK.start (fun k=>decide ((nn:Int)≤(R k).s)) m1)
    have F2:=yH (FromK.start (fun k=>decide ((tn:Int)≤(R k).r)) m1)
    have F3:=yH (FromK.start (fun k=>decide (idL (R k).K=idL M)&&decide ((mn:Int)≤(R k).m)) m1)
    have M0:=yH (moV_no m1)
    go_wp2_with fail
    go_loopw [23,24,25,26] (fun sv rv mv kv wq=> ∃(k q1 q2 q3:Nat) (zm zk:Int),k≤m1∧sv= .int .i64 (q1:Int)∧rv= .int .i64 (q2:Int)∧mv= .int .i64 zm∧kv= .int .i64 zk∧zk=(k:Int)-1∧Hid (FromK (fun k=>decide ((nn:Int)≤(R k).s)) m1 k q1)∧Hid (FromK (fun k=>decide ((tn:Int)≤(R k).r)) m1 k q2)∧Hid (FromK (fun k=>decide (idL (R k).K=idL M)&&decide ((mn:Int)≤(R k).m)) m1 k q3)∧Hid (zm=moV m1 q3)∧Hid (Below w6.heap.size w6 wq)) (fun _ _ _ kv _=>natJ kv)
    case atStart=>exact⟨m1,m1,m1,m1,-1,_,yR _,rfl,rfl,rfl,rfl,rfl,F1,F2,F3,M0,S6⟩
    case round=>
     clear F1 F2 F3 M0 S6 hwl
     rename World=>wq
     obtain⟨k,q1,q2,q3,zm,zk,hkm,rfl,rfl,rfl,rfl,hzk,hF1,hF2,hF3,hmo,hbq⟩:=hrel
     cases k with
     |zero=>
      have hz:zk= -1:=by omega
      subst hz
      have I1:=hF1.out.fst
      have I2:=hF2.out.fst
      have I3:=hF3.out.fst
      have BQ:=yH (B6.out.trans (hbq.out.mono B6.out.size))
      have HSq:=yH (seq_is (HX.out.below BQ.out) (nn:Int) I1)
      have HMo:=yH fun(W:World) (hW:Below w4.heap.size w4 W)=>mono_is (HX.out.below hW) M HM.out (mn:Int) I3
      have HRe:=yH fun(W:World) (hW:Below w4.heap.size w4 W)=>real_is (HX.out.below hW) (tn:Int) I2
      have R7:=yH (R6.out.below hbq.out R6.out.lt)
      have hn1:((q1:Int)!=(q1:Int))=false:=by simp
      have hn2:((q2:Int)!=(q2:Int))=false:=by simp
      have hn3:((q3:Int)!=(q3:Int))=false:=by simp
      have ht1:((nn:Int).tmod 40)=((nn%40:Nat):Int):=by rw[Int.tmod_eq_emod_of_nonneg (by omega)];omega
      have ht2:((tn:Int).tmod 45)=((tn%45:Nat):Int):=by rw[Int.tmod_eq_emod_of_nonneg (by omega)];omega
      have ht3:((mn:Int).tmod 10)=((mn%10:Nat):Int):=by rw[Int.tmod_eq_emod_of_nonneg (by omega)];omega
      have hv1:IntKind.u64.wrap ((nn%40:Nat):Int)=((nn%40:Nat):Int):=by rw[IntKind.wrap_u64];omega
      have hv2:IntKind.u64.wrap ((tn%45:Nat):Int)=((tn%45:Nat):Int):=by rw[IntKind.wrap_u64];omega
      have hv3:IntKind.u64.wrap ((mn%10:Nat):Int)=((mn%10:Nat):Int):=by rw[IntKind.wrap_u64];omega
      have hwi:IntKind.i64.wrap ((i:Int)+1)=((i+1:Nat):Int):=by rw[IntKind.wrap_i64];omega
      have hbd2:=yH (show nn%40≤18446744073709551615∧tn%45≤18446744073709551615∧mn%10≤18446744073709551615 by omega)
      have hmo1:=hmo.out
      clear hF1 hF2 hF3 hmo I1 I2 I3 HRow hzk
      by_cases hq3:q3<m1
      ·rw[show moV m1 q3=(q3:Int)from if_pos hq3]at hmo1
       subst hmo1
       have hg3:decide ((0:Int)≤(q3:Int))=true:=by simp
       simp only[if_pos hq3]at HMo
       go_upto_region 29 with(first
        |(go_at_call 41;((refine HSq.out.mono ?_);rintro e w8 ⟨⟨cl,rfl⟩,hb8⟩;have B8:=yH (BQ.out.trans (hb8.mono BQ.out.size));have R8:=yH (R7.out.below hb8 R7.out.lt);clear hb8))
        |((with_reducible apply at_slot 125);refine wpList_load_row rfl 37 (.tmp 22) rfl s22 rfl 37 (idJ M).toArray (0,0) _ R8.out Tryz.underlying37 rfl (idJ_info _) ?_)
        |(go_at_call 42;((refine(HMo.out _ B8.out).mono ?_);rintro e w9 ⟨rfl,hb9⟩;have B9:=yH (B8.out.trans (hb9.mono B8.out.size));clear hb9))
        |fail)
       go_wp2_with(first
        |(go_at_call 43;((refine(HRe.out _ B9.out).mono ?_);rintro e w10 ⟨rfl,hb10⟩;have B10:=yH (B9.out.trans (hb10.mono B9.out.size));clear hb10))
        |fail)
       go_roundw
       case rel=>exact⟨i+1,_,_,_,by omega,rfl,rfl,rfl,rfl,hbd2,B10⟩
       case measure=>simp[Rn.natOf];omega
      ·have hmo1:zm= -1:=hmo1.trans (if_neg hq3)
       subst hmo1
       simp only[if_neg hq3]at HMo
       go_upto_region 29 with(first
        |(go_at_call 41;((refine HSq.out.mono ?_);rintro e w8 ⟨⟨cl,rfl⟩,hb8⟩;have B8:=yH (BQ.out.trans (hb8.mono BQ.out.size));have R8:=yH (R7.out.below hb8 R7.out.lt);clear hb8))
        |((with_reducible apply at_slot 125);refine wpList_load_row rfl 37 (.tmp 22) rfl s22 rfl 37 (idJ M).toArray (0,0) _ R8.out Tryz.underlying37 rfl (idJ_info _) ?_)
        |(go_at_call 42;((refine(HMo.out _ B8.out).mono ?_);rintro e w9 ⟨rfl,hb9⟩;have B9:=yH (B8.out.trans (hb9.mono B8.out.size));clear hb9))
        |fail)
       go_wp2_with(first
        |(go_at_call 43;((refine(HRe.out _ B9.out).mono ?_);rintro e w10 ⟨rfl,hb10⟩;have B10:=yH (B9.out.trans (hb10.mono B9.out.size));clear hb10))
        |fail)
       go_roundw
       case rel=>exact⟨i+1,_,_,_,by omega,rfl,rfl,rfl,rfl,hbd2,B10⟩
       case measure=>simp[Rn.natOf];omega
     |succ x=>
      have hz:zk=(x:Int):=by omega
      subst hz
      have hxm:x<m1:=by omega
      have hxi:(x:Int)<(m1:Int):=by omega
      have dk:decide ((0:Int)≤(x:Int))=true:=by simp
      have hwx:IntKind.i64.wrap ((x:Int)-1)=(x:Int)-1:=by rw[IntKind.wrap_i64];omega
      obtain⟨bR,F,cc,rfl,hbR,hrg⟩:=(HRow.out x hxm).below (B6.out.trans (hbq.out.mono B6.out.size))
      have HF1:=yH (hF1.out.step)
      have HF2:=yH (hF2.out.step)
      have HF3:=yH (hF3.out.step)
      have hKx:=(HOk.out x).K
      try dsimp only at HF1 HF2 HF3
      generalize hRx:R x=r at*
      obtain⟨rs,rr,rm,rK,rn,rpl⟩:=r
      try dsimp only at*
      have heq:=eql_ids rK M hKx HM.out
      have k0:wq.cell? ⟨bR,x*20,none⟩=some (.int .u64 rs):=hrg 0 _ rfl
      have k1:wq.cell? ⟨bR,x*20+1,none⟩=some (.int .u64 rr):=hrg 1 _ rfl
      have D0:=yH (show Below wq.heap.size wq wq.drew from(Below.refl wq.heap.size wq).drew)
      have hlt22:=yL R6.out.lt hbq.out.size
      have R7:=yH (R6.out.below hbq.out R6.out.lt)
      have HRm:=yH (rec_mid hrg)
      have HRg:=yH (show wq.cell? ⟨bR,x*20+2,none⟩=some (.int .u64 rm)from hrg 2 _ rfl)
      have HS:=yH fun(W:World) (hW:Below wq.heap.size wq W)=>show W.rangeAt bR (x*20+3) (idJ rK)∧W.rangeAt s22 0 (idJ M)∧W.cell? ⟨bR,x*20+2,none⟩=some (.int .u64 rm)from
       ⟨fun j v hj=>(World.cell?_of_block (a:=⟨bR,x*20+3+j,none⟩) (hW.block bR hbR)).trans (HRm.out j v hj),blk_range0 (R7.out.below hW hlt22),(hW.cell (p:=⟨bR,x*20+2,none⟩) hbR).trans HRg.out⟩
      clear hzk hkm hF1 hF2 hF3 HRow hrg hRx HX HOk HRm HRg hKx R6 R7
      cases hb1:decide ((nn:Int)≤rs)<;>cases hb2:decide ((tn:Int)≤rr)<;>(
       have p1:=hb1
       have p2:=hb2
       simp only[decide_eq_true_eq,decide_eq_false_iff_not]at p1 p2
       go_upto_region 25 with fail
       refine wp_region_noPanic ?_
       refine wp_region_held_drew (S:=fun W:World=>W.rangeAt bR (x*20+3) (idJ rK)∧W.rangeAt s22 0 (idJ M)∧W.cell? ⟨bR,x*20+2,none⟩=some (.int .u64 rm)) (by kernel_rfl) (by exact HS.out _ D0.out) (fun hHeld=>?_)
       refine tk (i:=0) (oi:=⟨some 100,_,_,_,_,_⟩) (v:=?_) rfl (Or.inl ⟨by rfl,?_⟩) ?_
       rotate_left
       ·intro W hSw;have q3:=hSw.2.2;go_simp;try (with_reducible rfl)
       try simp only[Act.put,sA,sZ,sS]
       refine tk (i:=1) (oi:=⟨some 101,_,_,_,_,_⟩) (v:=?_) rfl (Or.inl ⟨by rfl,?_⟩) ?_
       rotate_left
       ·intro W hSw;have q3:=hSw.2.2;go_simp;try (with_reducible rfl)
       try simp only[Act.put,sA,sZ,sS]
       refine tk (i:=2) (oi:=⟨some 102,_,_,_,_,_⟩) (v:=?_) rfl (Or.inl ⟨by rfl,?_⟩) ?_
       rotate_left
       ·intro W hSw;have q3:=hSw.2.2;go_simp;try (with_reducible rfl)
       try simp only[Act.put,sA,sZ,sS]
       refine tk (i:=3) (oi:=⟨some 103,_,_,_,_,_⟩) (v:=?_) rfl (Or.inl ⟨by rfl,?_⟩) ?_
       rotate_left
       ·intro W hSw;have q3:=hSw.2.2;go_simp;try (with_reducible rfl)
       try simp only[Act.put,sA,sZ,sS]
       refine tk (i:=4) (oi:=⟨some 104,_,_,_,_,_⟩) rfl (yieldsIf_load_mid (by rfl) _ _ rfl _ _ rfl _ _ (fun _ h=>h.1) Tryz.underlying37 rfl (idJ_info _)) ?_
       try simp only[Act.put,sA,sZ,sS]
       refine tk (i:=5) (oi:=⟨some 105,_,_,_,_,_⟩) rfl (yieldsIf_load_mid (by rfl) _ _ rfl _ _ rfl _ _ (fun _ h=>h.2.1) Tryz.underlying37 rfl (idJ_info _)) ?_
       try simp only[Act.put,sA,sZ,sS]
       refine tk (i:=6) (oi:=⟨some 106,_,_,_,_,_⟩) (v:=?_) rfl (Or.inl ⟨by rfl,?_⟩) ?_
       rotate_left
       ·intro W hSw;have q3:=hSw.2.2;go_simp;try (with_reducible rfl)
       try simp only[Act.put,sA,sZ,sS]
       refine tk (i:=7) (oi:=⟨some 107,_,_,_,_,_⟩) (v:=?_) rfl (Or.inl ⟨by rfl,?_⟩) ?_
       rotate_left
       ·intro W hSw;have q3:=hSw.2.2;go_simp;try (with_reducible rfl)
       try simp only[Act.put,sA,sZ,sS]
       cases hb3:decide (idL rK=idL M)with
       |false=>
        refine tk (i:=8) (oi:=⟨some 108,_,_,_,_,_⟩) rfl (Or.inr ⟨by rfl,rfl⟩) ?_
        try simp only[Act.put,sA,sZ,sS]
        refine tk (i:=9) (oi:=⟨some 109,_,_,_,_,_⟩) rfl (Or.inr ⟨by rfl,rfl⟩) ?_
        try simp only[Act.put,sA,sZ,sS]
        refine tk (i:=10) (oi:=⟨some 110,_,_,_,_,_⟩) rfl (Or.inr ⟨by rfl,rfl⟩) ?_
        try simp only[Act.put,sA,sZ,sS]
        refine tk (i:=11) (oi:=⟨some 111,_,_,_,_,_⟩) rfl (Or.inr ⟨by rfl,rfl⟩) ?_
        try simp only[Act.put,sA,sZ,sS]
        refine tk (i:=12) (oi:=⟨some 112,_,_,_,_,_⟩) rfl (Or.inr ⟨by rfl,rfl⟩) ?_
        try simp only[Act.put,sA,sZ,sS]
        refine tk (i:=13) (oi:=⟨some 113,_,_,_,_,_⟩) rfl (Or.inr ⟨by rfl,rfl⟩) ?_
        try simp only[Act.put,sA,sZ,sS]
        refine tk (i:=14) (oi:=⟨some 114,_,_,_,_,_⟩) rfl (Or.inr ⟨by rfl,rfl⟩) ?_
        try simp only[Act.put,sA,sZ,sS]
        refine tk (i:=15) (oi:=⟨some 115,_,_,_,_,_⟩) (v:=?_) rfl (Or.inl ⟨by rfl,?_⟩) ?_
        rotate_left
        ·intro W hSw;have q3:=hSw.2.2;go_simp;try (with_reducible rfl)
        try simp only[Act.put,sA,sZ,sS]
        refine wpAnyH_done (by kernel_rfl) ?_ _
        refine NoPanic.normal ?_
        have SK:=yH (hbq.out.trans (D0.out.mono hbq.out.size))
        clear heq HS hHeld k0 k1 D0
        go_wp2_with fail
        go_roundw
        case rel=>exact⟨x,cond (decide ((nn:Int)≤rs)) x q1,cond (decide ((tn:Int)≤rr)) x q2,cond (decide (idL rK=idL M)&&decide ((mn:Int)≤rm)) x q3,zm,(x:Int)-1,Nat.le_of_lt hxm,by rw[hb1];rfl,by rw[hb2];rfl,rfl,rfl,rfl,HF1,HF2,HF3,yH (by rw[hb3];exact hmo.out),SK⟩
        case measure=>show(((x:Int)-1)+1).toNat<((x:Int)+1).toNat;omega
       |true=>
        refine tk (i:=8) (oi:=⟨some 108,_,_,_,_,_⟩) (v:=?_) rfl (Or.inl ⟨by rfl,?_⟩) ?_
        rotate_left
        ·intro W hSw;have q3:=hSw.2.2;go_simp;try (with_reducible rfl)
        try simp only[Act.put,sA,sZ,sS]
        refine tk (i:=9) (oi:=⟨some 109,_,_,_,_,_⟩) (v:=?_) rfl (Or.inl ⟨by rfl,?_⟩) ?_
        rotate_left
        ·intro W hSw;have q3:=hSw.2.2;go_simp;try (with_reducible rfl)
        try simp only[Act.put,sA,sZ,sS]
        refine tk (i:=10) (oi:=⟨some 110,_,_,_,_,_⟩) (v:=?_) rfl (Or.inl ⟨by rfl,?_⟩) ?_
        rotate_left
        ·intro W hSw;have q3:=hSw.2.2;go_simp;try (with_reducible rfl)
        try simp only[Act.put,sA,sZ,sS]
        refine tk (i:=11) (oi:=⟨some 111,_,_,_,_,_⟩) (v:=?_) rfl (Or.inl ⟨by rfl,?_⟩) ?_
        rotate_left
        ·intro W hSw;have q3:=hSw.2.2;go_simp;try (with_reducible rfl)
        try simp only[Act.put,sA,sZ,sS]
        refine tk (i:=12) (oi:=⟨some 112,_,_,_,_,_⟩) (v:=?_) rfl (Or.inl ⟨by rfl,?_⟩) ?_
        rotate_left
        ·intro W hSw;have q3:=hSw.2.2;go_simp;try (with_reducible rfl)
        try simp only[Act.put,sA,sZ,sS]
        refine tk (i:=13) (oi:=⟨some 113,_,_,_,_,_⟩) (v:=?_) rfl (Or.inl ⟨by rfl,?_⟩) ?_
        rotate_left
        ·intro W hSw;have q3:=hSw.2.2;go_simp;try (with_reducible rfl)
        try simp only[Act.put,sA,sZ,sS]
        refine tk (i:=14) (oi:=⟨some 114,_,_,_,_,_⟩) (v:=?_) rfl (Or.inl ⟨by rfl,?_⟩) ?_
        rotate_left
        ·intro W hSw;have q3:=hSw.2.2;go_simp;try (with_reducible rfl)
        try simp only[Act.put,sA,sZ,sS]
        refine tk (i:=15) (oi:=⟨some 115,_,_,_,_,_⟩) (v:=?_) rfl (Or.inl ⟨by rfl,?_⟩) ?_
        rotate_left
        ·intro W hSw;have q3:=hSw.2.2;go_simp;try (with_reducible rfl)
        try simp only[Act.put,sA,sZ,sS]
        refine wpAnyH_done (by kernel_rfl) ?_ _
        refine NoPanic.normal ?_
        clear heq HS hHeld k0 k1
        cases hb4:decide ((mn:Int)≤rm)with
        |false=>
         have p4:=hb4
         simp only[decide_eq_true_eq,decide_eq_false_iff_not]at p4
         have SK:=yH (hbq.out.trans (D0.out.mono hbq.out.size))
         clear D0
         go_wp2_with fail
         go_roundw
         case rel=>exact⟨x,cond (decide ((nn:Int)≤rs)) x q1,cond (decide ((tn:Int)≤rr)) x q2,cond (decide (idL rK=idL M)&&decide ((mn:Int)≤rm)) x q3,zm,(x:Int)-1,Nat.le_of_lt hxm,by rw[hb1];rfl,by rw[hb2];rfl,rfl,rfl,rfl,HF1,HF2,HF3,yH (by rw[hb3,hb4];exact hmo.out),SK⟩
         case measure=>show(((x:Int)-1)+1).toNat<((x:Int)+1).toNat;omega
        |true=>
         have p4:=hb4
         simp only[decide_eq_true_eq,decide_eq_false_iff_not]at p4
         have SK:=yH (hbq.out.trans (D0.out.mono hbq.out.size))
         clear D0
         go_wp2_with fail
         go_roundw
         case rel=>exact⟨x,cond (decide ((nn:Int)≤rs)) x q1,cond (decide ((tn:Int)≤rr)) x q2,cond (decide (idL rK=idL M)&&decide ((mn:Int)≤rm)) x q3,(x:Int),(x:Int)-1,Nat.le_of_lt hxm,by rw[hb1];rfl,by rw[hb2];rfl,rfl,rfl,rfl,HF1,HF2,HF3,yH (by rw[hb3,hb4];exact moV_lt hxm),SK⟩
         case measure=>show(((x:Int)-1)+1).toNat<((x:Int)+1).toNat;omega)
   ·have dd1:decide ((i:Int)<3)=false:=by simp;omega
    go_wp2_with fail
    go_ret
    exact⟨rfl,B4.out.trans (hB.out.mono B4.out.size)⟩
 ·have HOp:=yH (Skf.open_bad l A n c w3 hb hL (by omega) hcap.1 hz)
  have HQ:=yH fun(W:World) (hW:Bytes W A l)=>ropen15_bad l A n c W hW hL (by omega) hcap.1 hz
  have d0:(hcode l n !=0)=true:=by simpa using hz
  have d00:decide (hcode l n=0)=false:=by simpa using hz
  clear hz hb
  generalize hcode l n=hcd at*
  go_wp2_with(first
   |(go_at_call 37;((refine HOp.out.mono ?_);rintro e w4 ⟨rfl,hb4⟩;have B4:=yH (B3.out.trans (hb4.mono B3.out.size));have HB4:=yH (HB.out.below hb4 (yR _));clear hb4))
   |(go_at_call 38;((refine(HQ.out _ HB4.out).mono ?_);rintro e w5 ⟨rfl,hb5⟩;have B5:=yH (B4.out.trans (hb5.mono B4.out.size));clear hb5))
   |fail)
  go_ret
  exact⟨rfl,B5.out⟩
theorem walk (a:Option Addr)(len cap:Nat)(z:List Int)(P:Option Addr)(k kc:Nat)(zp:List Int)(y:Int)(nq tq mq bq:Int)(w:World)(h:IsRow .i64 w a len cap z)(hp:IsRow .i64 w P k kc zp)(hy:(Lit.int .u8 y).wf=true)(hn:(Lit.int .u64 nq).wf=true)(ht:(Lit.int .u64 tq).wf=true)(hm:(Lit.int .u64 mq).wf=true)(hbq:(Lit.int .i64 bq).wf=true):
 Calls Tryz.prog 8 #[.slice a len cap,.slice P k kc,.int .u8 y,.int .u64 nq,.int .u64 tq,.int .u64 mq,.int .i64 bq] w fun e w'=>e= .returned (.bool true)∧Below w.heap.size w w':=by
 obtain⟨hI,h2,h3⟩:=ints_in h
 obtain⟨hP,h4,h5⟩:=ints_in hp
 have hy0:0≤y∧y<256:=by
  simp[Lit.wf,IntKind.min,IntKind.max,IntKind.signed,IntKind.bits]at hy
  omega
 have hu: ∀z:Int,(Lit.int .u64 z).wf=true→ ∃q:Nat,z=(q:Int)∧q≤18446744073709551615:=fun z hz=>by
  simp[Lit.wf,IntKind.min,IntKind.max,IntKind.signed,IntKind.bits]at hz
  exact⟨z.toNat,by omega,by omega⟩
 by_cases h1:len≤300∧k≤4
 ·obtain⟨n1,rfl,hn1⟩:=hu nq hn
  obtain⟨n2,rfl,hn2⟩:=hu tq ht
  obtain⟨n3,rfl,hn3⟩:=hu mq hm
  exact walk_main a len cap _ P k kc _ y n1 n2 n3 bq w hI h1.1 hP h1.2 hy0 ⟨hn1,hn2,hn3⟩
 ·clear hu hn ht hm hbq
  by_cases h6:len≤300
  ·have d1:decide ((300:Int)<(len:Int))=false:=by simp;omega
   have d2:decide ((4:Int)<(k:Int))=true:=by simp;omega
   clear h hp hI hP
   go_enter Tryz.func8,Tryz.ntmps8
   go_wp2_with(go_at_call 36;((with_reducible refine(first_seek _).mono ?_);rintro e w1 ⟨rfl,hb1⟩;have B1:=yH hb1;clear hb1))
   go_ret
   exact⟨rfl,B1.out⟩
  ·have d1:decide ((300:Int)<(len:Int))=true:=by simp;omega
   clear h hp hI hP
   go_enter Tryz.func8,Tryz.ntmps8
   go_wp2_with(go_at_call 36;((with_reducible refine(first_seek _).mono ?_);rintro e w1 ⟨rfl,hb1⟩;have B1:=yH hb1;clear hb1))
   go_ret
   exact⟨rfl,B1.out⟩
end SeekSaysW
end Go.Proofs.YtiddkgcafpaekaaGreat
