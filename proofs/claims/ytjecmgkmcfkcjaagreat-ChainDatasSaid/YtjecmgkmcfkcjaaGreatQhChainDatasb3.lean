/-
  Texts beneath the proof.
-/
import Derived.Test.YtjecmgkmcfkcjaaGreatQhChainDatasb2
set_option linter.unusedVariables false
set_option linter.unusedSimpArgs false
set_option maxRecDepth 100000
set_option maxHeartbeats 16000000
namespace Go.Proofs.YtjecmgkmcfkcjaaGreat
namespace Xd
open Go.ChangeShapes Go.WideShapes Go.ChangeAt Go.RowKit Go.Shelf
open Bytes8 Blk8 Kf Own8 OwnE Rows2 Ga Gb Ok7 Rc Wa Xb Xc
open Wf (rowOf rowOf_block KpL)
open Xa (SeqOwn)
attribute [local go_sem] Oper.semAt_some
structure LkE where
 a:Nat
 h:Int
 x:Int
 d:Int
 A:Option Addr
 m:Nat
 c:Nat
 cd:Int
def LkE.pl (e:LkE):Nat×Int:=(e.a,e.cd)
abbrev encK (e:LkE):Array Value:= #[linkV e.a e.h e.x e.d e.A e.m e.c,.int .i64 e.cd]
def PxK (oH oD:Nat→Int)(oP:Nat→List Int)(e:LkE)(W:World):Prop:=e.cd=0→e.h=oH e.a∧e.d=oD e.a∧Bytes W e.A (oP e.a)∧(oP e.a).length=e.m
theorem bytes_put {W:World}{A:Option Addr}{l:List Int}(h:Bytes W A l)(k:Nat)(o o':Obj)(ho:W.heap[k]? =some o)(hc:o.isCells=false):Bytes (W.putObj k o') A l:=⟨h.1,fun i hi=>by
 obtain⟨b,off,e,hb,hx⟩:=h.2 i hi
 have hbk:b≠k:=fun e2=>by
  subst e2
  cases o with
  |cells c t f=>cases hc
  |_=>simp[World.cell?,ho]at hx
 exact⟨b,off,e,by simpa using hb,(World.cell?_of_block (a:=⟨b,off+i,none⟩) (World.putObj_heap_other hbk)).trans hx⟩⟩
theorem pxK_put {oH oD:Nat→Int}{oP:Nat→List Int}(e:LkE)(W:World)(k:Nat)(o o':Obj)(ho:W.heap[k]? =some o)(hc:o.isCells=false)(h:PxK oH oD oP e W):PxK oH oD oP e (W.putObj k o'):=fun h0=>by
 obtain⟨h1,h2,h3,h4⟩:=h h0
 exact⟨h1,h2,bytes_put h3 k o o' ho hc,h4⟩
def wayN (ri:Bool):Int:=if ri then 1 else -1
theorem cmp_bad (ri:Bool)(a x:Nat):(cmpN a x !=wayN ri)=badW ri a (some x):=by
 unfold cmpN wayN badW
 cases ri
 ·rcases Nat.lt_trichotomy a x with h|h|h
  ·rw[if_pos h];simp;omega
  ·rw[if_neg (by omega),if_neg (by omega)];simp;omega
  ·rw[if_neg (by omega),if_pos h];simp;omega
 ·rcases Nat.lt_trichotomy a x with h|h|h
  ·rw[if_pos h];simp;omega
  ·rw[if_neg (by omega),if_neg (by omega)];simp;omega
  ·rw[if_neg (by omega),if_pos h];simp;omega
def rk (E:Nat)(ri:Bool):Value→Value→Nat
 | .bool true,_=>E+2
 |_,.int _ z=>if ri then E+1-z.toNat else z.toNat+1
 |_,_=>0
theorem rk_none (E:Nat)(ri:Bool)(v:Value):rk E ri (.bool true) v=E+2:=rfl
theorem rk_some (E:Nat)(ri:Bool)(x:Nat):rk E ri (.bool false) (.int .u64 (x:Int))=if ri then E+1-x else x+1:=by
 simp[rk]
theorem MidC.below {w0:World}{gv Bv Ba Bw Br lb rf a:Nat}{way:Int}{W W':World}(h:MidC w0 gv Bv Ba Bw Br lb rf way a W)(k:Below W.heap.size W W')(x:Bxs w0 Bv Ba Bw Br lb W):MidC w0 gv Bv Ba Bw Br lb rf way a W':=
 {bel:=h.bel.trans (k.mono h.bel.size)
  v:=(k.cell (p:=⟨Bv,0,none⟩) x.v).trans h.v
  at_:=h.at_.below k h.at_.lt
  wy:=(k.cell (p:=⟨Bw,0,none⟩) x.w).trans h.wy
  rd:=(k.cell (p:=⟨Br,0,none⟩) x.r).trans h.rd
  row:=fun y hy=>by
   rw[rowOf_block (k.block lb x.l)]at hy
   obtain⟨r1,r2,r3,r4,r5⟩:=h.row y hy
   exact⟨r1,r2,r3,r4,Nat.lt_of_lt_of_le r5 k.size⟩}
theorem MidC.turn {w0:World}{gv Bv Ba Bw Br lb rf a:Nat}{way:Int}{W:World}(h:MidC w0 gv Bv Ba Bw Br lb rf way a W)(x:Bxs w0 Bv Ba Bw Br lb W)(b:Nat):
 MidC w0 gv Bv Ba Bw Br lb rf way b (W.setCell ⟨Ba,0,none⟩ (.int .u64 (b:Int))).drew∧KeptF (One Ba) W (W.setCell ⟨Ba,0,none⟩ (.int .u64 (b:Int))).drew:=by
 have kS:KeptF (One Ba) W (W.setCell ⟨Ba,0,none⟩ (.int .u64 (b:Int))).drew:=by
  have h1:=(KeptF.grow _ (grownBy_setCell' W Ba (.int .u64 (b:Int))))
  exact⟨h1.os,h1.tape,h1.output,h1.size,fun j hj hn=>h1.block j hj (fun e=>hn (by injection e with e;exact e.symm))⟩
 refine⟨{bel:=?_,v:=?_,at_:=?_,wy:=?_,rd:=?_,row:=?_},kS⟩
 ·exact h.bel.trans ⟨kS.os,kS.tape,kS.output,kS.size,fun j hj=>kS.block j (by have:=h.at_.lt;have:=x.b0;omega) (fun e=>by have e1:j=Ba:=e;have:=x.b0;omega)⟩
 ·exact(World.cell?_of_block (a:=⟨Bv,0,none⟩) (kS.block Bv x.v x.va)).trans h.v
 ·exact Boxed.set (t:=40) (v:= .int .u64 (a:Int)) (.int .u64 (b:Int)) h.at_
 ·exact(World.cell?_of_block (a:=⟨Bw,0,none⟩) (kS.block Bw x.w x.wa)).trans h.wy
 ·exact(World.cell?_of_block (a:=⟨Br,0,none⟩) (kS.block Br x.r x.ra)).trans h.rd
 ·intro y hy
  rw[rowOf_block (kS.block lb x.l (fun e=>x.al e.symm))]at hy
  obtain⟨r1,r2,r3,r4,r5⟩:=h.row y hy
  exact⟨r1,r2,r3,r4,Nat.lt_of_lt_of_le r5 kS.size⟩
attribute [local simp] wide_fn
attribute [local irreducible] HD.cells wpList Code.wp
theorem links1_own {gv:Nat}{h:HD}{A:Option Addr}{E c:Nat}{l:List Int}(w0:World)(v:ViewAt w0 gv h A E c l)(ri:Bool)(oC oH oD oXI:Nat→Int)(oX:Nat→Nat)(oP:Nat→List Int)(rf:Nat)
 (hR: ∀(a:Nat) (V:World),Below w0.heap.size w0 V→Calls Tryz.prog rf #[.pointer (some ⟨gv,0,none⟩),.int .u64 (a:Int)] V (ReadK oC oH oXI oD oP a V))(heg: ∀args w,(callFunc rf args).run Tryz.prog w= .ok (.enter rf args) w)(hX: ∀a,oXI a=(oX a:Int)∧oX a≤18446744073709551615)
 (Bv Ba Bw Br lb a0 n:Nat)(hn:1≤n)(w:World)(hM:MidC w0 gv Bv Ba Bw Br lb rf (wayN ri) a0 w)(hB:Bxs w0 Bv Ba Bw Br lb w)(ha0:a0≤18446744073709551615):
 SeqOwn Fence.wide n Tryz.prog 130 #[.pointer (some ⟨Ba,0,none⟩),.pointer (some ⟨Bv,0,none⟩),.pointer (some ⟨Bw,0,none⟩),.pointer (some ⟨Br,0,none⟩)] encK (PxK oH oD oP) (KpL w0.heap.size lb) (KeptF (One Ba)) (fun xs=>xs.map LkE.pl=yk E ri oC oX (E+2) a0 none) (fun pre=> ∃rest,yk E ri oC oX (E+2) a0 none=pre.map LkE.pl++rest) w:=by
 intro lL J Jx W hW hJ hJx hY hJ0
 have HEn:=Lib.hid fun(V:World) (hV:Below w0.heap.size w0 V)=>vend_any V (v.below hV)
 have HR:=Lib.hid hR
 have HCm:=Lib.hid fun(x y:Nat) (V:World)=>compare_any x y V
 have HX:=Lib.hid hX
 have HA0:=Lib.hid ha0
 have HB0:=Lib.hid (hB.size hW.size)
 have HM0:=Lib.hid (hM.below hW hB)
 have HJ:=Lib.hid fun(s:List LkE) (X Y:World) (hs:J s X) (hb:Below X.heap.size X Y)=>hJ s X Y hs (KeptF.of_below hb)
 have HJb:=Lib.hid hJ
 clear v hM hB hJ hJx hR hX ha0
 refine callsIn_of_wp Tryz.func130 rfl trivial ?_ rfl
 simp only[Tryz.ntmps130,List.size_toArray,List.length_cons,List.length_nil,Nat.reduceAdd,Nat.reduceSub,Array.replicate_succ,Array.replicate_zero,List.push_toArray,List.append_toArray,List.nil_append,List.cons_append]
 obtain⟨YL,hYL⟩: ∃YL,yk E ri oC oX (E+2) a0 none=YL:=⟨_,rfl⟩
 have HS0:=Lib.hid (show YL=([]:List LkE).map LkE.pl++yk E ri oC oX (E+2) a0 none from hYL.symm)
 have HYL:=Lib.hid hYL
 have ka:=HM0.out.at_.cell (i:=0) rfl
 clear hYL
 gi_upto_region 0 with fail
 gi_region
 have z1:=(Below.refl W.heap.size W).drew
 have J1:=Lib.hid (HJ.out [] W W.drew hJ0 z1)
 have M1:=Lib.hid (HM0.out.below z1 HB0.out)
 have X1:=Lib.hid (HB0.out.size z1.size)
 clear z1 HM0 HB0 hJ0 ka
 generalize W.drew=W1 at*
 gi_wp2
 gi_loopw [6,7] (fun fs hs wr=> ∃(a:Nat) (la:Option Nat) (q f:Nat) (pre:List LkE),fs= .bool la.isNone∧hs= .int .u64 (q:Int)∧Hid (∀x,la=some x→q=x∧x<E)∧Hid (J pre wr)∧Hid (YL=pre.map LkE.pl++yk E ri oC oX f a la)∧Hid (enough E ri f la)∧Hid (a≤18446744073709551615)∧Hid (MidC w0 gv Bv Ba Bw Br lb rf (wayN ri) a wr)∧Hid (Bxs w0 Bv Ba Bw Br lb wr)) (fun fs hs _=>rk E ri fs hs)
 case atStart=>exact⟨a0,none,a0,E+2,[],rfl,rfl,Lib.hid (fun x e=>by cases e),J1,HS0,Lib.hid (Nat.le_refl (E+2)),HA0,M1,X1⟩
 case round=>
  obtain⟨a,la,q,f,pre,rfl,rfl,hq,hj,hS,hF,ha6,hM,hB⟩:=hrel
  have kv:=hM.out.v
  have ka:=hM.out.at_.cell (i:=0) rfl
  have kw:=hM.out.wy
  have kr:=hM.out.rd
  obtain⟨f,rfl⟩: ∃q,f=q+1:=⟨f-1,by
   cases f with
   |zero=>exact absurd hF.out (fun h=>enough_0 h)
   |succ f=>omega⟩
  have hS2:=hS.out
  unfold yk at hS2
  have HE1:=Lib.hid fun k=>HEn.out (wr.drewN k) (hM.out.bel.trans (below_drewN (Below.refl _ _) k))
  by_cases hno:nothB E (a:Int)=true
  ·rw[if_pos hno,List.append_nil]at hS2
   have HS:=Lib.hid hS2
   clear hS2
   by_cases h0:a=0
   ·subst h0
    have d0:(((0:Nat):Int)!=0)=false:=by simp
    gi_upto_region 1 with fail
    gi_quiet (first|(gi_at_call 37;refine(callsIn_wide.2 (HE1.out _)).mono (fun e w' h=>⟨h.1,_,h.2.symm⟩))|fail)
    gi_wp2
    refine bodyPost_end (v:= .tuple #[]) ?_ ?_ ?_
    ·exact results_none rfl _ _ _
    ·rfl
    exact⟨⟨_,rfl⟩,.inl ⟨_,HS.out.symm.trans HYL.out.symm,HJ.out _ _ _ hj.out (below_drewN (Below.refl _ _) _)⟩⟩
   ·have d0:((a:Int)!=0)=true:=by simp;omega
    have d1:decide ((a:Int)<(E:Int))=false:=by simp[nothB]at hno;simp;omega
    have d2:decide (a<E)=false:=by simp[nothB]at hno;simp;omega
    gi_upto_region 1 with fail
    gi_quiet (first|(gi_at_call 37;refine(callsIn_wide.2 (HE1.out _)).mono (fun e w' h=>⟨h.1,_,h.2.symm⟩))|fail)
    gi_wp2
    refine bodyPost_end (v:= .tuple #[]) ?_ ?_ ?_
    ·exact results_none rfl _ _ _
    ·rfl
    exact⟨⟨_,rfl⟩,.inl ⟨_,HS.out.symm.trans HYL.out.symm,HJ.out _ _ _ hj.out (below_drewN (Below.refl _ _) _)⟩⟩
  rw[if_neg hno]at hS2
  obtain⟨han1,han2⟩:=nothB_is hno
  have d0:((a:Int)!=0)=true:=by simp;omega
  have d1:decide ((a:Int)<(E:Int))=true:=by simp;omega
  have HAN:=Lib.hid (And.intro han1 han2)
  clear hno
  gi_upto_region 1 with fail
  gi_quiet (first|(gi_at_call 37;refine(callsIn_wide.2 (HE1.out _)).mono (fun e w' h=>⟨h.1,_,h.2.symm⟩))|fail)
  have bq:=below_drewN (Below.refl wr.heap.size wr) nq
  have HJ1:=Lib.hid (HJ.out _ _ _ hj.out bq)
  have HM1:=Lib.hid (hM.out.below bq hB.out)
  have HB1:=Lib.hid (hB.out.size bq.size)
  clear bq HE1 hj hM hB kv ka kw kr
  generalize wr.drewN nq=w1 at*
  clear nq
  cases la with
  |none=>
   have hS3:=hS2
   rw[if_neg (show ¬badW ri a none=true by simp[badW])]at hS3
   have hnb:badW ri a none=false:=rfl
   clear hS2
   gi_upto_region 3 with fail
   gi_quiet (fail)
   have bq:=below_drewN (Below.refl w1.heap.size w1) nq
   have HJ2:=Lib.hid (HJ.out _ _ _ HJ1.out bq)
   have HM2:=Lib.hid (HM1.out.below bq HB1.out)
   have HB2:=Lib.hid (HB1.out.size bq.size)
   clear bq HJ1 HM1 HB1
   generalize w1.drewN nq=w2 at*
   clear nq
   have kv:=HM2.out.v
   have ka:=HM2.out.at_.cell (i:=0) rfl
   have kr:=HM2.out.rd
   have HR2:=Lib.hid (HR.out a w2 HM2.out.bel)
   unfold ReadK at HR2
   gi_upto_region 6 with fail
   refine(callsIn_wide.2 HR2.out).mono ?_
   rintro e w3 ⟨hb3,A3,m3,c3,rfl,hy3,hl3⟩
   have Bb3:=Lib.hid hb3;have Y3:=Lib.hid hy3;have L3:=Lib.hid hl3
   clear hb3 hy3 hl3 HR2
   gi_upto_region 6 with fail
   have B4:=Lib.hid (Bb3.out.alloc Bb3.out.size (.cells #[.int .u64 (a:Int),.int .u64 (oH a),.int .u64 (oXI a),.int .u64 (oD a),.slice A3 m3 c3] 156))
   have R4:=Lib.hid (Blk.new w3 [.int .u64 (a:Int),.int .u64 (oH a),.int .u64 (oXI a),.int .u64 (oD a),.slice A3 m3 c3] 156)
   have HJ4:=Lib.hid (HJ.out _ _ _ HJ2.out B4.out)
   have HM4:=Lib.hid (HM2.out.below B4.out HB2.out)
   have HB4:=Lib.hid (HB2.out.size B4.out.size)
   have Y4:=Lib.hid (Y3.out.below ((Below.refl w3.heap.size w3).alloc (Nat.le_refl _) (.cells #[.int .u64 (a:Int),.int .u64 (oH a),.int .u64 (oXI a),.int .u64 (oD a),.slice A3 m3 c3] 156)) (Nat.le_refl _))
   have HRow:=Lib.hid (show rowOf (w3.alloc (.cells #[.int .u64 (a:Int),.int .u64 (oH a),.int .u64 (oXI a),.int .u64 (oD a),.slice A3 m3 c3] 156)) lb≠some w3.heap.size from fun e=>by
    rw[rowOf_block (B4.out.block lb HB2.out.l)]at e
    have h1:=(HM2.out.row _ e).2.2.2.2
    have h2:=Bb3.out.size
    omega)
   have HGl:=Lib.hid (show w3.heap.size≠lb from by have:=HB2.out.l;have:=Bb3.out.size;omega)
   clear HJ2 HM2 HB2 B4 Bb3 Y3 kv ka kr
   generalize (w3.alloc (.cells #[.int .u64 (a:Int),.int .u64 (oH a),.int .u64 (oXI a),.int .u64 (oD a),.slice A3 m3 c3] 156))=w4 at*
   generalize w3.heap.size=g3 at*
   have k0:=R4.out.cell (i:=0) rfl;have k1:=R4.out.cell (i:=1) rfl;have k2:=R4.out.cell (i:=2) rfl;have k3:=R4.out.cell (i:=3) rfl;have k4:=R4.out.cell (i:=4) rfl
   have hSp: ∃rest,yk E ri oC oX (E+2) a0 none=(pre++ [(⟨a,oH a,oXI a,oD a,A3,m3,c3,oC a⟩:LkE)]).map LkE.pl++rest:=by
    rw[HYL.out]
    by_cases hcd:oC a≠0
    ·rw[if_pos hcd]at hS3
     exact⟨[],by rw[List.append_nil,List.map_append];exact hS3⟩
    ·rw[if_neg hcd]at hS3
     have hcd0:oC a=0:=by simpa using hcd
     exact⟨_,by rw[hcd0,List.map_append,List.append_assoc];exact hS3⟩
   obtain⟨fn,tmps,assign,body,hy,hR4⟩:=hY pre ⟨a,oH a,oXI a,oD a,A3,m3,c3,oC a⟩ w4 (fun _=>⟨rfl,rfl,Y4.out,L3.out⟩) hSp HJ4.out
   clear hSp
   have hy2:=hy
   unfold encK linkV at hy2
   dsimp only at hy2
   clear hy
   by_cases hcd:oC a≠0
   ·rw[if_pos hcd]at hS3
    have HS:=Lib.hid hS3
    have dcd:(oC a !=0)=true:=by simpa using hcd
    have dcd2:decide (oC a=0)=false:=by simpa using hcd
    have hpl:LkE.pl ⟨a,oH a,oXI a,oD a,A3,m3,c3,oC a⟩=(a,oC a):=rfl
    clear hS3
    gi_wp2
    refine hR4.mono ?_
    rintro e W3 (⟨rfl,hJ3,hk3⟩|⟨rfl,hJx3⟩)
    ·gi_wp2
     refine bodyPost_ret (results_none rfl _ _ _) rfl ?_
     exact⟨⟨_,rfl⟩,.inl ⟨_,(by rw[List.map_append];exact HS.out.symm.trans HYL.out.symm),hJ3⟩⟩
    ·gi_wp2
     refine bodyPost_ret (results_none rfl _ _ _) rfl ?_
     exact⟨⟨_,rfl⟩,.inr ⟨_,⟨[],by rw[List.append_nil,HYL.out,List.map_append];exact HS.out⟩,hJx3⟩⟩
   ·rw[if_neg hcd]at hS3
    have hcd0:oC a=0:=by simpa using hcd
    have HS:=Lib.hid hS3
    rw[hcd0]at hy2 hR4
    clear hS3 hcd
    gi_wp2
    refine hR4.mono ?_
    rintro e W3 (⟨rfl,hJ3,hk3⟩|⟨rfl,hJx3⟩)
    ·have M5:=Lib.hid (HM4.out.kp hk3 HB4.out)
     have X5:=Lib.hid (HB4.out.size hk3.below.size)
     have R5:=Lib.hid (hk3.blk R4.out HGl.out HRow.out)
     have J5:=Lib.hid hJ3
     clear hJ3 hk3 k0 k1 k2 k3 k4 R4 HJ4 HM4 HB4 hR4 hy2
     have k2:=R5.out.cell (i:=2) rfl
     have ka:=M5.out.at_.cell (i:=0) rfl
     have kf:=M5.out.at_.frozen 0
     rw[(HX.out a).1]at k2
     gi_upto_region 7 with fail
     gi_region
     all_goals
      gi_wp2
      obtain⟨mt,kS⟩:=M5.out.turn X5.out (oX a)
      go_roundw
      case rel=>exact⟨oX a,some a,a,f,pre++ [⟨a,oH a,oXI a,oD a,A3,m3,c3,0⟩],rfl,rfl,Lib.hid (fun x e=>by injection e with e;subst e;exact⟨rfl,HAN.out.2⟩),Lib.hid (HJb.out _ _ _ J5.out kS),Lib.hid (by rw[HS.out,List.map_append,List.append_assoc];rfl),Lib.hid (enough_next hF.out hnb HAN.out.2),Lib.hid (HX.out a).2,Lib.hid mt,Lib.hid (X5.out.size kS.size)⟩
      case measure=>rw[Option.isNone_none,rk_none,rk_some];have:=HAN.out.2;cases ri<;>simp<;>omega
    ·gi_wp2
     refine bodyPost_ret (results_none rfl _ _ _) rfl ?_
     exact⟨⟨_,rfl⟩,.inr ⟨_,⟨yk E ri oC oX f (oX a) (some a),by rw[HYL.out,HS.out,List.map_append,List.append_assoc];rfl⟩,hJx3⟩⟩
  |some x=>
   obtain⟨hqx,hxE⟩:=hq.out x rfl
   subst hqx
   have hcb:=cmp_bad ri a q
   have HC1:=Lib.hid fun k=>HCm.out a q (w1.drewN k)
   have ka:=HM1.out.at_.cell (i:=0) rfl
   have kw:=HM1.out.wy
   by_cases hbad:badW ri a (some q)=true
   ·rw[if_pos hbad]at hS2
    rw[hbad]at hcb
    have HS:=Lib.hid hS2
    clear hS2
    generalize cmpN a q=cz at*
    gi_upto_region 3 with fail
    gi_quiet (first|(gi_at_call 131;refine(callsIn_wide.2 (HC1.out _)).mono (fun e w' h=>⟨h.1,_,h.2.symm⟩))|fail)
    have bq:=below_drewN (Below.refl w1.heap.size w1) nq
    have HJ2:=Lib.hid (HJ.out _ _ _ HJ1.out bq)
    clear bq ka kw HC1 HM1
    generalize w1.drewN nq=w2 at*
    clear nq
    obtain⟨fn,tmps,assign,body,hy,hR⟩:=hY pre ⟨0,0,0,0,none,0,0,12⟩ w2 (fun h0=>by cases h0) ⟨[],by rw[List.append_nil,HYL.out,List.map_append];exact HS.out⟩ HJ2.out
    have hy2:=hy
    unfold encK linkV at hy2
    dsimp only at hy2
    simp only[Int.natCast_zero]at hy2
    clear hy
    gi_wp2
    refine hR.mono ?_
    rintro e W3 (⟨rfl,hJ3,hk3⟩|⟨rfl,hJx3⟩)
    ·gi_wp2
     refine bodyPost_ret (results_none rfl _ _ _) rfl ?_
     exact⟨⟨_,rfl⟩,.inl ⟨_,(by rw[List.map_append];exact HS.out.symm.trans HYL.out.symm),hJ3⟩⟩
    ·gi_wp2
     refine bodyPost_ret (results_none rfl _ _ _) rfl ?_
     exact⟨⟨_,rfl⟩,.inr ⟨_,⟨[],by rw[List.append_nil,HYL.out,List.map_append];exact HS.out⟩,hJx3⟩⟩
   ·rw[if_neg hbad]at hS2
    have hnb:badW ri a (some q)=false:=by simpa using hbad
    rw[hnb]at hcb
    have hS3:=hS2
    clear hS2 hbad
    generalize cmpN a q=cz at*
    gi_upto_region 3 with fail
    gi_quiet (first|(gi_at_call 131;refine(callsIn_wide.2 (HC1.out _)).mono (fun e w' h=>⟨h.1,_,h.2.symm⟩))|fail)
    have bq:=below_drewN (Below.refl w1.heap.size w1) nq
    have HJ2:=Lib.hid (HJ.out _ _ _ HJ1.out bq)
    have HM2:=Lib.hid (HM1.out.below bq HB1.out)
    have HB2:=Lib.hid (HB1.out.size bq.size)
    clear bq HJ1 HM1 HB1 ka kw HC1
    generalize w1.drewN nq=w2 at*
    clear nq
    have kv:=HM2.out.v
    have ka:=HM2.out.at_.cell (i:=0) rfl
    have kr:=HM2.out.rd
    have HR2:=Lib.hid (HR.out a w2 HM2.out.bel)
    unfold ReadK at HR2
    gi_upto_region 6 with fail
    refine(callsIn_wide.2 HR2.out).mono ?_
    rintro e w3 ⟨hb3,A3,m3,c3,rfl,hy3,hl3⟩
    have Bb3:=Lib.hid hb3;have Y3:=Lib.hid hy3;have L3:=Lib.hid hl3
    clear hb3 hy3 hl3 HR2
    gi_upto_region 6 with fail
    have B4:=Lib.hid (Bb3.out.alloc Bb3.out.size (.cells #[.int .u64 (a:Int),.int .u64 (oH a),.int .u64 (oXI a),.int .u64 (oD a),.slice A3 m3 c3] 156))
    have R4:=Lib.hid (Blk.new w3 [.int .u64 (a:Int),.int .u64 (oH a),.int .u64 (oXI a),.int .u64 (oD a),.slice A3 m3 c3] 156)
    have HJ4:=Lib.hid (HJ.out _ _ _ HJ2.out B4.out)
    have HM4:=Lib.hid (HM2.out.below B4.out HB2.out)
    have HB4:=Lib.hid (HB2.out.size B4.out.size)
    have Y4:=Lib.hid (Y3.out.below ((Below.refl w3.heap.size w3).alloc (Nat.le_refl _) (.cells #[.int .u64 (a:Int),.int .u64 (oH a),.int .u64 (oXI a),.int .u64 (oD a),.slice A3 m3 c3] 156)) (Nat.le_refl _))
    have HRow:=Lib.hid (show rowOf (w3.alloc (.cells #[.int .u64 (a:Int),.int .u64 (oH a),.int .u64 (oXI a),.int .u64 (oD a),.slice A3 m3 c3] 156)) lb≠some w3.heap.size from fun e=>by
     rw[rowOf_block (B4.out.block lb HB2.out.l)]at e
     have h1:=(HM2.out.row _ e).2.2.2.2
     have h2:=Bb3.out.size
     omega)
    have HGl:=Lib.hid (show w3.heap.size≠lb from by have:=HB2.out.l;have:=Bb3.out.size;omega)
    clear HJ2 HM2 HB2 B4 Bb3 Y3 kv ka kr
    generalize (w3.alloc (.cells #[.int .u64 (a:Int),.int .u64 (oH a),.int .u64 (oXI a),.int .u64 (oD a),.slice A3 m3 c3] 156))=w4 at*
    generalize w3.heap.size=g3 at*
    have k0:=R4.out.cell (i:=0) rfl;have k1:=R4.out.cell (i:=1) rfl;have k2:=R4.out.cell (i:=2) rfl;have k3:=R4.out.cell (i:=3) rfl;have k4:=R4.out.cell (i:=4) rfl
    have hSp: ∃rest,yk E ri oC oX (E+2) a0 none=(pre++ [(⟨a,oH a,oXI a,oD a,A3,m3,c3,oC a⟩:LkE)]).map LkE.pl++rest:=by
     rw[HYL.out]
     by_cases hcd:oC a≠0
     ·rw[if_pos hcd]at hS3
      exact⟨[],by rw[List.append_nil,List.map_append];exact hS3⟩
     ·rw[if_neg hcd]at hS3
      have hcd0:oC a=0:=by simpa using hcd
      exact⟨_,by rw[hcd0,List.map_append,List.append_assoc];exact hS3⟩
    obtain⟨fn,tmps,assign,body,hy,hR4⟩:=hY pre ⟨a,oH a,oXI a,oD a,A3,m3,c3,oC a⟩ w4 (fun _=>⟨rfl,rfl,Y4.out,L3.out⟩) hSp HJ4.out
    clear hSp
    have hy2:=hy
    unfold encK linkV at hy2
    dsimp only at hy2
    clear hy
    by_cases hcd:oC a≠0
    ·rw[if_pos hcd]at hS3
     have HS:=Lib.hid hS3
     have dcd:(oC a !=0)=true:=by simpa using hcd
     have dcd2:decide (oC a=0)=false:=by simpa using hcd
     have hpl:LkE.pl ⟨a,oH a,oXI a,oD a,A3,m3,c3,oC a⟩=(a,oC a):=rfl
     clear hS3
     gi_wp2
     refine hR4.mono ?_
     rintro e W3 (⟨rfl,hJ3,hk3⟩|⟨rfl,hJx3⟩)
     ·gi_wp2
      refine bodyPost_ret (results_none rfl _ _ _) rfl ?_
      exact⟨⟨_,rfl⟩,.inl ⟨_,(by rw[List.map_append];exact HS.out.symm.trans HYL.out.symm),hJ3⟩⟩
     ·gi_wp2
      refine bodyPost_ret (results_none rfl _ _ _) rfl ?_
      exact⟨⟨_,rfl⟩,.inr ⟨_,⟨[],by rw[List.append_nil,HYL.out,List.map_append];exact HS.out⟩,hJx3⟩⟩
    ·rw[if_neg hcd]at hS3
     have hcd0:oC a=0:=by simpa using hcd
     have HS:=Lib.hid hS3
     rw[hcd0]at hy2 hR4
     clear hS3 hcd
     gi_wp2
     refine hR4.mono ?_
     rintro e W3 (⟨rfl,hJ3,hk3⟩|⟨rfl,hJx3⟩)
     ·have M5:=Lib.hid (HM4.out.kp hk3 HB4.out)
      have X5:=Lib.hid (HB4.out.size hk3.below.size)
      have R5:=Lib.hid (hk3.blk R4.out HGl.out HRow.out)
      have J5:=Lib.hid hJ3
      clear hJ3 hk3 k0 k1 k2 k3 k4 R4 HJ4 HM4 HB4 hR4 hy2
      have k2:=R5.out.cell (i:=2) rfl
      have ka:=M5.out.at_.cell (i:=0) rfl
      have kf:=M5.out.at_.frozen 0
      rw[(HX.out a).1]at k2
      gi_upto_region 7 with fail
      gi_region
      all_goals
       gi_wp2
       obtain⟨mt,kS⟩:=M5.out.turn X5.out (oX a)
       go_roundw
       case rel=>exact⟨oX a,some a,a,f,pre++ [⟨a,oH a,oXI a,oD a,A3,m3,c3,0⟩],rfl,rfl,Lib.hid (fun x e=>by injection e with e;subst e;exact⟨rfl,HAN.out.2⟩),Lib.hid (HJb.out _ _ _ J5.out kS),Lib.hid (by rw[HS.out,List.map_append,List.append_assoc];rfl),Lib.hid (enough_next hF.out hnb HAN.out.2),Lib.hid (HX.out a).2,Lib.hid mt,Lib.hid (X5.out.size kS.size)⟩
       case measure=>rw[Option.isNone_some,rk_some,rk_some];have:=HAN.out.2;unfold badW at hnb;cases ri<;>simp at hnb⊢ <;>omega
     ·gi_wp2
      refine bodyPost_ret (results_none rfl _ _ _) rfl ?_
      exact⟨⟨_,rfl⟩,.inr ⟨_,⟨yk E ri oC oX f (oX a) (some a),by rw[HYL.out,HS.out,List.map_append,List.append_assoc];rfl⟩,hJx3⟩⟩
end Xd
namespace Xe
open Go.ChangeShapes Go.WideShapes Go.ChangeAt Go.RowKit Go.Shelf
open Bytes8 Blk8 Kf Own8 OwnA OwnE Rows2 Ob Ga Gb Ok7 Rc Dc Wa Xb Xc Xd
open Ym (wordElt)
open Wf (rowOf rowOf_block KpL KpL.put)
open Wk (wpListIn_append_elt_at own_cells own_put)
open Xa (SeqOwn range_own)
attribute [local go_sem] Oper.semAt_some
structure Clo (w0:World)(gv Bv Ba Bw Br rf:Nat)(way:Int)(a:Nat)(W:World):Prop where
 bel:Below w0.heap.size w0 W
 v:W.cell? ⟨Bv,0,none⟩=some (.pointer (some ⟨gv,0,none⟩))
 at_:Blk W Ba [.int .u64 (a:Int)] 40
 wy:W.cell? ⟨Bw,0,none⟩=some (.int .i64 way)
 rd:W.cell? ⟨Br,0,none⟩=some (.func (.func rf) #[] #[])
 va:Bv≠Ba
 wa:Bw≠Ba
 ra:Br≠Ba
 vl:Bv<W.heap.size
 wl:Bw<W.heap.size
 rl:Br<W.heap.size
 b0:w0.heap.size≤Ba
theorem Clo.mid {w0:World}{gv Bv Ba Bw Br rf a:Nat}{way:Int}{W W':World}(h:Clo w0 gv Bv Ba Bw Br rf way a W)(k:Below W.heap.size W W'){lb:Nat}(hl:W.heap.size≤lb)(hl2:lb<W'.heap.size)(hr: ∀j,rowOf W' lb=some j→W.heap.size≤j∧j<W'.heap.size):
 MidC w0 gv Bv Ba Bw Br lb rf way a W'∧Bxs w0 Bv Ba Bw Br lb W':=by
 have h1:=h.at_.lt
 have h2:=h.vl;have h3:=h.wl;have h4:=h.rl;have h5:=k.size
 exact⟨{bel:=h.bel.trans (k.mono h.bel.size)
        v:=(k.cell (p:=⟨Bv,0,none⟩) h.vl).trans h.v
        at_:=h.at_.below k h.at_.lt
        wy:=(k.cell (p:=⟨Bw,0,none⟩) h.wl).trans h.wy
        rd:=(k.cell (p:=⟨Br,0,none⟩) h.rl).trans h.rd
        row:=fun j hj=>by have:=hr j hj;exact⟨by omega,by omega,by omega,by omega,this.2⟩},
  {vl:=by omega,al:=by omega,wl:=by omega,rl:=by omega,va:=h.va,wa:=h.wa,ra:=h.ra,v:=by omega,w:=by omega,r:=by omega,l:=hl2,b0:=h.b0}⟩
structure Plc (w0:World)(s:Nat)(out:List Int)(A:Option Addr)(m c:Nat)(W:World):Prop where
 own:OwnE 40 1 W w0.heap.size A m c (out.map (Value.int .u64))
 len:out.length=m
 r0:Blk W s [.slice none 0 0] 33
 r1:Blk W (s+1) [.int .i64 0] 3
 bl:Blk W (s+2) [.slice A m c] 33
 row: ∀k,ownB A=some k→s+3≤k
 bel:Below w0.heap.size w0 W
 sz:s+3≤W.heap.size
theorem Plc.keptF {w0:World}{s:Nat}{out:List Int}{A:Option Addr}{m c:Nat}{W W':World}{G:Nat→Prop}(h:Plc w0 s out A m c W)(k:KeptF G W W')(h0: ∀j,j<s+3→s≤j→ ¬G j)(hr: ∀j,ownB A=some j→ ¬G j)(hb: ∀j,j<w0.heap.size→ ¬G j):Plc w0 s out A m c W':=
 {own:=Mf.OwnE.keptF h.own k hr
  len:=h.len
  r0:=Kf.Blk.keptF h.r0 k (h0 _ (by omega) (by omega))
  r1:=Kf.Blk.keptF h.r1 k (h0 _ (by omega) (by omega))
  bl:=Kf.Blk.keptF h.bl k (h0 _ (by omega) (by omega))
  row:=h.row
  bel:=h.bel.trans ⟨k.os,k.tape,k.output,k.size,fun j hj=>k.block j (by have:=h.bel.size;omega) (hb j hj)⟩
  sz:=Nat.le_trans h.sz k.size}
theorem plc_row {w0:World}{s:Nat}{out:List Int}{A:Option Addr}{m c:Nat}{W:World}(h:Plc w0 s out A m c W):rowOf W (s+2)=ownB A:=by
 unfold rowOf
 rw[h.bl.cell (i:=0) rfl]
theorem plc_out {w0:World}{s:Nat}{out:List Int}{A:Option Addr}{m c:Nat}{V:World}(h:Plc w0 s out A m c V)(hs:w0.heap.size≤s)(F:Option Addr)(fm fc:Nat)(code:Int)(D:Nat)(hD:s+2≤D):
 KeepsFrom D V ((V.setCell ⟨s,0,none⟩ (.slice F fm fc)).setCell ⟨s+1,0,none⟩ (.int .i64 code))∧Blk ((V.setCell ⟨s,0,none⟩ (.slice F fm fc)).setCell ⟨s+1,0,none⟩ (.int .i64 code)) s [.slice F fm fc] 33∧Blk ((V.setCell ⟨s,0,none⟩ (.slice F fm fc)).setCell ⟨s+1,0,none⟩ (.int .i64 code)) (s+1) [.int .i64 code] 3∧
  OwnE 40 1 ((V.setCell ⟨s,0,none⟩ (.slice F fm fc)).setCell ⟨s+1,0,none⟩ (.int .i64 code)) w0.heap.size A m c (out.map (Value.int .u64))∧Below w0.heap.size w0 ((V.setCell ⟨s,0,none⟩ (.slice F fm fc)).setCell ⟨s+1,0,none⟩ (.int .i64 code)):=by
 have k1:=KeptF.set1 V s 0 (.slice F fm fc)
 have k2:=KeptF.set1 (V.setCell ⟨s,0,none⟩ (.slice F fm fc)) (s+1) 0 (.int .i64 code)
 have kk:KeptF (fun j=>j=s∨j=s+1) V ((V.setCell ⟨s,0,none⟩ (.slice F fm fc)).setCell ⟨s+1,0,none⟩ (.int .i64 code)):=(k1.mono fun j e=> .inl e).trans k2 fun j _ e=> .inr e
 refine⟨⟨kk.size,fun k o hk ho hc=>(kk.block k (Array.getElem?_eq_some_iff.1 ho).1 (fun e=>by omega)).trans ho⟩,?_,?_,Mf.OwnE.keptF h.own kk (fun j hj e=>by have:=h.row j hj;omega),h.bel.trans ⟨kk.os,kk.tape,kk.output,kk.size,fun j hj=>kk.block j (by have:=h.bel.size;omega) (fun e=>by omega)⟩⟩
 ·exact Kf.Blk.keptF (show Blk (V.setCell ⟨s,0,none⟩ (.slice F fm fc)) s [.slice F fm fc] 33 from Boxed.set (t:=33) (.slice F fm fc) h.r0) k2 (fun e=>by have e1:s=s+1:=e;omega)
 ·exact Boxed.set (t:=3) (.int .i64 code) (show Boxed (V.setCell ⟨s,0,none⟩ (.slice F fm fc)) (s+1) 3 (.int .i64 0)from Kf.Blk.keptF h.r1 k1 (fun e=>by have e1:s+1=s:=e;omega))
theorem plc_push {w0:World}{s:Nat}{out:List Int}{A:Option Addr}{m c:Nat}{V:World}(h:Plc w0 s out A m c V)(hs:w0.heap.size≤s){o:Obj}{w2:World}{A5:Option Addr}{c5:Nat}{y:Int}(ho:OwnE 40 1 w2 w0.heap.size A5 (m+1) c5 (out.map (Value.int .u64)++ [.int .u64 y]))(hg:(V.alloc o).grownBy w2 (ownB A))(hat:ownB A5=ownB A∨ownB A5=some (V.alloc o).heap.size):
 Plc w0 s (out++ [y]) A5 (m+1) c5 (w2.setCell ⟨s+2,0,none⟩ (.slice A5 (m+1) c5))∧KpL w0.heap.size (s+2) V (w2.setCell ⟨s+2,0,none⟩ (.slice A5 (m+1) c5))∧KeptF (fun j=>ownB A=some j∨j=s+2) V (w2.setCell ⟨s+2,0,none⟩ (.slice A5 (m+1) c5))∧Blk w2 (s+2) [.slice A m c] 33:=by
 have hsz:=h.sz
 have k1:KeptF (fun j=>ownB A=some j) V w2:=(KeptF.alloc (KeptF.refl _ V) o).grown hg fun k e _=>e
 have k2:=KeptF.set1 w2 (s+2) 0 (.slice A5 (m+1) c5)
 have kk:KeptF (fun j=>ownB A=some j∨j=s+2) V (w2.setCell ⟨s+2,0,none⟩ (.slice A5 (m+1) c5)):=(k1.mono fun j e=> .inl e).trans k2 fun j _ e=> .inr e
 have hV:(V.alloc o).heap.size=V.heap.size+1:=by simp
 have hrow5: ∀k,ownB A5=some k→ownB A=some k∨k=V.heap.size+1:=fun k hk=>hat.elim (fun e=> .inl (e▸hk)) (fun e=> .inr (by rw[e,hV]at hk;injection hk with hk;exact hk.symm))
 have hrn: ∀k,ownB A=some k→s+3≤k:=h.row
 have n0: ∀j,s≤j→j<s+2→ ¬(ownB A=some j∨j=s+2):=fun j h1 h2 e=>e.elim (fun e=>by have:=hrn j e;omega) (fun e=>by omega)
 have bl2:Blk w2 (s+2) [.slice A m c] 33:=Kf.Blk.keptF h.bl k1 (fun e=>by have:=hrn _ e;omega)
 have bl3:Blk (w2.setCell ⟨s+2,0,none⟩ (.slice A5 (m+1) c5)) (s+2) [.slice A5 (m+1) c5] 33:=Boxed.set (t:=33) (.slice A5 (m+1) c5) bl2
 have hbl:Below w0.heap.size V (w2.setCell ⟨s+2,0,none⟩ (.slice A5 (m+1) c5)):=⟨kk.os,kk.tape,kk.output,kk.size,fun j hj=>kk.block j (by have:=h.bel.size;omega) (fun e=>e.elim (fun e=>by have:=(Dc.OwnE.ltB h.own j e).1;omega) (fun e=>by omega))⟩
 have r3:rowOf (w2.setCell ⟨s+2,0,none⟩ (.slice A5 (m+1) c5)) (s+2)=ownB A5:=by
  unfold rowOf
  rw[bl3.cell (i:=0) rfl]
 refine⟨?_,⟨hbl,fun b q h1 h2 h3 h4=>?_,fun k hk=>?_⟩,kk,bl2⟩
 ·exact
   {own:=Mf.OwnE.keptF (by rw[List.map_append];exact ho) k2 (fun j hj e=>by
     have e1:j=s+2:=e
     rcases hrow5 j hj with h5|h5
     ·have:=hrn j h5;omega
     ·omega)
    len:=by simp[h.len]
    r0:=Kf.Blk.keptF h.r0 kk (n0 _ (by omega) (by omega))
    r1:=Kf.Blk.keptF h.r1 kk (n0 _ (by omega) (by omega))
    bl:=bl3
    row:=fun k hk=>(hrow5 k hk).elim (hrn k) (fun e=>by omega)
    bel:=h.bel.trans hbl
    sz:=Nat.le_trans h.sz kk.size}
 ·rw[plc_row h]at h4
  exact(kk.block b (Array.getElem?_eq_some_iff.1 h1).1 (fun e=>e.elim h4 h3)).trans h1
 ·rw[r3]at hk
  rw[plc_row h]
  have h6:=Dc.OwnE.ltB ho k hk
  have h7:=k2.size
  exact(hrow5 k hk).imp id (fun e=>⟨by omega,by omega⟩)
theorem kpl_alloc {B0 lb:Nat}{W:World}(o:Obj)(h1:lb<W.heap.size)(h2:B0≤W.heap.size):KpL B0 lb W (W.alloc o):=by
 have k:=(Below.refl W.heap.size W).alloc (Nat.le_refl _) o
 exact⟨k.mono h2,fun b o1 q1 _ _ _=>(k.block b (Array.getElem?_eq_some_iff.1 q1).1).trans q1,fun j hj=> .inl (by rw[←hj];exact(rowOf_block (k.block lb h1)).symm)⟩
attribute [local irreducible] HD.cells wpList Code.wp
def Placed (w0:World)(R:List Int×Int)(e:Ending)(w':World):Prop:=Below w0.heap.size w0 w'∧ ∃A m c,e= .returned (.tuple #[.slice A m c,.int .i64 R.2])∧OwnE 40 1 w' w0.heap.size A m c (R.1.map (Value.int .u64))∧R.1.length=m
theorem places_any {gv:Nat}{h:HD}{A:Option Addr}{E c:Nat}{l:List Int}(w0:World)(v:ViewAt w0 gv h A E c l)(ri:Bool)(oC oH oD oXI:Nat→Int)(oX:Nat→Nat)(oP:Nat→List Int)(rf:Nat)
 (hR: ∀(a:Nat) (V:World),Below w0.heap.size w0 V→Calls Tryz.prog rf #[.pointer (some ⟨gv,0,none⟩),.int .u64 (a:Int)] V (ReadK oC oH oXI oD oP a V))(heg: ∀args w,(callFunc rf args).run Tryz.prog w= .ok (.enter rf args) w)(hX: ∀a,oXI a=(oX a:Int)∧oX a≤18446744073709551615)
 (hE:E≤1000000)(Bv Ba Bw Br a0:Nat)(w:World)(hC:Clo w0 gv Bv Ba Bw Br rf (wayN ri) a0 w)(ha0:a0≤18446744073709551615):
 Calls Tryz.prog 72 #[.func (.func 130) #[] #[.pointer (some ⟨Ba,0,none⟩),.pointer (some ⟨Bv,0,none⟩),.pointer (some ⟨Bw,0,none⟩),.pointer (some ⟨Br,0,none⟩)]] w (Placed w0 (plR (yk E ri oC oX (E+2) a0 none) [])):=by
 refine(callsIn_wide (n:=6)).1 ?_
 refine callsIn_of_wp_marks Tryz.func72 rfl trivial ?_ rfl
 refine wpIn_wide.2 ?_
 simp only[Tryz.ntmps72,List.size_toArray,List.length_cons,List.length_nil,Nat.reduceAdd,Nat.reduceSub,Array.replicate_succ,Array.replicate_zero,List.push_toArray,List.append_toArray,List.nil_append,List.cons_append]
 have hCb:=hC.bel
 have HC:=Lib.hid hC
 clear hC
 go_wp2_with fail
 obtain⟨s,hs⟩: ∃s,w.heap.size=s:=⟨_,rfl⟩
 have K0:=((Blk.new w [.slice none 0 0] 33).alloc (.cells #[.int .i64 0] 3)).alloc (.cells #[.slice none 0 0] 33)
 have K1:=(Blk.new (w.alloc (.cells #[.slice none 0 0] 33)) [.int .i64 0] 3).alloc (.cells #[.slice none 0 0] 33)
 have K2:=Blk.new ((w.alloc (.cells #[.slice none 0 0] 33)).alloc (.cells #[.int .i64 0] 3)) [.slice none 0 0] 33
 have B3:=(((Below.refl w.heap.size w).alloc (Nat.le_refl _) (.cells #[.slice none 0 0] 33)).alloc (by simp) (.cells #[.int .i64 0] 3)).alloc (by simp<;>omega) (.cells #[.slice none 0 0] 33)
 have S3:(((w.alloc (.cells #[.slice none 0 0] 33)).alloc (.cells #[.int .i64 0] 3)).alloc (.cells #[.slice none 0 0] 33)).heap.size=s+3:=by simp only[World.alloc,Array.size_push];omega
 have hs0:=hCb.size
 simp only[World.size_alloc,hs,Nat.add_assoc,Nat.reduceAdd]at K0 K1 K2⊢
 generalize (((w.alloc (.cells #[.slice none 0 0] 33)).alloc (.cells #[.int .i64 0] 3)).alloc (.cells #[.slice none 0 0] 33))=W0 at*
 have HG0:Hid (Plc w0 s [] none 0 0 W0):=Lib.hid
  {own:=OwnE.nil _ _ (by omega),len:=rfl,r0:=K0,r1:=K1,bl:=K2
   row:=fun k hk=>by cases hk
   bel:=hCb.trans (B3.mono hCb.size),sz:=by omega}
 have HMB:=Lib.hid (HC.out.mid B3 (lb:=s+2) (by omega) (by omega) (fun j hj=>by rw[plc_row HG0.out]at hj;cases hj))
 have HC2:=Lib.hid (And.intro HC.out.at_.lt (And.intro HC.out.b0 (And.intro HC.out.vl HC.out.wl)))
 have HFin:=Lib.hid fun(xs:List LkE) (out:List Int) (h1:xs.map LkE.pl=yk E ri oC oX (E+2) a0 none) (h2:plA (xs.map LkE.pl) []=some out)=>show plR (yk E ri oC oX (E+2) a0 none) []=(out,0)by
  have h3:=plR_after (xs.map LkE.pl) [] [] out h2
  rw[List.append_nil,h1]at h3
  exact h3
 have HStop:=Lib.hid fun(pre:List LkE) (rest:List (Nat×Int)) (R:List Int×Int) (h1:yk E ri oC oX (E+2) a0 none=pre.map LkE.pl++rest) (h2: ∀r,plR (pre.map LkE.pl++r) []=R)=>show plR (yk E ri oC oX (E+2) a0 none) []=R by
  rw[h1];exact h2 rest
 have HLen:=Lib.hid fun(pre:List LkE) (x:LkE) (out:List Int) (h1: ∃rest,yk E ri oC oX (E+2) a0 none=(pre++ [x]).map LkE.pl++rest) (h2:plA (pre.map LkE.pl) []=some out)=>show out.length≤1000002 by
  obtain⟨rest,h1⟩:=h1
  have h3:=yk_len E ri oC oX (E+2) a0 none
  rw[h1,List.length_append,List.length_map,List.length_append]at h3
  have h4:=plA_len _ _ _ h2
  rw[List.length_map,List.length_nil]at h4
  omega
 generalize plR (yk E ri oC oX (E+2) a0 none) []=R at*
 clear K0 K1 K2
 refine wpIn_wide.1 (range_own (F:=Fence.wide) (n:=5) rfl (by omega) (gf:=130) (lb:= #[.pointer (some ⟨Ba,0,none⟩),.pointer (some ⟨Bv,0,none⟩),.pointer (some ⟨Bw,0,none⟩),.pointer (some ⟨Br,0,none⟩)]) rfl trivial (enters_of Tryz.func130 (by kernel_rfl) rfl)
  (links1_own w0 v ri oC oH oD oXI oX oP rf hR heg hX Bv Ba Bw Br (s+2) a0 4 (by omega) W0 HMB.out.1 HMB.out.2 ha0)
  (fun X Y hXY k o hk ho hc=>(hXY.block k (Array.getElem?_eq_some_iff.1 ho).1 (fun e=>by have e1:k=Ba:=e;have:=HC2.out.1;omega)).trans ho)
  (fun h k=>KpL.trans h k) (fun V q o o' h1 h2 h3 h4=>KpL.put (d:=W0.heap.size) (by omega) (by omega) V q o o' h1 h2 h3) (fun _=>rfl)
  (fun x W k o o' _ ho hc hp=>pxK_put x W k o o' ho hc hp)
  (fun pre W=> ∃(out:List Int) (A:Option Addr) (m c:Nat),plA (pre.map LkE.pl) []=some out∧Plc w0 s out A m c W)
  (fun cd pre W=>cd= .ret∧ ∃(code:Int),(∀r,plR (pre.map LkE.pl++r) []=([],code))∧Blk W s [.slice none 0 0] 33∧Blk W (s+1) [.int .i64 code] 3∧Below w0.heap.size w0 W)
  ?ownI ?ownX ?abI ?abX ⟨[],none,0,0,rfl,HG0.out⟩
  (fun x W=>{tmps:= #[.func (.func 130) #[] #[.pointer (some ⟨Ba,0,none⟩),.pointer (some ⟨Bv,0,none⟩),.pointer (some ⟨Bw,0,none⟩),.pointer (some ⟨Br,0,none⟩)],undef,.pointer (some ⟨s,0,none⟩),.pointer (some ⟨s+1,0,none⟩),.pointer (some ⟨s+2,0,none⟩),.pointer (some ⟨W.heap.size,0,none⟩),.int .i64 x.cd,.func (.func 130) #[] #[.pointer (some ⟨Ba,0,none⟩),.pointer (some ⟨Bv,0,none⟩),.pointer (some ⟨Bw,0,none⟩),.pointer (some ⟨Br,0,none⟩)],linkV x.a x.h x.x x.d x.A x.m x.c,.int .i64 x.cd,undef,undef,undef,undef,undef,undef,undef,undef,undef],defers:=[]})
  (fun x W=>W.alloc (.cells #[.int .u64 (x.a:Int),.int .u64 x.h,.int .u64 x.x,.int .u64 x.d,.slice x.A x.m x.c] 156))
  (fun x W k o hk ho hc=>(((Below.refl W.heap.size W).alloc (Nat.le_refl _) _).block k (Array.getElem?_eq_some_iff.1 ho).1).trans ho)
  ?isI (fun x W hp h0=>by
   obtain⟨p1,p2,p3,p4⟩:=hp h0
   exact⟨p1,p2,p3.below ((Below.refl W.heap.size W).alloc (Nat.le_refl _) _) (Nat.le_refl _),p4⟩)
  (fun x W hW=>kpl_alloc _ (by omega) (by omega)) ?assign ?body ?done ?stop)
 case assign=>
  intro q x V K hK
  gi_wp2
  exact hK
 case isI=>
  rintro pre x V hV ⟨out,A1,m1,c1,h1,hG⟩
  exact⟨out,A1,m1,c1,h1,hG.keptF ((KeptF.refl (fun _=>False) V).alloc _) (fun _ _ _ h=>h) (fun _ _ h=>h) (fun _ _ h=>h)⟩
 case ownI=>
  rintro pre V V' row ⟨out,A1,m1,c1,h1,hG⟩ hg hr
  refine⟨out,A1,m1,c1,h1,hG.keptF (KeptF.grow row hg) (fun j hj _ e=>?_) (fun j hj e=>?_) (fun j hj e=>?_)⟩
  ·have:=(hr j e).1;omega
  ·obtain⟨_,o,ho1,ho2⟩:=hr j e
   obtain⟨cur,hcur⟩:=own_cells hG.own hj
   rw[hcur]at ho1
   injection ho1 with ho1
   rw[←ho1]at ho2
   cases ho2
  ·have:=(hr j e).1;omega
 case ownX=>
  rintro cd pre V V' row ⟨rfl,code,h1,b4,b5,hbel⟩ hg hr
  have kk:=KeptF.grow row hg
  refine⟨rfl,code,h1,Kf.Blk.keptF b4 kk (fun e=>?_),Kf.Blk.keptF b5 kk (fun e=>?_),hbel.trans ⟨kk.os,kk.tape,kk.output,kk.size,fun j hj=>kk.block j (by have:=hbel.size;omega) (fun e=>?_)⟩⟩
  ·have:=(hr _ e).1;omega
  ·have:=(hr _ e).1;omega
  ·have:=(hr _ e).1;omega
 case abI=>
  rintro pre V V' ⟨out,A1,m1,c1,h1,hG⟩ kk
  have h9:=HC2.out
  refine⟨out,A1,m1,c1,h1,hG.keptF kk (fun j hj _ e=>?_) (fun j hj e=>?_) (fun j hj e=>?_)⟩
  ·have e1:j=Ba:=e;omega
  ·have e1:j=Ba:=e;have:=hG.row j hj;omega
  ·have e1:j=Ba:=e;omega
 case abX=>
  rintro cd pre V V' ⟨rfl,code,h1,b4,b5,hbel⟩ kk
  have h9:=HC2.out
  refine⟨rfl,code,h1,Kf.Blk.keptF b4 kk (fun e=>?_),Kf.Blk.keptF b5 kk (fun e=>?_),hbel.trans ⟨kk.os,kk.tape,kk.output,kk.size,fun j hj=>kk.block j (by have:=hbel.size;omega) (fun e=>?_)⟩⟩
  ·have e1:s=Ba:=e;omega
  ·have e1:s+1=Ba:=e;omega
  ·have e1:j=Ba:=e;omega
 case body=>
  rintro q pre x W V hW hpx hsp ⟨out,A1,m1,c1,h1,hG⟩ hsz hblk
  have RX:=Lib.hid (show Blk V W.heap.size [.int .u64 (x.a:Int),.int .u64 x.h,.int .u64 x.x,.int .u64 x.d,.slice x.A x.m x.c] 156 from(hblk W.heap.size (by omega)).trans (heap_alloc_new W _))
  have hln:=HLen.out pre x out hsp h1
  obtain⟨xa,xh,xx,xd,xA,xm,xc,cd⟩:=x
  dsimp only at*
  have HG:=Lib.hid hG
  have H1:=Lib.hid h1
  have HD:=Lib.hid (show s+3≤W0.heap.size by omega)
  have hm1:m1≤1000002:=by have:=hG.len;omega
  have HW:=Lib.hid hW
  clear hblk hsz hG h1 hpx hsp hln HG0 HMB
  generalize W.heap.size=gx at*
  have cx0:=RX.out.cell (i:=0) rfl
  have cl:=HG.out.bl.cell (i:=0) rfl
  have k0:=HG.out.r0.cell (i:=0) rfl
  have k1:=HG.out.r1.cell (i:=0) rfl
  have f0:=HG.out.r0.frozen 0
  have f1:=HG.out.r1.frozen 0
  have f2:=HG.out.bl.frozen 0
  by_cases hz:cd≠0
  ·have d1:(cd !=0)=true:=by simpa using hz
   have d2:decide (cd=0)=false:=by simpa using hz
   have HR1:=Lib.hid fun r=>show plR ((pre++ [(⟨xa,xh,xx,xd,xA,xm,xc,cd⟩:LkE)]).map LkE.pl++r) []=([],cd)from by
    rw[List.map_append,List.append_assoc,plR_after _ _ _ _ H1.out]
    show(if cd≠0 then _ else _)=_
    rw[if_pos hz]
    rfl
   have HLv:=Lib.hid (plc_out HG.out (by omega) none 0 0 cd W0.heap.size (by omega))
   clear hz
   gi_wp2
   obtain⟨r2,r3,r4,r5,r6⟩:=HLv.out
   exact⟨r2,rfl,cd,HR1.out,r3,r4,r6⟩
  ·have hz0:cd=0:=by simpa using hz
   subst hz0
   clear hz
   have hA1:plA ((pre++ [(⟨xa,xh,xx,xd,xA,xm,xc,0⟩:LkE)]).map LkE.pl) []=some (out++ [(xa:Int)]):=by
    rw[List.map_append]
    exact plA_snoc (xa,0) rfl _ _ _ H1.out
   have HA1:=Lib.hid hA1
   clear hA1
   gi_wp2_with (first
    |(gi_at_builtin;refine wpListIn_append_elt_at wordElt rfl (.tmp 13) (.tmp 16) rfl w0.heap.size A1 m1 c1 (out.map (Value.int .u64)) rfl (OwnE.alloc HG.out.own _) ⟨V.heap.size,0,none⟩ 1 1 [.int .u64 (xa:Int)] rfl rfl (Blk.news (Blk.new V [.int .u64 (xa:Int)] 40)) (by intro u hu;simp at hu;subst hu;rfl) (by omega) (by omega) (by unfold maxLen;omega) ?_;intro A5 c5 w5 ho5 hg5 hat5;have HP:=Lib.hid (plc_push HG.out (by omega) ho5 hg5 hat5);clear ho5 hg5 hat5;have cl5:=HP.out.2.2.2.cell (i:=0) rfl;have fl5:=HP.out.2.2.2.frozen 0)
    |fail)
   obtain⟨hG5,hK5,hKF,_⟩:=HP.out
   exact⟨⟨hKF.size,fun k o hk ho hc=>(hKF.block k (Array.getElem?_eq_some_iff.1 ho).1 (fun e=>by
    have:=HD.out
    rcases e with e|e
    ·obtain⟨cur,hcur⟩:=own_cells HG.out.own e
     rw[hcur]at ho
     injection ho with ho
     rw[←ho]at hc
     cases hc
    ·omega)).trans ho⟩,hK5,out++ [(xa:Int)],A5,m1+1,c5,HA1.out,hG5⟩
 case done=>
  rintro D xs V hD hxs ⟨out,A1,m1,c1,h1,hG⟩ hK
  have hRR:=HFin.out xs out hxs h1
  have cl:=hG.bl.cell (i:=0) rfl
  have c0:=hG.r0.cell (i:=0) rfl
  have c1_:=hG.r1.cell (i:=0) rfl
  have f0:=hG.r0.frozen 0
  have f1:=hG.r1.frozen 0
  have HLd:=Lib.hid (plc_out hG (by omega) A1 m1 c1 0 W0.heap.size (by omega))
  have HRR:=Lib.hid hRR
  have HKK:=Lib.hid hK
  have HG:=Lib.hid hG
  have HDD:=Lib.hid hD
  clear hK hRR h1 hxs hG HG0 HMB
  go_wp2_with fail
  obtain⟨r2,r3,r4,r5,r6⟩:=HLd.out
  have hKD:=r2.same D _ HDD.out HKK.out rfl
  obtain⟨o1,o2⟩:=own_put r5 r6 hKD (by have:=HDD.out;omega) (.deferred none)
  have hb4:=(World.cell?_of_block (a:=⟨s,0,none⟩) (World.putObj_heap_other (w:=((V.setCell ⟨s,0,none⟩ (.slice A1 m1 c1)).setCell ⟨s+1,0,none⟩ (.int .i64 0))) (o:= .deferred none) (show s≠D by have:=HDD.out;omega))).trans (r3.cell (i:=0) rfl)
  have hb5:=(World.cell?_of_block (a:=⟨s+1,0,none⟩) (World.putObj_heap_other (w:=((V.setCell ⟨s,0,none⟩ (.slice A1 m1 c1)).setCell ⟨s+1,0,none⟩ (.int .i64 0))) (o:= .deferred none) (show s+1≠D by have:=HDD.out;omega))).trans (r4.cell (i:=0) rfl)
  refine⟨by simp,.inl ⟨_,_,rfl,run_takeDeferred hKD,?_⟩⟩
  refine⟨.tuple #[.slice A1 m1 c1,.int .i64 0],by simp[results,Tryz.results72,go_sem,Result.andThen,hb4,hb5],?_⟩
  rw[HRR.out]
  exact⟨o2,A1,m1,c1,rfl,o1,HG.out.len⟩
 case stop=>
  rintro D cd pre V hD ⟨rest,hpre⟩ ⟨rfl,code,h1,b4,b5,hbel⟩ hK
  have hRR:=HStop.out pre rest ([],code) hpre h1
  obtain⟨o1,o2⟩:=own_put (OwnE.nil V w0.heap.size hbel.size) hbel hK (by omega) (.deferred none)
  have hb4:=(World.cell?_of_block (a:=⟨s,0,none⟩) (World.putObj_heap_other (w:=V) (o:= .deferred none) (show s≠D by omega))).trans (b4.cell (i:=0) rfl)
  have hb5:=(World.cell?_of_block (a:=⟨s+1,0,none⟩) (World.putObj_heap_other (w:=V) (o:= .deferred none) (show s+1≠D by omega))).trans (b5.cell (i:=0) rfl)
  have HRR:=Lib.hid hRR
  clear hRR
  gi_wp2
  refine⟨by simp,.inl ⟨_,_,rfl,run_takeDeferred hK,?_⟩⟩
  refine⟨.tuple #[.slice none 0 0,.int .i64 code],by simp[results,Tryz.results72,go_sem,Result.andThen,hb4,hb5],?_⟩
  rw[HRR.out]
  exact⟨o2,none,0,0,rfl,o1,rfl⟩
end Xe
end Go.Proofs.YtjecmgkmcfkcjaaGreat
