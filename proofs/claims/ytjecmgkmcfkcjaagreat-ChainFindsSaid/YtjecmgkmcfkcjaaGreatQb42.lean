/-
  Texts beneath the proof.
-/
import Derived.Sort.QuietIn
import Derived.Test.YtjecmgkmcfkcjaaGreatQb39
import Derived.Test.YtjecmgkmcfkcjaaGreatQb36
import Derived.Test.YtjecmgkmcfkcjaaGreatQb40
set_option linter.unusedVariables false
set_option linter.unusedSimpArgs false
set_option maxRecDepth 100000
set_option maxHeartbeats 8000000
namespace Go.Proofs.YtjecmgkmcfkcjaaGreat
namespace Xd
open Go.ChangeShapes Go.WideShapes Go.ChangeAt Go.RowKit Go.Shelf
open Bytes8 Blk8 Kf Own8 OwnE Rows2 Ga Gb Ok7 Rc Wa Xb Xc
open Wf (rowOf rowOf_block KpL)
open Xa (SeqOwn)
attribute [local go_sem] Oper.semAt_some
structure LkE where
 a:Nat
 h:Int
 x:Int
 d:Int
 A:Option Addr
 m:Nat
 c:Nat
 cd:Int
def LkE.pl (e:LkE):Nat×Int:=(e.a,e.cd)
abbrev encK (e:LkE):Array Value:= #[linkV e.a e.h e.x e.d e.A e.m e.c,.int .i64 e.cd]
def PxK (oH oD:Nat→Int)(oP:Nat→List Int)(e:LkE)(W:World):Prop:=e.cd=0→e.h=oH e.a∧e.d=oD e.a∧Bytes W e.A (oP e.a)∧(oP e.a).length=e.m
theorem bytes_put {W:World}{A:Option Addr}{l:List Int}(h:Bytes W A l)(k:Nat)(o o':Obj)(ho:W.heap[k]? =some o)(hc:o.isCells=false):Bytes (W.putObj k o') A l:=⟨h.1,fun i hi=>by
 obtain⟨b,off,e,hb,hx⟩:=h.2 i hi
 have hbk:b≠k:=fun e2=>by
  subst e2
  cases o with
  |cells c t f=>cases hc
  |_=>simp[World.cell?,ho]at hx
 exact⟨b,off,e,by simpa using hb,(World.cell?_of_block (a:=⟨b,off+i,none⟩) (World.putObj_heap_other hbk)).trans hx⟩⟩
theorem pxK_put {oH oD:Nat→Int}{oP:Nat→List Int}(e:LkE)(W:World)(k:Nat)(o o':Obj)(ho:W.heap[k]? =some o)(hc:o.isCells=false)(h:PxK oH oD oP e W):PxK oH oD oP e (W.putObj k o'):=fun h0=>by
 obtain⟨h1,h2,h3,h4⟩:=h h0
 exact⟨h1,h2,bytes_put h3 k o o' ho hc,h4⟩
def wayN (ri:Bool):Int:=if ri then 1 else -1
theorem cmp_bad (ri:Bool)(a x:Nat):(cmpN a x !=wayN ri)=badW ri a (some x):=by
 unfold cmpN wayN badW
 cases ri
 ·rcases Nat.lt_trichotomy a x with h|h|h
  ·rw[if_pos h];simp;omega
  ·rw[if_neg (by omega),if_neg (by omega)];simp;omega
  ·rw[if_neg (by omega),if_pos h];simp;omega
 ·rcases Nat.lt_trichotomy a x with h|h|h
  ·rw[if_pos h];simp;omega
  ·rw[if_neg (by omega),if_neg (by omega)];simp;omega
  ·rw[if_neg (by omega),if_pos h];simp;omega
def rk (E:Nat)(ri:Bool):Value→Value→Nat
 | .bool true,_=>E+2
 |_,.int _ z=>if ri then E+1-z.toNat else z.toNat+1
 |_,_=>0
theorem rk_none (E:Nat)(ri:Bool)(v:Value):rk E ri (.bool true) v=E+2:=rfl
theorem rk_some (E:Nat)(ri:Bool)(x:Nat):rk E ri (.bool false) (.int .u64 (x:Int))=if ri then E+1-x else x+1:=by
 simp[rk]
structure MidC (w0:World)(gv Bv Ba Bw Br lb rf:Nat)(way:Int)(a:Nat)(W:World):Prop where
 bel:Below w0.heap.size w0 W
 v:W.cell? ⟨Bv,0,none⟩=some (.pointer (some ⟨gv,0,none⟩))
 at_:Blk W Ba [.int .u64 (a:Int)] 40
 wy:W.cell? ⟨Bw,0,none⟩=some (.int .i64 way)
 rd:W.cell? ⟨Br,0,none⟩=some (.func (.func rf) #[] #[])
 row: ∀k,rowOf W lb=some k→k≠Bv∧k≠Ba∧k≠Bw∧k≠Br∧k<W.heap.size
structure Bxs (w0:World)(Bv Ba Bw Br lb:Nat)(W:World):Prop where
 vl:Bv≠lb
 al:Ba≠lb
 wl:Bw≠lb
 rl:Br≠lb
 va:Bv≠Ba
 wa:Bw≠Ba
 ra:Br≠Ba
 v:Bv<W.heap.size
 w:Bw<W.heap.size
 r:Br<W.heap.size
 l:lb<W.heap.size
 b0:w0.heap.size≤Ba
theorem Bxs.size {w0:World}{Bv Ba Bw Br lb:Nat}{W W':World}(h:Bxs w0 Bv Ba Bw Br lb W)(hs:W.heap.size≤W'.heap.size):Bxs w0 Bv Ba Bw Br lb W':=
 {h with v:=Nat.lt_of_lt_of_le h.v hs,w:=Nat.lt_of_lt_of_le h.w hs,r:=Nat.lt_of_lt_of_le h.r hs,l:=Nat.lt_of_lt_of_le h.l hs}
theorem MidC.kp {w0:World}{gv Bv Ba Bw Br lb rf a:Nat}{way:Int}{W W':World}(h:MidC w0 gv Bv Ba Bw Br lb rf way a W)(k:KpL w0.heap.size lb W W')(x:Bxs w0 Bv Ba Bw Br lb W):MidC w0 gv Bv Ba Bw Br lb rf way a W':=
 {bel:=h.bel.trans k.below
  v:=k.cell h.v x.vl fun e=>(h.row Bv e).1 rfl
  at_:=k.blk h.at_ x.al fun e=>(h.row Ba e).2.1 rfl
  wy:=k.cell h.wy x.wl fun e=>(h.row Bw e).2.2.1 rfl
  rd:=k.cell h.rd x.rl fun e=>(h.row Br e).2.2.2.1 rfl
  row:=fun y hy=>(k.row y hy).elim (fun h4=>by
     obtain⟨r1,r2,r3,r4,r5⟩:=h.row y h4
     exact⟨r1,r2,r3,r4,Nat.lt_of_lt_of_le r5 k.below.size⟩) fun h4=>by
     have h1:=h.at_.lt
     have h2:=x.v;have h3:=x.w;have h5:=x.r
     exact⟨by omega,by omega,by omega,by omega,h4.2⟩}
theorem MidC.below {w0:World}{gv Bv Ba Bw Br lb rf a:Nat}{way:Int}{W W':World}(h:MidC w0 gv Bv Ba Bw Br lb rf way a W)(k:Below W.heap.size W W')(x:Bxs w0 Bv Ba Bw Br lb W):MidC w0 gv Bv Ba Bw Br lb rf way a W':=
 {bel:=h.bel.trans (k.mono h.bel.size)
  v:=(k.cell (p:=⟨Bv,0,none⟩) x.v).trans h.v
  at_:=h.at_.below k h.at_.lt
  wy:=(k.cell (p:=⟨Bw,0,none⟩) x.w).trans h.wy
  rd:=(k.cell (p:=⟨Br,0,none⟩) x.r).trans h.rd
  row:=fun y hy=>by
   rw[rowOf_block (k.block lb x.l)]at hy
   obtain⟨r1,r2,r3,r4,r5⟩:=h.row y hy
   exact⟨r1,r2,r3,r4,Nat.lt_of_lt_of_le r5 k.size⟩}
theorem MidC.turn {w0:World}{gv Bv Ba Bw Br lb rf a:Nat}{way:Int}{W:World}(h:MidC w0 gv Bv Ba Bw Br lb rf way a W)(x:Bxs w0 Bv Ba Bw Br lb W)(b:Nat):
 MidC w0 gv Bv Ba Bw Br lb rf way b (W.setCell ⟨Ba,0,none⟩ (.int .u64 (b:Int))).drew∧KeptF (One Ba) W (W.setCell ⟨Ba,0,none⟩ (.int .u64 (b:Int))).drew:=by
 have kS:KeptF (One Ba) W (W.setCell ⟨Ba,0,none⟩ (.int .u64 (b:Int))).drew:=by
  have h1:=(KeptF.grow _ (grownBy_setCell' W Ba (.int .u64 (b:Int))))
  exact⟨h1.os,h1.tape,h1.output,h1.size,fun j hj hn=>h1.block j hj (fun e=>hn (by injection e with e;exact e.symm))⟩
 refine⟨{bel:=?_,v:=?_,at_:=?_,wy:=?_,rd:=?_,row:=?_},kS⟩
 ·exact h.bel.trans ⟨kS.os,kS.tape,kS.output,kS.size,fun j hj=>kS.block j (by have:=h.at_.lt;have:=x.b0;omega) (fun e=>by have e1:j=Ba:=e;have:=x.b0;omega)⟩
 ·exact(World.cell?_of_block (a:=⟨Bv,0,none⟩) (kS.block Bv x.v x.va)).trans h.v
 ·exact Boxed.set (t:=40) (v:= .int .u64 (a:Int)) (.int .u64 (b:Int)) h.at_
 ·exact(World.cell?_of_block (a:=⟨Bw,0,none⟩) (kS.block Bw x.w x.wa)).trans h.wy
 ·exact(World.cell?_of_block (a:=⟨Br,0,none⟩) (kS.block Br x.r x.ra)).trans h.rd
 ·intro y hy
  rw[rowOf_block (kS.block lb x.l (fun e=>x.al e.symm))]at hy
  obtain⟨r1,r2,r3,r4,r5⟩:=h.row y hy
  exact⟨r1,r2,r3,r4,Nat.lt_of_lt_of_le r5 kS.size⟩
theorem wide_fn (f:FuncId):Fence.wide.fn f=True:=rfl
attribute [local simp] wide_fn
attribute [local irreducible] HD.cells wpList Code.wp
theorem links1_own {gv:Nat}{h:HD}{A:Option Addr}{E c:Nat}{l:List Int}(w0:World)(v:ViewAt w0 gv h A E c l)(ri:Bool)(oC oH oD oXI:Nat→Int)(oX:Nat→Nat)(oP:Nat→List Int)(rf:Nat)
 (hR: ∀(a:Nat) (V:World),Below w0.heap.size w0 V→Calls Tryz.prog rf #[.pointer (some ⟨gv,0,none⟩),.int .u64 (a:Int)] V (ReadK oC oH oXI oD oP a V))(heg: ∀args w,(callFunc rf args).run Tryz.prog w= .ok (.enter rf args) w)(hX: ∀a,oXI a=(oX a:Int)∧oX a≤18446744073709551615)
 (Bv Ba Bw Br lb a0 n:Nat)(hn:1≤n)(w:World)(hM:MidC w0 gv Bv Ba Bw Br lb rf (wayN ri) a0 w)(hB:Bxs w0 Bv Ba Bw Br lb w)(ha0:a0≤18446744073709551615):
 SeqOwn Fence.wide n Tryz.prog 130 #[.pointer (some ⟨Ba,0,none⟩),.pointer (some ⟨Bv,0,none⟩),.pointer (some ⟨Bw,0,none⟩),.pointer (some ⟨Br,0,none⟩)] encK (PxK oH oD oP) (KpL w0.heap.size lb) (KeptF (One Ba)) (fun xs=>xs.map LkE.pl=yk E ri oC oX (E+2) a0 none) (fun pre=> ∃rest,yk E ri oC oX (E+2) a0 none=pre.map LkE.pl++rest) w:=by
 intro lL J Jx W hW hJ hJx hY hJ0
 have HEn:=Lib.hid fun(V:World) (hV:Below w0.heap.size w0 V)=>vend_any V (v.below hV)
 have HR:=Lib.hid hR
 have HCm:=Lib.hid fun(x y:Nat) (V:World)=>compare_any x y V
 have HX:=Lib.hid hX
 have HA0:=Lib.hid ha0
 have HB0:=Lib.hid (hB.size hW.size)
 have HM0:=Lib.hid (hM.below hW hB)
 have HJ:=Lib.hid fun(s:List LkE) (X Y:World) (hs:J s X) (hb:Below X.heap.size X Y)=>hJ s X Y hs (KeptF.of_below hb)
 have HJb:=Lib.hid hJ
 clear v hM hB hJ hJx hR hX ha0
 refine callsIn_of_wp Tryz.func130 rfl trivial ?_ rfl
 simp only[Tryz.ntmps130,List.size_toArray,List.length_cons,List.length_nil,Nat.reduceAdd,Nat.reduceSub,Array.replicate_succ,Array.replicate_zero,List.push_toArray,List.append_toArray,List.nil_append,List.cons_append]
 obtain⟨YL,hYL⟩: ∃YL,yk E ri oC oX (E+2) a0 none=YL:=⟨_,rfl⟩
 have HS0:=Lib.hid (show YL=([]:List LkE).map LkE.pl++yk E ri oC oX (E+2) a0 none from hYL.symm)
 have HYL:=Lib.hid hYL
 have ka:=HM0.out.at_.cell (i:=0) rfl
 clear hYL
 gi_upto_region 0 with fail
 gi_region
 have z1:=(Below.refl W.heap.size W).drew
 have J1:=Lib.hid (HJ.out [] W W.drew hJ0 z1)
 have M1:=Lib.hid (HM0.out.below z1 HB0.out)
 have X1:=Lib.hid (HB0.out.size z1.size)
 clear z1 HM0 HB0 hJ0 ka
 generalize W.drew=W1 at*
 gi_wp2
 gi_loopw [6,7] (fun fs hs wr=> ∃(a:Nat) (la:Option Nat) (q f:Nat) (pre:List LkE),fs= .bool la.isNone∧hs= .int .u64 (q:Int)∧Hid (∀x,la=some x→q=x∧x<E)∧Hid (J pre wr)∧Hid (YL=pre.map LkE.pl++yk E ri oC oX f a la)∧Hid (enough E ri f la)∧Hid (a≤18446744073709551615)∧Hid (MidC w0 gv Bv Ba Bw Br lb rf (wayN ri) a wr)∧Hid (Bxs w0 Bv Ba Bw Br lb wr)) (fun fs hs _=>rk E ri fs hs)
 case atStart=>exact⟨a0,none,a0,E+2,[],rfl,rfl,Lib.hid (fun x e=>by cases e),J1,HS0,Lib.hid (Nat.le_refl (E+2)),HA0,M1,X1⟩
 case round=>
  obtain⟨a,la,q,f,pre,rfl,rfl,hq,hj,hS,hF,ha6,hM,hB⟩:=hrel
  have kv:=hM.out.v
  have ka:=hM.out.at_.cell (i:=0) rfl
  have kw:=hM.out.wy
  have kr:=hM.out.rd
  obtain⟨f,rfl⟩: ∃q,f=q+1:=⟨f-1,by
   cases f with
   |zero=>exact absurd hF.out (fun h=>enough_0 h)
   |succ f=>omega⟩
  have hS2:=hS.out
  unfold yk at hS2
  have HE1:=Lib.hid fun k=>HEn.out (wr.drewN k) (hM.out.bel.trans (below_drewN (Below.refl _ _) k))
  by_cases hno:nothB E (a:Int)=true
  ·rw[if_pos hno,List.append_nil]at hS2
   have HS:=Lib.hid hS2
   clear hS2
   by_cases h0:a=0
   ·subst h0
    have d0:(((0:Nat):Int)!=0)=false:=by simp
    gi_upto_region 1 with fail
    gi_quiet (first|(gi_at_call 37;refine(callsIn_wide.2 (HE1.out _)).mono (fun e w' h=>⟨h.1,_,h.2.symm⟩))|fail)
    gi_wp2
    refine bodyPost_end (v:= .tuple #[]) ?_ ?_ ?_
    ·exact results_none rfl _ _ _
    ·rfl
    exact⟨⟨_,rfl⟩,.inl ⟨_,HS.out.symm.trans HYL.out.symm,HJ.out _ _ _ hj.out (below_drewN (Below.refl _ _) _)⟩⟩
   ·have d0:((a:Int)!=0)=true:=by simp;omega
    have d1:decide ((a:Int)<(E:Int))=false:=by simp[nothB]at hno;simp;omega
    have d2:decide (a<E)=false:=by simp[nothB]at hno;simp;omega
    gi_upto_region 1 with fail
    gi_quiet (first|(gi_at_call 37;refine(callsIn_wide.2 (HE1.out _)).mono (fun e w' h=>⟨h.1,_,h.2.symm⟩))|fail)
    gi_wp2
    refine bodyPost_end (v:= .tuple #[]) ?_ ?_ ?_
    ·exact results_none rfl _ _ _
    ·rfl
    exact⟨⟨_,rfl⟩,.inl ⟨_,HS.out.symm.trans HYL.out.symm,HJ.out _ _ _ hj.out (below_drewN (Below.refl _ _) _)⟩⟩
  rw[if_neg hno]at hS2
  obtain⟨han1,han2⟩:=nothB_is hno
  have d0:((a:Int)!=0)=true:=by simp;omega
  have d1:decide ((a:Int)<(E:Int))=true:=by simp;omega
  have HAN:=Lib.hid (And.intro han1 han2)
  clear hno
  gi_upto_region 1 with fail
  gi_quiet (first|(gi_at_call 37;refine(callsIn_wide.2 (HE1.out _)).mono (fun e w' h=>⟨h.1,_,h.2.symm⟩))|fail)
  have bq:=below_drewN (Below.refl wr.heap.size wr) nq
  have HJ1:=Lib.hid (HJ.out _ _ _ hj.out bq)
  have HM1:=Lib.hid (hM.out.below bq hB.out)
  have HB1:=Lib.hid (hB.out.size bq.size)
  clear bq HE1 hj hM hB kv ka kw kr
  generalize wr.drewN nq=w1 at*
  clear nq
  cases la with
  |none=>
   have hS3:=hS2
   rw[if_neg (show ¬badW ri a none=true by simp[badW])]at hS3
   have hnb:badW ri a none=false:=rfl
   clear hS2
   gi_upto_region 3 with fail
   gi_quiet (fail)
   have bq:=below_drewN (Below.refl w1.heap.size w1) nq
   have HJ2:=Lib.hid (HJ.out _ _ _ HJ1.out bq)
   have HM2:=Lib.hid (HM1.out.below bq HB1.out)
   have HB2:=Lib.hid (HB1.out.size bq.size)
   clear bq HJ1 HM1 HB1
   generalize w1.drewN nq=w2 at*
   clear nq
   have kv:=HM2.out.v
   have ka:=HM2.out.at_.cell (i:=0) rfl
   have kr:=HM2.out.rd
   have HR2:=Lib.hid (HR.out a w2 HM2.out.bel)
   unfold ReadK at HR2
   gi_upto_region 6 with fail
   refine(callsIn_wide.2 HR2.out).mono ?_
   rintro e w3 ⟨hb3,A3,m3,c3,rfl,hy3,hl3⟩
   have Bb3:=Lib.hid hb3;have Y3:=Lib.hid hy3;have L3:=Lib.hid hl3
   clear hb3 hy3 hl3 HR2
   gi_upto_region 6 with fail
   have B4:=Lib.hid (Bb3.out.alloc Bb3.out.size (.cells #[.int .u64 (a:Int),.int .u64 (oH a),.int .u64 (oXI a),.int .u64 (oD a),.slice A3 m3 c3] 156))
   have R4:=Lib.hid (Blk.new w3 [.int .u64 (a:Int),.int .u64 (oH a),.int .u64 (oXI a),.int .u64 (oD a),.slice A3 m3 c3] 156)
   have HJ4:=Lib.hid (HJ.out _ _ _ HJ2.out B4.out)
   have HM4:=Lib.hid (HM2.out.below B4.out HB2.out)
   have HB4:=Lib.hid (HB2.out.size B4.out.size)
   have Y4:=Lib.hid (Y3.out.below ((Below.refl w3.heap.size w3).alloc (Nat.le_refl _) (.cells #[.int .u64 (a:Int),.int .u64 (oH a),.int .u64 (oXI a),.int .u64 (oD a),.slice A3 m3 c3] 156)) (Nat.le_refl _))
   have HRow:=Lib.hid (show rowOf (w3.alloc (.cells #[.int .u64 (a:Int),.int .u64 (oH a),.int .u64 (oXI a),.int .u64 (oD a),.slice A3 m3 c3] 156)) lb≠some w3.heap.size from fun e=>by
    rw[rowOf_block (B4.out.block lb HB2.out.l)]at e
    have h1:=(HM2.out.row _ e).2.2.2.2
    have h2:=Bb3.out.size
    omega)
   have HGl:=Lib.hid (show w3.heap.size≠lb from by have:=HB2.out.l;have:=Bb3.out.size;omega)
   clear HJ2 HM2 HB2 B4 Bb3 Y3 kv ka kr
   generalize (w3.alloc (.cells #[.int .u64 (a:Int),.int .u64 (oH a),.int .u64 (oXI a),.int .u64 (oD a),.slice A3 m3 c3] 156))=w4 at*
   generalize w3.heap.size=g3 at*
   have k0:=R4.out.cell (i:=0) rfl;have k1:=R4.out.cell (i:=1) rfl;have k2:=R4.out.cell (i:=2) rfl;have k3:=R4.out.cell (i:=3) rfl;have k4:=R4.out.cell (i:=4) rfl
   have hSp: ∃rest,yk E ri oC oX (E+2) a0 none=(pre++ [(⟨a,oH a,oXI a,oD a,A3,m3,c3,oC a⟩:LkE)]).map LkE.pl++rest:=by
    rw[HYL.out]
    by_cases hcd:oC a≠0
    ·rw[if_pos hcd]at hS3
     exact⟨[],by rw[List.append_nil,List.map_append];exact hS3⟩
    ·rw[if_neg hcd]at hS3
     have hcd0:oC a=0:=by simpa using hcd
     exact⟨_,by rw[hcd0,List.map_append,List.append_assoc];exact hS3⟩
   obtain⟨fn,tmps,assign,body,hy,hR4⟩:=hY pre ⟨a,oH a,oXI a,oD a,A3,m3,c3,oC a⟩ w4 (fun _=>⟨rfl,rfl,Y4.out,L3.out⟩) hSp HJ4.out
   clear hSp
   have hy2:=hy
   unfold encK linkV at hy2
   dsimp only at hy2
   clear hy
   by_cases hcd:oC a≠0
   ·rw[if_pos hcd]at hS3
    have HS:=Lib.hid hS3
    have dcd:(oC a !=0)=true:=by simpa using hcd
    have dcd2:decide (oC a=0)=false:=by simpa using hcd
    have hpl:LkE.pl ⟨a,oH a,oXI a,oD a,A3,m3,c3,oC a⟩=(a,oC a):=rfl
    clear hS3
    gi_wp2
    refine hR4.mono ?_
    rintro e W3 (⟨rfl,hJ3,hk3⟩|⟨rfl,hJx3⟩)
    ·gi_wp2
     refine bodyPost_ret (results_none rfl _ _ _) rfl ?_
     exact⟨⟨_,rfl⟩,.inl ⟨_,(by rw[List.map_append];exact HS.out.symm.trans HYL.out.symm),hJ3⟩⟩
    ·gi_wp2
     refine bodyPost_ret (results_none rfl _ _ _) rfl ?_
     exact⟨⟨_,rfl⟩,.inr ⟨_,⟨[],by rw[List.append_nil,HYL.out,List.map_append];exact HS.out⟩,hJx3⟩⟩
   ·rw[if_neg hcd]at hS3
    have hcd0:oC a=0:=by simpa using hcd
    have HS:=Lib.hid hS3
    rw[hcd0]at hy2 hR4
    clear hS3 hcd
    gi_wp2
    refine hR4.mono ?_
    rintro e W3 (⟨rfl,hJ3,hk3⟩|⟨rfl,hJx3⟩)
    ·have M5:=Lib.hid (HM4.out.kp hk3 HB4.out)
     have X5:=Lib.hid (HB4.out.size hk3.below.size)
     have R5:=Lib.hid (hk3.blk R4.out HGl.out HRow.out)
     have J5:=Lib.hid hJ3
     clear hJ3 hk3 k0 k1 k2 k3 k4 R4 HJ4 HM4 HB4 hR4 hy2
     have k2:=R5.out.cell (i:=2) rfl
     have ka:=M5.out.at_.cell (i:=0) rfl
     have kf:=M5.out.at_.frozen 0
     rw[(HX.out a).1]at k2
     gi_upto_region 7 with fail
     gi_region
     all_goals
      gi_wp2
      obtain⟨mt,kS⟩:=M5.out.turn X5.out (oX a)
      go_roundw
      case rel=>exact⟨oX a,some a,a,f,pre++ [⟨a,oH a,oXI a,oD a,A3,m3,c3,0⟩],rfl,rfl,Lib.hid (fun x e=>by injection e with e;subst e;exact⟨rfl,HAN.out.2⟩),Lib.hid (HJb.out _ _ _ J5.out kS),Lib.hid (by rw[HS.out,List.map_append,List.append_assoc];rfl),Lib.hid (enough_next hF.out hnb HAN.out.2),Lib.hid (HX.out a).2,Lib.hid mt,Lib.hid (X5.out.size kS.size)⟩
      case measure=>rw[Option.isNone_none,rk_none,rk_some];have:=HAN.out.2;cases ri<;>simp<;>omega
    ·gi_wp2
     refine bodyPost_ret (results_none rfl _ _ _) rfl ?_
     exact⟨⟨_,rfl⟩,.inr ⟨_,⟨yk E ri oC oX f (oX a) (some a),by rw[HYL.out,HS.out,List.map_append,List.append_assoc];rfl⟩,hJx3⟩⟩
  |some x=>
   obtain⟨hqx,hxE⟩:=hq.out x rfl
   subst hqx
   have hcb:=cmp_bad ri a q
   have HC1:=Lib.hid fun k=>HCm.out a q (w1.drewN k)
   have ka:=HM1.out.at_.cell (i:=0) rfl
   have kw:=HM1.out.wy
   by_cases hbad:badW ri a (some q)=true
   ·rw[if_pos hbad]at hS2
    rw[hbad]at hcb
    have HS:=Lib.hid hS2
    clear hS2
    generalize cmpN a q=cz at*
    gi_upto_region 3 with fail
    gi_quiet (first|(gi_at_call 131;refine(callsIn_wide.2 (HC1.out _)).mono (fun e w' h=>⟨h.1,_,h.2.symm⟩))|fail)
    have bq:=below_drewN (Below.refl w1.heap.size w1) nq
    have HJ2:=Lib.hid (HJ.out _ _ _ HJ1.out bq)
    clear bq ka kw HC1 HM1
    generalize w1.drewN nq=w2 at*
    clear nq
    obtain⟨fn,tmps,assign,body,hy,hR⟩:=hY pre ⟨0,0,0,0,none,0,0,12⟩ w2 (fun h0=>by cases h0) ⟨[],by rw[List.append_nil,HYL.out,List.map_append];exact HS.out⟩ HJ2.out
    have hy2:=hy
    unfold encK linkV at hy2
    dsimp only at hy2
    simp only[Int.natCast_zero]at hy2
    clear hy
    gi_wp2
    refine hR.mono ?_
    rintro e W3 (⟨rfl,hJ3,hk3⟩|⟨rfl,hJx3⟩)
    ·gi_wp2
     refine bodyPost_ret (results_none rfl _ _ _) rfl ?_
     exact⟨⟨_,rfl⟩,.inl ⟨_,(by rw[List.map_append];exact HS.out.symm.trans HYL.out.symm),hJ3⟩⟩
    ·gi_wp2
     refine bodyPost_ret (results_none rfl _ _ _) rfl ?_
     exact⟨⟨_,rfl⟩,.inr ⟨_,⟨[],by rw[List.append_nil,HYL.out,List.map_append];exact HS.out⟩,hJx3⟩⟩
   ·rw[if_neg hbad]at hS2
    have hnb:badW ri a (some q)=false:=by simpa using hbad
    rw[hnb]at hcb
    have hS3:=hS2
    clear hS2 hbad
    generalize cmpN a q=cz at*
    gi_upto_region 3 with fail
    gi_quiet (first|(gi_at_call 131;refine(callsIn_wide.2 (HC1.out _)).mono (fun e w' h=>⟨h.1,_,h.2.symm⟩))|fail)
    have bq:=below_drewN (Below.refl w1.heap.size w1) nq
    have HJ2:=Lib.hid (HJ.out _ _ _ HJ1.out bq)
    have HM2:=Lib.hid (HM1.out.below bq HB1.out)
    have HB2:=Lib.hid (HB1.out.size bq.size)
    clear bq HJ1 HM1 HB1 ka kw HC1
    generalize w1.drewN nq=w2 at*
    clear nq
    have kv:=HM2.out.v
    have ka:=HM2.out.at_.cell (i:=0) rfl
    have kr:=HM2.out.rd
    have HR2:=Lib.hid (HR.out a w2 HM2.out.bel)
    unfold ReadK at HR2
    gi_upto_region 6 with fail
    refine(callsIn_wide.2 HR2.out).mono ?_
    rintro e w3 ⟨hb3,A3,m3,c3,rfl,hy3,hl3⟩
    have Bb3:=Lib.hid hb3;have Y3:=Lib.hid hy3;have L3:=Lib.hid hl3
    clear hb3 hy3 hl3 HR2
    gi_upto_region 6 with fail
    have B4:=Lib.hid (Bb3.out.alloc Bb3.out.size (.cells #[.int .u64 (a:Int),.int .u64 (oH a),.int .u64 (oXI a),.int .u64 (oD a),.slice A3 m3 c3] 156))
    have R4:=Lib.hid (Blk.new w3 [.int .u64 (a:Int),.int .u64 (oH a),.int .u64 (oXI a),.int .u64 (oD a),.slice A3 m3 c3] 156)
    have HJ4:=Lib.hid (HJ.out _ _ _ HJ2.out B4.out)
    have HM4:=Lib.hid (HM2.out.below B4.out HB2.out)
    have HB4:=Lib.hid (HB2.out.size B4.out.size)
    have Y4:=Lib.hid (Y3.out.below ((Below.refl w3.heap.size w3).alloc (Nat.le_refl _) (.cells #[.int .u64 (a:Int),.int .u64 (oH a),.int .u64 (oXI a),.int .u64 (oD a),.slice A3 m3 c3] 156)) (Nat.le_refl _))
    have HRow:=Lib.hid (show rowOf (w3.alloc (.cells #[.int .u64 (a:Int),.int .u64 (oH a),.int .u64 (oXI a),.int .u64 (oD a),.slice A3 m3 c3] 156)) lb≠some w3.heap.size from fun e=>by
     rw[rowOf_block (B4.out.block lb HB2.out.l)]at e
     have h1:=(HM2.out.row _ e).2.2.2.2
     have h2:=Bb3.out.size
     omega)
    have HGl:=Lib.hid (show w3.heap.size≠lb from by have:=HB2.out.l;have:=Bb3.out.size;omega)
    clear HJ2 HM2 HB2 B4 Bb3 Y3 kv ka kr
    generalize (w3.alloc (.cells #[.int .u64 (a:Int),.int .u64 (oH a),.int .u64 (oXI a),.int .u64 (oD a),.slice A3 m3 c3] 156))=w4 at*
    generalize w3.heap.size=g3 at*
    have k0:=R4.out.cell (i:=0) rfl;have k1:=R4.out.cell (i:=1) rfl;have k2:=R4.out.cell (i:=2) rfl;have k3:=R4.out.cell (i:=3) rfl;have k4:=R4.out.cell (i:=4) rfl
    have hSp: ∃rest,yk E ri oC oX (E+2) a0 none=(pre++ [(⟨a,oH a,oXI a,oD a,A3,m3,c3,oC a⟩:LkE)]).map LkE.pl++rest:=by
     rw[HYL.out]
     by_cases hcd:oC a≠0
     ·rw[if_pos hcd]at hS3
      exact⟨[],by rw[List.append_nil,List.map_append];exact hS3⟩
     ·rw[if_neg hcd]at hS3
      have hcd0:oC a=0:=by simpa using hcd
      exact⟨_,by rw[hcd0,List.map_append,List.append_assoc];exact hS3⟩
    obtain⟨fn,tmps,assign,body,hy,hR4⟩:=hY pre ⟨a,oH a,oXI a,oD a,A3,m3,c3,oC a⟩ w4 (fun _=>⟨rfl,rfl,Y4.out,L3.out⟩) hSp HJ4.out
    clear hSp
    have hy2:=hy
    unfold encK linkV at hy2
    dsimp only at hy2
    clear hy
    by_cases hcd:oC a≠0
    ·rw[if_pos hcd]at hS3
     have HS:=Lib.hid hS3
     have dcd:(oC a !=0)=true:=by simpa using hcd
     have dcd2:decide (oC a=0)=false:=by simpa using hcd
     have hpl:LkE.pl ⟨a,oH a,oXI a,oD a,A3,m3,c3,oC a⟩=(a,oC a):=rfl
     clear hS3
     gi_wp2
     refine hR4.mono ?_
     rintro e W3 (⟨rfl,hJ3,hk3⟩|⟨rfl,hJx3⟩)
     ·gi_wp2
      refine bodyPost_ret (results_none rfl _ _ _) rfl ?_
      exact⟨⟨_,rfl⟩,.inl ⟨_,(by rw[List.map_append];exact HS.out.symm.trans HYL.out.symm),hJ3⟩⟩
     ·gi_wp2
      refine bodyPost_ret (results_none rfl _ _ _) rfl ?_
      exact⟨⟨_,rfl⟩,.inr ⟨_,⟨[],by rw[List.append_nil,HYL.out,List.map_append];exact HS.out⟩,hJx3⟩⟩
    ·rw[if_neg hcd]at hS3
     have hcd0:oC a=0:=by simpa using hcd
     have HS:=Lib.hid hS3
     rw[hcd0]at hy2 hR4
     clear hS3 hcd
     gi_wp2
     refine hR4.mono ?_
     rintro e W3 (⟨rfl,hJ3,hk3⟩|⟨rfl,hJx3⟩)
     ·have M5:=Lib.hid (HM4.out.kp hk3 HB4.out)
      have X5:=Lib.hid (HB4.out.size hk3.below.size)
      have R5:=Lib.hid (hk3.blk R4.out HGl.out HRow.out)
      have J5:=Lib.hid hJ3
      clear hJ3 hk3 k0 k1 k2 k3 k4 R4 HJ4 HM4 HB4 hR4 hy2
      have k2:=R5.out.cell (i:=2) rfl
      have ka:=M5.out.at_.cell (i:=0) rfl
      have kf:=M5.out.at_.frozen 0
      rw[(HX.out a).1]at k2
      gi_upto_region 7 with fail
      gi_region
      all_goals
       gi_wp2
       obtain⟨mt,kS⟩:=M5.out.turn X5.out (oX a)
       go_roundw
       case rel=>exact⟨oX a,some a,a,f,pre++ [⟨a,oH a,oXI a,oD a,A3,m3,c3,0⟩],rfl,rfl,Lib.hid (fun x e=>by injection e with e;subst e;exact⟨rfl,HAN.out.2⟩),Lib.hid (HJb.out _ _ _ J5.out kS),Lib.hid (by rw[HS.out,List.map_append,List.append_assoc];rfl),Lib.hid (enough_next hF.out hnb HAN.out.2),Lib.hid (HX.out a).2,Lib.hid mt,Lib.hid (X5.out.size kS.size)⟩
       case measure=>rw[Option.isNone_some,rk_some,rk_some];have:=HAN.out.2;unfold badW at hnb;cases ri<;>simp at hnb⊢ <;>omega
     ·gi_wp2
      refine bodyPost_ret (results_none rfl _ _ _) rfl ?_
      exact⟨⟨_,rfl⟩,.inr ⟨_,⟨yk E ri oC oX f (oX a) (some a),by rw[HYL.out,HS.out,List.map_append,List.append_assoc];rfl⟩,hJx3⟩⟩
end Xd
namespace Xe
open Go.ChangeShapes Go.WideShapes Go.ChangeAt Go.RowKit Go.Shelf
open Bytes8 Blk8 Kf Own8 OwnE Ga Gb Ok7 Xd
open Wf (rowOf rowOf_block KpL KpL.put)
open Xa (SeqOwn range_own)
attribute [local go_sem] Oper.semAt_some
structure Clo (w0:World)(gv Bv Ba Bw Br rf:Nat)(way:Int)(a:Nat)(W:World):Prop where
 bel:Below w0.heap.size w0 W
 v:W.cell? ⟨Bv,0,none⟩=some (.pointer (some ⟨gv,0,none⟩))
 at_:Blk W Ba [.int .u64 (a:Int)] 40
 wy:W.cell? ⟨Bw,0,none⟩=some (.int .i64 way)
 rd:W.cell? ⟨Br,0,none⟩=some (.func (.func rf) #[] #[])
 va:Bv≠Ba
 wa:Bw≠Ba
 ra:Br≠Ba
 vl:Bv<W.heap.size
 wl:Bw<W.heap.size
 rl:Br<W.heap.size
 b0:w0.heap.size≤Ba
theorem kpl_alloc {B0 lb:Nat}{W:World}(o:Obj)(h1:lb<W.heap.size)(h2:B0≤W.heap.size):KpL B0 lb W (W.alloc o):=by
 have k:=(Below.refl W.heap.size W).alloc (Nat.le_refl _) o
 exact⟨k.mono h2,fun b o1 q1 _ _ _=>(k.block b (Array.getElem?_eq_some_iff.1 q1).1).trans q1,fun j hj=> .inl (by rw[←hj];exact(rowOf_block (k.block lb h1)).symm)⟩
attribute [local irreducible] HD.cells wpList Code.wp
end Xe
end Go.Proofs.YtjecmgkmcfkcjaaGreat
