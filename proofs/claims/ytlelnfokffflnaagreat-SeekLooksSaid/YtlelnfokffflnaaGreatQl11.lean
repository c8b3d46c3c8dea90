/-
  Texts beneath the proof.
-/
import Derived.Test.YtlelnfokffflnaaGreatQl10
set_option linter.unusedVariables false
set_option linter.unusedSimpArgs false
set_option maxRecDepth 100000
set_option maxHeartbeats 8000000
open Go.ChangeShapes Go.WideShapes Go.ChangeAt Go.RowKit
namespace Go.Proofs.YtlelnfokffflnaaGreat
namespace Gq
open Bytes8 Blk8 Own8 OwnE LeA RefA Ob Oc Ga Gb Gi Gj Gp
def stR (p v:Value):Sem Unit:=Instr.storeAt 99 p v
theorem st_fold (p v:Value):Instr.storeAt 99 p v=stR p v:=rfl
def bldR (parts:Array (Nat×Value)):Sem Value:=Instr.build 99 parts
theorem bld_fold (b:Array (Nat×Value)):Instr.build 99 b=bldR b:=rfl
theorem aAc (h:HD):(Tryz.prog.info? 99).map (·.size)=some (h.cells 20).toArray.size:=by rw[aEx];simp[HD.len]
theorem aBu (h:HD):(Tryz.prog.info? 99).map (·.size)=some (h.cells 20).length:=by rw[aEx];simp[HD.len]
theorem aAk {h:HD}:Tryz.zeroCells99.size=(h.cells 20).toArray.size:=by rw[show Tryz.zeroCells99.size=90 by kernel_rfl];simp[HD.len]
theorem store_head (w:World)(g:Nat)(old b:Array Value)(h:w.heap[g]? =some (.cells old 99 (0,0)))(d:old.size=b.size)(f:(Tryz.prog.info? 99).map (·.size)=some b.size)(c:b.all (·.oneCell')=true):
 (stR (.pointer (some ⟨g,0,none⟩)) (.agg b)).run Tryz.prog w= .ok () (w.setRow g b):=by
 unfold stR
 simp only[Instr.storeAt,Instr.sureAddr,Sem.run_bind,Sem.run_pure,Result.andThen_ok]
 exact run_storeVar_row w g 99 99 old b h f d c
theorem aKb (h:HD)(st:Int):Tryz.prog.built 99 [(2,.int .i64 st),(3,.agg (idc h 0).toArray),(4,.agg (idc h 1).toArray),(5,.agg (idc h 2).toArray),(6,.agg (idc h 3).toArray)]=some ((⟨0,0,st,h.I,fun _=>0,0,0,0⟩:HD).cells 20).toArray:=by kernel_rfl
theorem build_head (w:World)(h:HD)(st:Int):(bldR #[(2,.int .i64 st),(3,.agg (idc h 0).toArray),(4,.agg (idc h 1).toArray),(5,.agg (idc h 2).toArray),(6,.agg (idc h 3).toArray)]).run Tryz.prog w= .ok (.agg ((⟨0,0,st,h.I,fun _=>0,0,0,0⟩:HD).cells 20).toArray) w:=by
 unfold bldR
 exact run_build w _ _ _ (aKb h st)
theorem lt_of_heap {w:World}{g:Nat}{o:Obj}(h:w.heap[g]? =some o):g<w.heap.size:=(Array.getElem?_eq_some_iff.1 h).1
attribute [local irreducible] HD.cells idc wpList Code.wp
attribute [local go_sem ↓] st_fold bld_fold
def Raw1 (bb off:Nat)(s16:Int)(cs:List Value)(w1 W:World)(g:Nat):Prop:=Blk (W.setRow g cs.toArray) g cs 99∧Below w1.heap.size w1 (W.setRow g cs.toArray)∧(W.setRow g cs.toArray).cell? ⟨bb,off+16,none⟩=some (.int .u8 s16)
theorem aOt (A:Option Addr)(l:List Int)(n c:Nat)(w:World)(hb:Bytes w A l)(hL:l.length=n)(cH:272≤n)(hn:n≤1000000):
 Calls Tryz.prog 149 #[.slice A n c] w fun e w'=>e= .returned (.tuple #[.agg ((hdOf l).cells 20).toArray,.int .u64 (Ob.u8 l 248)])∧Below w.heap.size w w':=by
 have aK:=yH fun(W:World) (hW:Bytes W A l)=>show Calls Tryz.prog 197 #[.slice A n c,.int .i64 24] W fun e w'=>e= .returned (.agg (idc (hdOf l) 0).toArray)∧Below W.heap.size W w' by
  rw[←aDB l 0]
  exact aE9 A l n c 24 W hW hL hn (by omega)
 have ap:=yH fun(W:World) (hW:Bytes W A l)=>show Calls Tryz.prog 197 #[.slice A n c,.int .i64 40] W fun e w'=>e= .returned (.agg (idc (hdOf l) 1).toArray)∧Below W.heap.size W w' by
  rw[←aDB l 1]
  exact aE9 A l n c 40 W hW hL hn (by omega)
 have F:=yH fun(W:World) (hW:Bytes W A l)=>show Calls Tryz.prog 197 #[.slice A n c,.int .i64 56] W fun e w'=>e= .returned (.agg (idc (hdOf l) 2).toArray)∧Below W.heap.size W w' by
  rw[←aDB l 2]
  exact aE9 A l n c 56 W hW hL hn (by omega)
 have B:=yH fun(W:World) (hW:Bytes W A l)=>show Calls Tryz.prog 197 #[.slice A n c,.int .i64 72] W fun e w'=>e= .returned (.agg (idc (hdOf l) 3).toArray)∧Below W.heap.size W w' by
  rw[←aDB l 3]
  exact aE9 A l n c 72 W hW hL hn (by omega)
 have cx:=hb.1.at_ 16
 have ce:IntKind.i64.wrap (l.getD 16 0)=l.getD 16 0:=by rw[IntKind.wrap_i64];omega
 obtain⟨y,b,rfl,a8,au⟩:=hb.spot (by omega)
 have t:=yH hb
 have aJ:=yH (au 16 (by omega))
 have bd:=yH a8
 clear au a8
 go_enter Tryz.func149,Tryz.ntmps149
 go_upto_region 1 with fail
 have r:=yH ((Below.refl w.heap.size w).alloc (yR _) (.cells Tryz.zeroCells99 99))
 have Z1:=yH (heap_alloc_new w (.cells Tryz.zeroCells99 99))
 have s1:=yH (show(w.alloc (.cells Tryz.zeroCells99 99)).heap.size=w.heap.size+1 by simp)
 generalize w.alloc (.cells Tryz.zeroCells99 99)=w1 at*
 have ay:(hdOf l).st=l.getD 16 0:=rfl
 generalize l.getD 16 0=q at*
 have bU:=yH ay
 clear ay cx
 have bw:=yH (yL bd.out r.out.size)
 have u:=yH fun(W:World) (hW:Below w1.heap.size w1 W)=>show W.cell? ⟨y,b+16,none⟩=some (.int .u8 q)from(hW.cell (p:=⟨y,b+16,none⟩) bw.out).trans ((r.out.cell (p:=⟨y,b+16,none⟩) bd.out).trans aJ.out)
 have m:=yH fun(W:World) (g:Nat) (hg:w1.heap.size≤g) (hZ:W.heap[g]? =some (.cells Tryz.zeroCells99 99 (0,0)))=>store_head W g _ ((⟨0,0,q,(hdOf l).I,fun _=>0,0,0,0⟩:HD).cells 20).toArray hZ aAk (aAc _) (HD.one _ 20)
 have f:=yH fun(W:World) (g:Nat) (hg:w1.heap.size≤g) (hW:Below w1.heap.size w1 W) (hZ:W.heap[g]? =some (.cells Tryz.zeroCells99 99 (0,0)))=>show Raw1 y b q ((⟨0,0,q,(hdOf l).I,fun _=>0,0,0,0⟩:HD).cells 20) w1 W g from⟨setRow_heap _ _ _ _ _ (0,0) hZ,below_setRow hW hg _,u.out _ (below_setRow hW hg _)⟩
 have bi:=fun W:World=>build_head W (hdOf l) q
 have dc:(16:Int)<(n:Int):=by omega
 have bN:=yH (show Bytes w1.drew (some ⟨y,b,none⟩) l from(t.out.below r.out (yR _)).drew)
 have aR:=yH (show Below w1.heap.size w1 w1.drew from(Below.refl w1.heap.size w1).drew)
 have aq:=yH (show Below w1.heap.size w1 (w1.alloc (.cells Tryz.zeroCells99 99)).drew from((Below.refl w1.heap.size w1).alloc (yR _) _).drew)
 have bn:=yH (show Bytes (w1.alloc (.cells Tryz.zeroCells99 99)).drew (some ⟨y,b,none⟩) l from(t.out.below r.out (yR _)).below aq.out (yR _))
 have aM:=yH (show(w1.alloc (.cells Tryz.zeroCells99 99)).drew.heap[w1.heap.size]? =some (.cells Tryz.zeroCells99 99 (0,0))from heap_alloc_new w1 _)
 have bk:=u.out _ aR.out
 have bM:=u.out _ aq.out
 have cB:=m.out _ w1.heap.size (yR _) aM.out
 have aT:=yH (f.out _ w1.heap.size (yR _) aq.out aM.out)
 have bF:=aT.out.2.2
 go_cut [4]from 14 to 27 (fun z wx=> ∃g,z= .pointer (some ⟨g,0,none⟩)∧Blk wx g ((⟨0,0,q,(hdOf l).I,fun _=>0,0,0,0⟩:HD).cells 20) 99∧Below w1.heap.size w1 wx∧Hid (w1.heap.size≤g))
 case first=>
  go_region_held3 (fun W=>W.cell? ⟨y,b+16,none⟩=some (.int .u8 q)) (first|(with_reducible exact bk)|(with_reducible exact bM)|(with_reducible exact bF)|(with_reducible exact cj)|(with_reducible exact b0)|(with_reducible exact bR)|(with_reducible exact bA)|(with_reducible exact bz)|(with_reducible exact ca)|(with_reducible exact bZ)|(with_reducible exact bs)|(with_reducible exact bx)|(with_reducible exact bo)|(with_reducible exact b4)|(with_reducible exact bg)|(with_reducible exact cA)|(with_reducible exact b5)|(with_reducible exact bv)|(with_reducible exact bp)|(with_reducible exact br)|(with_reducible exact bY)|(with_reducible exact bC)|(with_reducible exact bh)|(with_reducible exact b2)|(with_reducible exact cn)|(with_reducible exact b6)|(with_reducible exact bl)|(with_reducible exact bu)|(with_reducible exact bQ)|(with_reducible exact b7)|(with_reducible exact bX)|(with_reducible exact bq)|(with_reducible exact bL)|(with_reducible exact bJ)|(with_reducible exact bP)|go_keep) (first
   |(go_simp;go_at_call 197;(with_reducible refine(aK.out _ bN.out).mono ?_);rintro e n1 ⟨rfl,a6⟩;have d:=yH (aR.out.trans (a6.mono aR.out.size));have cz:=yH ((t.out.below r.out (yR _)).below d.out (yR _));have cj:=u.out _ d.out;have G:=yH (show Below w1.heap.size w1 (n1.alloc (.cells Tryz.zeroCells99 99))from d.out.alloc d.out.size _);have bf:=yH ((t.out.below r.out (yR _)).below G.out (yR _));have b0:=u.out _ G.out;have aj:=yH (show(n1.alloc (.cells Tryz.zeroCells99 99)).heap[n1.heap.size]? =some (.cells Tryz.zeroCells99 99 (0,0))from heap_alloc_new n1 _);have cP:=m.out _ _ d.out.size aj.out;have aC:=yH (f.out _ _ d.out.size G.out aj.out);have bR:=aC.out.2.2;clear a6)
   |(go_simp;go_at_call 197;(with_reducible refine(aK.out _ bn.out).mono ?_);rintro e cW ⟨rfl,ac⟩;have J:=yH (aq.out.trans (ac.mono aq.out.size));have bI:=yH ((t.out.below r.out (yR _)).below J.out (yR _));have bA:=u.out _ J.out;have al:=yH ((ac.block _ (lt_of_heap aM.out)).trans aM.out);have c3:=m.out _ _ (yR _) al.out;have aA:=yH (f.out _ _ (yR _) J.out al.out);have bz:=aA.out.2.2;clear ac)
   |(go_simp;go_at_call 197;(with_reducible refine(ap.out _ cz.out).mono ?_);rintro e n2 ⟨rfl,a5⟩;have o:=yH (d.out.trans (a5.mono d.out.size));have cq:=yH ((t.out.below r.out (yR _)).below o.out (yR _));have ca:=u.out _ o.out;have E:=yH (show Below w1.heap.size w1 (n2.alloc (.cells Tryz.zeroCells99 99))from o.out.alloc o.out.size _);have bK:=yH ((t.out.below r.out (yR _)).below E.out (yR _));have bZ:=u.out _ E.out;have ak:=yH (show(n2.alloc (.cells Tryz.zeroCells99 99)).heap[n2.heap.size]? =some (.cells Tryz.zeroCells99 99 (0,0))from heap_alloc_new n2 _);have cZ:=m.out _ _ o.out.size ak.out;have aH:=yH (f.out _ _ o.out.size E.out ak.out);have bs:=aH.out.2.2;clear a5)
   |(go_simp;go_at_call 197;(with_reducible refine(ap.out _ bf.out).mono ?_);rintro e cK ⟨rfl,ab⟩;have L:=yH (G.out.trans (ab.mono G.out.size));have bO:=yH ((t.out.below r.out (yR _)).below L.out (yR _));have bx:=u.out _ L.out;have ag:=yH ((ab.block _ (lt_of_heap aj.out)).trans aj.out);have cE:=m.out _ _ (d.out.size) ag.out;have aF:=yH (f.out _ _ (d.out.size) L.out ag.out);have bo:=aF.out.2.2;clear ab)
   |(go_simp;go_at_call 197;(with_reducible refine(ap.out _ bI.out).mono ?_);rintro e cG ⟨rfl,ad⟩;have M:=yH (J.out.trans (ad.mono J.out.size));have bG:=yH ((t.out.below r.out (yR _)).below M.out (yR _));have b4:=u.out _ M.out;have an:=yH ((ad.block _ (lt_of_heap al.out)).trans al.out);have cQ:=m.out _ _ (yR _) an.out;have aB:=yH (f.out _ _ (yR _) M.out an.out);have bg:=aB.out.2.2;clear ad)
   |(go_simp;go_at_call 197;(with_reducible refine(F.out _ cq.out).mono ?_);rintro e n3 ⟨rfl,a4⟩;have s:=yH (o.out.trans (a4.mono o.out.size));have cl:=yH ((t.out.below r.out (yR _)).below s.out (yR _));have cA:=u.out _ s.out;have N:=yH (show Below w1.heap.size w1 (n3.alloc (.cells Tryz.zeroCells99 99))from s.out.alloc s.out.size _);have bB:=yH ((t.out.below r.out (yR _)).below N.out (yR _));have b5:=u.out _ N.out;have am:=yH (show(n3.alloc (.cells Tryz.zeroCells99 99)).heap[n3.heap.size]? =some (.cells Tryz.zeroCells99 99 (0,0))from heap_alloc_new n3 _);have cN:=m.out _ _ s.out.size am.out;have aD:=yH (f.out _ _ s.out.size N.out am.out);have bv:=aD.out.2.2;clear a4)
   |(go_simp;go_at_call 197;(with_reducible refine(F.out _ bK.out).mono ?_);rintro e c0 ⟨rfl,V⟩;have D:=yH (E.out.trans (V.mono E.out.size));have bE:=yH ((t.out.below r.out (yR _)).below D.out (yR _));have bp:=u.out _ D.out;have ah:=yH ((V.block _ (lt_of_heap ak.out)).trans ak.out);have cX:=m.out _ _ (o.out.size) ah.out;have aw:=yH (f.out _ _ (o.out.size) D.out ah.out);have br:=aw.out.2.2;clear V)
   |(go_simp;go_at_call 197;(with_reducible refine(F.out _ bG.out).mono ?_);rintro e cV ⟨rfl,Z⟩;have C:=yH (M.out.trans (Z.mono M.out.size));have bV:=yH ((t.out.below r.out (yR _)).below C.out (yR _));have bY:=u.out _ C.out;have ai:=yH ((Z.block _ (lt_of_heap an.out)).trans an.out);have cY:=m.out _ _ (yR _) ai.out;have aO:=yH (f.out _ _ (yR _) C.out ai.out);have bC:=aO.out.2.2;clear Z)
   |(go_simp;go_at_call 197;(with_reducible refine(F.out _ bO.out).mono ?_);rintro e cI ⟨rfl,af⟩;have H:=yH (L.out.trans (af.mono L.out.size));have bS:=yH ((t.out.below r.out (yR _)).below H.out (yR _));have bh:=u.out _ H.out;have ao:=yH ((af.block _ (lt_of_heap ag.out)).trans ag.out);have c4:=m.out _ _ (d.out.size) ao.out;have aP:=yH (f.out _ _ (d.out.size) H.out ao.out);have b2:=aP.out.2.2;clear af)
   |(go_simp;go_at_call 197;(with_reducible refine(B.out _ cl.out).mono ?_);rintro e n4 ⟨rfl,aU⟩;have Y:=yH (s.out.trans (aU.mono s.out.size));have da:=yH ((t.out.below r.out (yR _)).below Y.out (yR _));have cn:=u.out _ Y.out;have az:=yH (show Below w1.heap.size w1 (n4.alloc (.cells Tryz.zeroCells99 99))from Y.out.alloc Y.out.size _);have c1:=yH ((t.out.below r.out (yR _)).below az.out (yR _));have b6:=u.out _ az.out;have a9:=yH (show(n4.alloc (.cells Tryz.zeroCells99 99)).heap[n4.heap.size]? =some (.cells Tryz.zeroCells99 99 (0,0))from heap_alloc_new n4 _);have cO:=m.out _ _ Y.out.size a9.out;have aQ:=yH (f.out _ _ Y.out.size az.out a9.out);have bl:=aQ.out.2.2;clear aU)
   |(go_simp;go_at_call 197;(with_reducible refine(B.out _ bB.out).mono ?_);rintro e cM ⟨rfl,X⟩;have ax:=yH (N.out.trans (X.mono N.out.size));have cF:=yH ((t.out.below r.out (yR _)).below ax.out (yR _));have bu:=u.out _ ax.out;have a7:=yH ((X.block _ (lt_of_heap am.out)).trans am.out);have cR:=m.out _ _ (s.out.size) a7.out;have aE:=yH (f.out _ _ (s.out.size) ax.out a7.out);have bQ:=aE.out.2.2;clear X)
   |(go_simp;go_at_call 197;(with_reducible refine(B.out _ bV.out).mono ?_);rintro e cL ⟨rfl,ae⟩;have av:=yH (C.out.trans (ae.mono C.out.size));have cC:=yH ((t.out.below r.out (yR _)).below av.out (yR _));have b7:=u.out _ av.out;have a0:=yH ((ae.block _ (lt_of_heap ai.out)).trans ai.out);have c5:=m.out _ _ (yR _) a0.out;have aG:=yH (f.out _ _ (yR _) av.out a0.out);have bX:=aG.out.2.2;clear ae)
   |(go_simp;go_at_call 197;(with_reducible refine(B.out _ bS.out).mono ?_);rintro e cU ⟨rfl,R⟩;have aI:=yH (H.out.trans (R.mono H.out.size));have cT:=yH ((t.out.below r.out (yR _)).below aI.out (yR _));have bq:=u.out _ aI.out;have aW:=yH ((R.block _ (lt_of_heap ao.out)).trans ao.out);have cJ:=m.out _ _ (d.out.size) aW.out;have aN:=yH (f.out _ _ (d.out.size) aI.out aW.out);have bL:=aN.out.2.2;clear R)
   |(go_simp;go_at_call 197;(with_reducible refine(B.out _ bE.out).mono ?_);rintro e c2 ⟨rfl,aa⟩;have aL:=yH (D.out.trans (aa.mono D.out.size));have c8:=yH ((t.out.below r.out (yR _)).below aL.out (yR _));have bJ:=u.out _ aL.out;have a2:=yH ((aa.block _ (lt_of_heap ah.out)).trans ah.out);have cS:=m.out _ _ (o.out.size) a2.out;have ar:=yH (f.out _ _ (o.out.size) aL.out a2.out);have bP:=ar.out.2.2;clear aa)
   |fail)
  all_goals
   go_wp2_with fail
   go_meet
   case rel=>first|exact⟨_,rfl,ar.out.1,ar.out.2.1,yH (o.out.size)⟩|exact⟨_,rfl,aN.out.1,aN.out.2.1,yH (d.out.size)⟩|exact⟨_,rfl,aG.out.1,aG.out.2.1,yH (yR _)⟩|exact⟨_,rfl,aE.out.1,aE.out.2.1,yH (s.out.size)⟩|exact⟨_,rfl,aQ.out.1,aQ.out.2.1,yH (Y.out.size)⟩|exact⟨_,rfl,aP.out.1,aP.out.2.1,yH (d.out.size)⟩|exact⟨_,rfl,aO.out.1,aO.out.2.1,yH (yR _)⟩|exact⟨_,rfl,aw.out.1,aw.out.2.1,yH (o.out.size)⟩|exact⟨_,rfl,aD.out.1,aD.out.2.1,yH (s.out.size)⟩|exact⟨_,rfl,aB.out.1,aB.out.2.1,yH (yR _)⟩|exact⟨_,rfl,aF.out.1,aF.out.2.1,yH (d.out.size)⟩|exact⟨_,rfl,aH.out.1,aH.out.2.1,yH (o.out.size)⟩|exact⟨_,rfl,aA.out.1,aA.out.2.1,yH (yR _)⟩|exact⟨_,rfl,aC.out.1,aC.out.2.1,yH (d.out.size)⟩|exact⟨_,rfl,aT.out.1,aT.out.2.1,yH (yR _)⟩
 case rest=>
  obtain⟨g,rfl,hR,hB,hg⟩:=hcut
  have R2:=yH hR
  have B2:=yH hB
  have G4:=yH fun(p:Nat) (hp:p+4≤n) (W:World) (hW:Bytes W (some ⟨y,b,none⟩) l)=>show Calls Tryz.prog 133 #[.slice (some ⟨y,b,none⟩) n c,.int .i64 (p:Int),.int .i64 4] W fun e w'=>e= .returned (.tuple #[.int .u64 (u4 l p),.bool true])∧W=w' by
   subst hL
   exact aIH _ l c p 4 W (by omega) (by unfold fits isW;simp;omega) hW
  have ba:=yH ((t.out.below r.out (yR _)).below hB (yR _))
  have bc:=yH (t.out.below r.out (yR _))
  clear hR hB aK ap F B u m f bi ce bN aR aq bn aM bk bM cB aT bF aJ
  have bj:=yH (show Calls Tryz.prog 133 #[.slice (some ⟨y,b,none⟩) n c,.int .i64 8,.int .i64 4] wc _ from G4.out 8 (by omega) wc ba.out)
  have a1:=yH (show Calls Tryz.prog 133 #[.slice (some ⟨y,b,none⟩) n c,.int .i64 12,.int .i64 4] wc _ from G4.out 12 (by omega) wc ba.out)
  have U8:=aDz hb.1 8
  have db:=aDz hb.1 12
  have x0:wc.cell? ⟨g,0,none⟩=some (.int .u32 0):=R2.out.cell (HD.get _ 20 0 (by decide))
  have x1:wc.cell? ⟨g,1,none⟩=some (.int .u32 0):=R2.out.cell (HD.get _ 20 1 (by decide))
  have f0:=R2.out.frozen 0
  have f1:=R2.out.frozen 1
  have bT:=yH (show((((⟨0,0,q,(hdOf l).I,fun _=>0,0,0,0⟩:HD).cells 20).set 0 (.int .u32 (u4 l 8))).set 1 (.int .u32 (u4 l 12)))=((⟨u4 l 8,u4 l 12,q,(hdOf l).I,fun _=>0,0,0,0⟩:HD).cells 20)by
   rw[aPE _ 20 0 _ rfl,set_ic _ 20 1 _ rfl])
  generalize bH:u4 l 8=cp at*
  generalize aZ:u4 l 12=ic at*
  have ct:=yH bH
  have cb:=yH aZ
  clear bH aZ
  go_upto_region 5 with(first
   |(go_at_call 133;((with_reducible refine bj.out.mono ?_);rintro e w' ⟨rfl,rfl⟩))
   |(go_at_call 133;((with_reducible refine a1.out.mono ?_);rintro e w' ⟨rfl,rfl⟩))
   |fail)
  have R5:=yH (show Blk ((wc.setCell ⟨g,0,none⟩ (.int .u32 cp)).setCell ⟨g,1,none⟩ (.int .u32 ic)) g ((⟨cp,ic,q,(hdOf l).I,fun _=>0,0,0,0⟩:HD).cells 20) 99 by rw[←bT.out];exact(R2.out.set_ 0 _).set_ 1 _)
  have B5:=yH (show Below w1.heap.size w1 ((wc.setCell ⟨g,0,none⟩ (.int .u32 cp)).setCell ⟨g,1,none⟩ (.int .u32 ic))from(B2.out.setCell hg.out _).setCell hg.out _)
  clear bj a1 x0 x1 f0 f1 bT R2 B2 ba
  generalize (wc.setCell ⟨g,0,none⟩ (.int .u32 cp)).setCell ⟨g,1,none⟩ (.int .u32 ic)=w5 at*
  go_wp2_with fail
  have HS:=yH fun(k:Nat) (hk:k<20)=>show((⟨cp,ic,q,(hdOf l).I,fun i=>if i<k then Ob.u8 l (88+8*i)else 0,0,0,0⟩:HD).cells 20).set (67+k) (.int .u64 (Ob.u8 l (88+8*k)))=((⟨cp,ic,q,(hdOf l).I,fun i=>if i<k+1 then Ob.u8 l (88+8*i)else 0,0,0,0⟩:HD).cells 20)from
   aAO _ _ 20 (67+k) _ (by omega) (by unfold HD.at_;rw[if_neg (by omega),if_neg (by omega),if_pos (by omega),show 67+k-67=k by omega];simp) (fun i hi bW=>by
    unfold HD.at_
    by_cases h3:i<3
    ·rw[if_pos h3,if_pos h3]
    rw[if_neg h3,if_neg h3]
    by_cases h4:i<67
    ·rw[if_pos h4,if_pos h4]
    rw[if_neg h4,if_neg h4]
    by_cases h5:i<67+20
    ·rw[if_pos h5,if_pos h5]
     dsimp only
     by_cases h6:i-67<k
     ·rw[if_pos h6,if_pos (by omega)]
     ·rw[if_neg h6,if_neg (by omega)]
    ·rw[if_neg h5,if_neg h5])
  have HU:=yH fun(k:Nat) (hk:k≤22) (W:World) (hW:Bytes W (some ⟨y,b,none⟩) l)=>show Calls Tryz.prog 94 #[.slice (some ⟨y,b,none⟩) n c,.int .u64 (88+8*(k:Int))] W fun e w'=>e= .returned (.int .u64 (Ob.u8 l (88+8*k)))∧W=w' by
   rw[show(88+8*(k:Int))=((88+8*k:Nat):Int)by omega]
   exact aIJ _ l n c (88+8*k) W hW hL hn (by omega)
  go_loopw [9] (fun i wr=> ∃k:Nat,k≤20∧i= .int .i64 (k:Int)∧Hid (Blk wr g ((⟨cp,ic,q,(hdOf l).I,fun i=>if i<k then Ob.u8 l (88+8*i)else 0,0,0,0⟩:HD).cells 20) 99)∧Hid (Below w1.heap.size w1 wr)) (fun i _=>20-(intOf i).toNat)
  case atStart=>exact⟨0,Nat.zero_le _,rfl,by simpa using R5,B5⟩
  case round=>
   obtain⟨k,hk,rfl,hR,hB⟩:=hrel
   by_cases bm:k<20
   ·have co:=yH (HS.out k bm)
    have cd:=yH (bc.out.below hB.out (yR _))
    have cw:=yH (HU.out k (by omega) wr cd.out)
    have ck:=HD.nums_at hR.out k bm
    have fk:=hR.out.frozen (67+k)
    generalize Ob.u8 l (88+8*k)=x at*
    go_wp2_with(go_at_call 94;((with_reducible refine cw.out.mono ?_);rintro e w' ⟨rfl,rfl⟩))
    go_roundw
    case rel=>exact⟨k+1,by omega,by go_num,yH (by rw[←co.out];exact hR.out.set_ (67+k) _),yH (hB.out.setCell hg.out _)⟩
    case measure=>simp[intOf];omega
   ·obtain rfl:k=20:=by omega
    rename World=>w6
    have aS:=yH (bc.out.below hB.out (yR _))
    have aY:=yH (show Calls Tryz.prog 133 #[.slice (some ⟨y,b,none⟩) n c,.int .i64 256,.int .i64 4] w6 _ from G4.out 256 (by omega) w6 aS.out)
    have a3:=yH (show Calls Tryz.prog 133 #[.slice (some ⟨y,b,none⟩) n c,.int .i64 260,.int .i64 4] w6 _ from G4.out 260 (by omega) w6 aS.out)
    have aV:=yH (show Calls Tryz.prog 94 #[.slice (some ⟨y,b,none⟩) n c,.int .u64 264] w6 _ from HU.out 22 (by decide) w6 aS.out)
    have cD:=aDz hb.1 256
    have c7:=aDz hb.1 260
    have cr:w6.cell? ⟨g,87,none⟩=some (.int .u32 0):=hR.out.cell (HD.get_ta _ 20)
    have ci:w6.cell? ⟨g,88,none⟩=some (.int .u32 0):=hR.out.cell (HD.get_ti _ 20)
    have cu:w6.cell? ⟨g,89,none⟩=some (.int .u64 0):=hR.out.cell (HD.get_te _ 20)
    have cg:=hR.out.frozen 87
    have cf:=hR.out.frozen 88
    have cy:=hR.out.frozen 89
    have aX:=yH (show(((((⟨cp,ic,q,(hdOf l).I,fun i=>if i<20 then Ob.u8 l (88+8*i)else 0,0,0,0⟩:HD).cells 20).set 87 (.int .u32 (u4 l 256))).set 88 (.int .u32 (u4 l 260))).set 89 (.int .u64 (Ob.u8 l (88+8*22))))=(hdOf l).cells 20 by
     rw[set_ta _ 20 87 _ rfl,set_ti _ 20 88 _ rfl,set_te _ 20 89 _ rfl]
     apply aL9
     intro i hi
     unfold HD.at_
     by_cases h3:i<3
     ·rw[if_pos h3,if_pos h3,←ct.out,←cb.out,←bU.out];rfl
     rw[if_neg h3,if_neg h3]
     by_cases h4:i<67
     ·rw[if_pos h4,if_pos h4]
     rw[if_neg h4,if_neg h4]
     by_cases h5:i<67+20
     ·rw[if_pos h5,if_pos h5]
      show Value.int .u64 (if i-67<20 then _ else 0)=_
      rw[if_pos (by omega)];rfl
     rw[if_neg h5,if_neg h5]
     rfl)
    generalize u4 l 256=ta at*
    generalize u4 l 260=ti at*
    generalize Ob.u8 l (88+8*22)=te at*
    clear R5 B5 HS
    go_upto_region 12 with(first
     |(go_at_call 133;((with_reducible refine aY.out.mono ?_);rintro e w' ⟨rfl,rfl⟩))
     |(go_at_call 133;((with_reducible refine a3.out.mono ?_);rintro e w' ⟨rfl,rfl⟩))
     |(go_at_call 94;((with_reducible refine aV.out.mono ?_);rintro e w' ⟨rfl,rfl⟩))
     |fail)
    have R9:=yH (show Blk (((w6.setCell ⟨g,87,none⟩ (.int .u32 ta)).setCell ⟨g,88,none⟩ (.int .u32 ti)).setCell ⟨g,89,none⟩ (.int .u64 te)) g ((hdOf l).cells 20) 99 by rw[←aX.out];exact((hR.out.set_ 87 _).set_ 88 _).set_ 89 _)
    have B9:=yH (show Below w1.heap.size w1 (((w6.setCell ⟨g,87,none⟩ (.int .u32 ta)).setCell ⟨g,88,none⟩ (.int .u32 ti)).setCell ⟨g,89,none⟩ (.int .u64 te))from((hB.out.setCell hg.out _).setCell hg.out _).setCell hg.out _)
    clear cr ci cu cg cf cy aX hR hB aY a3 aV aS
    generalize ((w6.setCell ⟨g,87,none⟩ (.int .u32 ta)).setCell ⟨g,88,none⟩ (.int .u32 ti)).setCell ⟨g,89,none⟩ (.int .u64 te)=w9 at*
    have cs:=yH (bc.out.below B9.out (yR _))
    have b8:=yH (show ∀W:World,Bytes W (some ⟨y,b,none⟩) l→Calls Tryz.prog 94 #[.slice (some ⟨y,b,none⟩) n c,.int .u64 248] W fun e w'=>e= .returned (.int .u64 (Ob.u8 l 248))∧W=w' from fun W hW=>HU.out 20 (by decide) W hW)
    have Z9:=yH ((B9.out.block w.heap.size (by rw[s1.out];exact Nat.lt_succ_self _)).trans Z1.out)
    have c6:=store_head w9.drew w.heap.size _ ((hdOf l).cells 20).toArray Z9.out aAk (aAc _) (HD.one _ 20)
    have bW:g≠w.heap.size:=by have:=hg.out;rw[s1.out]at this;omega
    have q9:=(show World.rangeAt w9.drew g 0 ((hdOf l).cells 20)from fun j v hj=>by rw[Nat.zero_add];exact R9.out.cell hj)
    have ch:=yH (show Below w.heap.size w (w9.drew.setRow w.heap.size ((hdOf l).cells 20).toArray)from below_setRow ((r.out.trans (B9.out.mono (by rw[s1.out];exact Nat.le_succ _))).drew) (yR _) _)
    have cm:=(show World.rangeAt (w9.drew.setRow w.heap.size ((hdOf l).cells 20).toArray) g 0 ((hdOf l).cells 20)from fun j v hj=>by rw[Nat.zero_add,cell_setRow_other _ _ _ _ bW];exact R9.out.cell hj)
    have bt:=yH (show Bytes w9.drew (some ⟨y,b,none⟩) l from cs.out.drew)
    have b9:y≠w.heap.size:=Nat.ne_of_lt bd.out
    have c9:=yH (show Bytes (w9.drew.setRow w.heap.size ((hdOf l).cells 20).toArray) (some ⟨y,b,none⟩) l from⟨hb.1,fun i hi=>by
     obtain⟨b3,o3,e3,h3,h4⟩:=bt.out.2 i hi
     refine⟨b3,o3,e3,by rw[setRow_size];exact h3,?_⟩
     injection e3 with e3
     injection e3 with e3 e4
     subst e3
     rw[cell_setRow_other _ _ _ _ b9]
     exact h4⟩)
    have cc:=yH (show(w9.drew.setRow w.heap.size ((hdOf l).cells 20).toArray).heap[w.heap.size]? =some (.cells ((hdOf l).cells 20).toArray 99 (0,0))from setRow_heap _ w.heap.size _ _ _ (0,0) Z9.out)
    generalize bD:Ob.u8 l 248=dp at*
    have cv:=yH bD
    clear bD
    refine wp_region_noPanic ?_
    refine wp_region_held_drew (S:=fun W:World=>W.rangeAt g 0 ((hdOf l).cells 20)) (by kernel_rfl) (by exact q9) (fun hHeld=>?_)
    refine tk (i:=0) (oi:=⟨some 75,_,_,_,_,_⟩) rfl (yieldsIf_load_mid (by rfl) _ _ rfl _ _ rfl _ _ (fun _ h=>h) Tryz.underlying99 rfl (aBu _)) ?_
    try simp only[Act.put,sA,sZ,sS]
    refine tq 1 76 rfl (fun W hSw=>by go_simp;try (with_reducible rfl)) ?_
    try simp only[Act.put,sA,sZ,sS]
    refine rd 2 rfl (fun K hK=>?_)
    go_simp
    ((with_reducible refine(b8.out _ bt.out).mono ?_);rintro e w' ⟨rfl,rfl⟩)
    try go_wp2_with fail
    refine hK.out _ _ (by exact q9) (fun hHeld=>?_)
    clear hK K
    try simp only[Act.put,sA,sZ,sS]
    refine rd 3 rfl (fun K hK=>?_)
    go_simp
    skip
    try go_wp2_with fail
    refine hK.out _ _ (by exact cm) (fun hHeld=>?_)
    clear hK K
    try simp only[Act.put,sA,sZ,sS]
    refine tq 4 3 rfl (fun W hSw=>by go_simp;try (with_reducible rfl)) ?_
    try simp only[Act.put,sA,sZ,sS]
    refine wpAnyH_done (by kernel_rfl) ?_ _
    refine NoPanic.normal ?_
    go_wp2_with fail
    refine bodyPost_ret (v:= .tuple #[.agg ((hdOf l).cells 20).toArray,.int .u64 dp]) (by exact aAq Tryz.results149 _ _ w.heap.size 99 _ (0,0) _ _ rfl rfl cc.out Tryz.underlying99 rfl (aAc _)) rfl ?_
    exact⟨by rw[cv.out],ch.out⟩
end Gq
namespace Ge
open Bytes8 Blk8 Own8 LeNum RefB Ob Od Oe Ga Gb Ff Rows2
open Gn (ints rnums_in)
theorem aCs {w:World}{g:Array Oper}{rest:List Oper}{o:Oper}{a:Act}{Q:Exit→Act→World→Prop}(A:o.guard=none)(s x:Operand)
 (E:o.op= .call {callee:= .builtin .append,args:= #[s,x],argTypes:= #[24,24]})
 (base:Nat)(c:base≤w.heap.size)(b n:Nat)(l:List Int)(hs:a.eval s= .slice (some ⟨b,0,none⟩) n n)(H:Bytes w (some ⟨b,0,none⟩) l)(f:l.length=n)(G:Option Addr)(m I:Nat)(z:List Int)(R:a.eval x= .slice G m I)(J:Bytes w G z)(d:z.length=m)(aa:0<m)(Y:n+m≤70368744177664)
 (h: ∀A' c' w',Own w' base A' (n+m) c' (l++z)→Below base w w'→wpList Tryz.prog g Q rest (a.put o.dst (.slice A' (n+m) c')) w'):wpList Tryz.prog g Q (o::rest) a w:=by
 obtain⟨i,L,p⟩:=Option.map_eq_some_iff.1 aJ3
 simp only[Prod.mk.injEq]at p
 obtain⟨M,q,F⟩:=p
 obtain⟨V,rfl,k⟩:=J.source w (Below.refl _ _) (by omega)
 have r: ∀j u,(l.map (Value.int .u8))[j]? =some u→w.cell? ((⟨b,0,none⟩:Addr).add j)=some u:=fun j u hu=>by
  rw[List.getElem?_map]at hu
  obtain⟨y,t,rfl⟩:=Option.map_eq_some_iff.1 hu
  obtain⟨Z,D,X⟩:=H.source w (Below.refl _ _) (by have:=(List.getElem?_eq_some_iff.1 t).1;omega)
  injection D with D
  rw[D]
  exact X j y t
 have N:=run_append_grow (P:=Tryz.prog) w 24 o.type 5 i (.int .u8 0) Tryz.underlying24 L M ⟨b,0,none⟩ n n (l.map (Value.int .u8)) (by simp[f,q]) r V m I (z.map (Value.int .u8)) (by simp[d,q])
  (fun j u hu=>by
    rw[List.getElem?_map]at hu
    obtain⟨y,t,rfl⟩:=Option.map_eq_some_iff.1 hu
    exact k j y t) (by omega) (by omega) (growslice_fits (by omega) (by rw[F];omega))
 have C:=grownCap_ge w (n+m) n 5
 have B:grownCap w (n+m) n 5≤maxLen:=grownCap_le_maxLen w (n+m) n 5 (by unfold maxLen;omega)
 refine wpList_plain A fun K hK=>?_
 unfold Oper.wp execOp
 simp only[E,resolve,invoke,builtin,Sem.run_bind,Sem.run_pure,Result.andThen_ok,List.map_toArray,List.map_cons,List.map_nil,hs,R,N]
 refine hK _ _ (h _ _ _ ⟨H.1.app J.1,by rw[List.length_append,f,d],by simp;omega,by simp[f,d],.inr ⟨w.heap.size,_,_,rfl,c,heap_alloc_new w.drew _,C,B,?_,?_⟩⟩ (((Below.refl base w).drew).alloc c _))
 ·simp only[Array.size_append,List.size_toArray,List.length_map,size_zeroCells,Value.cells,f,d]
  simp
  omega
 ·simp only[Array.toList_append,List.map_append]
  rw[List.take_append_of_le_length (by simp[f,d]),List.take_of_length_le (by simp[f,d])]
theorem aMq (v:Int)(c:0≤v)(f:v<256):lowB v 8=[v,0,0,0,0,0,0,0]:=by
 have e: ∀k:Nat,1≤k→v/256^k%256=0:=fun k hk=>by
  have:(256:Int)^k=256*256^(k-1):=by rw[←Int.pow_succ',show k-1+1=k by omega]
  have d:v<256^k:=by
   have g:(0:Int)<256^(k-1):=Int.pow_pos (by decide)
   rw[this];omega
  rw[Int.ediv_eq_zero_of_lt c d];rfl
 have b:v/256^0%256=v:=by simp;omega
 simp only[lowB,show List.range 8=[0,1,2,3,4,5,6,7]from rfl,List.map_cons,List.map_nil,b,e 1 (by decide),e 2 (by decide),e 3 (by decide),e 4 (by decide),e 5 (by decide),e 6 (by decide),e 7 (by decide)]
attribute [local irreducible] HD.cells wpList Code.wp
theorem aJa (h:HD)(j:h.Ok 20)(d:Int)(hd:0≤d∧d≤18446744073709551615)(w:World):
 Calls Tryz.prog 69 #[.agg (h.cells 20).toArray,.int .u64 d] w (Owned ((HD.plus h d).bytes 21) 272 w):=by
 have b0:=yH ((Below.refl w.heap.size w).alloc (yR _) (.cells (h.cells 20).toArray 99))
 have b:=yH (show Blk (w.alloc (.cells (h.cells 20).toArray 99)) w.heap.size (h.cells 20) 99 from Blk.new w _ _)
 have S0:=yH (show(w.alloc (.cells (h.cells 20).toArray 99)).heap.size=w.heap.size+1 by simp)
 go_enter Tryz.func69,Tryz.ntmps69
 go_upto_region 1 with fail
 generalize w.alloc (.cells (h.cells 20).toArray 99)=w0 at*
 have kc:=fun(w:World) (C:Array Value) (n c:Nat)=>Lib.run_convert_bytes_const (P:=Tryz.prog) w 24 5 C n c Tryz.underlying24 Tryz.underlying5
 have M1:=yH (show Bytes (w0.alloc (.cells #[.int .u8 76,.int .u8 80,.int .u8 75,.int .u8 83,.int .u8 72,.int .u8 72,.int .u8 82,.int .u8 72] 5 (8,9))) (some ⟨w0.heap.size,0,none⟩) magicL from aHn magicL aL2 w0 (8,9))
 have a1:=yH ((Below.refl w0.heap.size w0).alloc (yR _) (.cells #[.int .u8 76,.int .u8 80,.int .u8 75,.int .u8 83,.int .u8 72,.int .u8 72,.int .u8 82,.int .u8 72] 5 (8,9)))
 have R1:=yH (b.out.below a1.out b.out.lt)
 have f:=yH b.out.lt
 have L4:=yH fun(v:Int) (h0:0≤v) (h1:v≤4294967295) (W:World)=>aFC v 4 4 W h0 (by omega) (by decide) rfl
 have c0:(w0.alloc (.cells #[.int .u8 76,.int .u8 80,.int .u8 75,.int .u8 83,.int .u8 72,.int .u8 72,.int .u8 82,.int .u8 72] 5 (8,9))).cell? ⟨w.heap.size,0,none⟩=some (.int .u32 h.cp):=R1.out.cell (h.get 20 0 (by decide))
 have Z:=j.cp
 have D1:=yH (show magicL.length=8 from rfl)
 have E4:=yH fun(v:Int)=>aAj v 4
 go_upto_region 2 with(first
  |(go_at_call 123;((with_reducible refine(L4.out _ Z.1 Z.2 _).mono ?_);rintro e w2 ⟨A2,c2,rfl,aR,aU⟩;have O2:=yH aR;have B2:=yH aU;clear aR aU))
  |((with_reducible apply aAb 12);refine aCs rfl (.tmp 7) (.tmp 11) rfl w0.heap.size (Nat.le_trans a1.out.size B2.out.size) w0.heap.size 8 magicL rfl (M1.out.below B2.out (yR _)) D1.out A2 4 c2 _ rfl O2.out.bytes (E4.out _) (by decide) (by decide) ?_;intro A3 c3 w3 af aN;have O3:=yH af;have B3:=yH (a1.out.trans ((B2.out.mono a1.out.size).trans aN));clear af aN))
 have R3:=yH (b.out.below B3.out f.out)
 have c1:w3.cell? ⟨w.heap.size,1,none⟩=some (.int .u32 h.ic):=R3.out.cell (h.get 20 1 (by decide))
 have ad:=j.ic
 clear c0 kc M1 a1 R1 O2 B2 D1
 go_upto_region 3 with(first
  |(go_at_call 123;((with_reducible refine(L4.out _ ad.1 ad.2 _).mono ?_);rintro e w4 ⟨A4,c4,rfl,aV,aB⟩;have O4:=yH aV;have B4:=yH aB;clear aV aB))
  |((with_reducible apply aAb 18);refine aAd rfl (.tmp 13) (.tmp 17) rfl w0.heap.size A3 12 c3 _ rfl (O3.out.kept B4.out (yR _)) A4 4 c4 _ rfl O4.out.bytes (E4.out _) (by decide) ?_;intro A5 c5 w5 aA aC;have O5:=yH aA;have B5:=yH ((B3.out.trans (B4.out.mono B3.out.size)).trans aC);clear aA aC))
 have R5:=yH (b.out.below B5.out f.out)
 have a2:w5.cell? ⟨w.heap.size,2,none⟩=some (.int .i64 h.st):=R5.out.cell (h.get 20 2 (by decide))
 have aW:IntKind.u8.wrap h.st=h.st%256:=by simp[IntKind.wrap,IntKind.signed,IntKind.bits]
 have aa:0≤h.st%256∧h.st%256<256:=by omega
 have X:=yH (show lowB (h.st%256) 8=[h.st%256,0,0,0,0,0,0,0]from aMq _ aa.1 aa.2)
 have aE:=yH (show h.front=magicL++lowB h.cp 4++lowB h.ic 4++lowB (h.st%256) 8 from rfl)
 generalize h.st%256=k at*
 have aK:=yH (show AllB [k,0,0,0,0,0,0,0]by rw[←X.out];exact aH7 _ _)
 have an:=yH (show Bytes (w5.alloc (.cells #[.int .u8 k,.int .u8 0,.int .u8 0,.int .u8 0,.int .u8 0,.int .u8 0,.int .u8 0,.int .u8 0] 5)) (some ⟨w5.heap.size,0,none⟩) [k,0,0,0,0,0,0,0]from(Row.new w5 [k,0,0,0,0,0,0,0]).bytes aK.out)
 clear c1 O3 O4 B4 R3
 go_upto_region 4 with((with_reducible apply aAb 24);refine aAd rfl (.tmp 19) (.tmp 23) rfl w0.heap.size A5 16 c5 _ rfl (O5.out.alloc _) (some ⟨w5.heap.size,0,none⟩) 8 8 _ rfl an.out rfl (by decide) ?_;intro A6 c6 w6 am au;have O6:=yH am;have B6:=yH ((B5.out.alloc B5.out.size _).trans au);clear am au)
 rw[←X.out]at O6
 clear a2 aW aa O5 B5 R5 aK an X
 go_region_held3 (fun W=>True) (first|(with_reducible exact trivial)) (first
  |(refine aAg (o:=⟨some 28,_,_,_,_,_⟩) rfl (.tmp 25) (.tmp 27) rfl w0.heap.size A6 24 c6 _ rfl O6.out.drew (some ⟨w.heap.size,3,none⟩) 16 16 (h.id 0) rfl (HD.id_at (b.out.below B6.out f.out) j 0 (by decide)).drew (h.id_len 0) (by decide) ?_;intro A7 c7 w7 aD aO;have O7:=yH aD;have B7:=yH (B6.out.drew.trans aO);clear aD aO)
  |(refine aAg (o:=⟨some 31,_,_,_,_,_⟩) rfl (.tmp 28) (.tmp 30) rfl w0.heap.size A7 40 c7 _ rfl O7.out (some ⟨w.heap.size,19,none⟩) 16 16 (h.id 1) rfl (HD.id_at (b.out.below B7.out f.out) j 1 (by decide)) (h.id_len 1) (by decide) ?_;intro A8 c8 w8 aH aM;have O8:=yH aH;have B8:=yH (B7.out.trans aM);clear aH aM)
  |(refine aAg (o:=⟨some 34,_,_,_,_,_⟩) rfl (.tmp 31) (.tmp 33) rfl w0.heap.size A8 56 c8 _ rfl O8.out (some ⟨w.heap.size,35,none⟩) 16 16 (h.id 2) rfl (HD.id_at (b.out.below B8.out f.out) j 2 (by decide)) (h.id_len 2) (by decide) ?_;intro A9 c9 w9 ax aS;have O9:=yH ax;have B9:=yH (B8.out.trans aS);clear ax aS)
  |(refine aAg (o:=⟨some 37,_,_,_,_,_⟩) rfl (.tmp 34) (.tmp 36) rfl w0.heap.size A9 72 c9 _ rfl O9.out (some ⟨w.heap.size,51,none⟩) 16 16 (h.id 3) rfl (HD.id_at (b.out.below B9.out f.out) j 3 (by decide)) (h.id_len 3) (by decide) ?_;intro al aw w10 s B;have ak:=yH s;have l:=yH (B9.out.trans B);clear s B))
 have av:=yH (show h.ids 4=h.id 0++h.id 1++h.id 2++h.id 3 by rw[show(4:Nat)=3+1 from rfl,h.ids_succ,show(3:Nat)=2+1 from rfl,h.ids_succ,show(2:Nat)=1+1 from rfl,h.ids_succ,show(1:Nat)=0+1 from rfl,h.ids_succ];rfl)
 have OA:=yH (show Own w10 w0.heap.size al 88 aw (h.front++h.ids 4)by rw[aE.out,av.out];simpa only[List.append_assoc]using ak.out)
 have R:=yH (b.out.below l.out f.out)
 have aj:=yH (show InInts .u64 w10 (some ⟨w.heap.size,67,none⟩) 20 h.N from fun i hi=>⟨w.heap.size,67,rfl,R.out.lt,HD.nums_at R.out i hi,by have:=j.N i;simp[Lit.wf,IntKind.min,IntKind.max,IntKind.signed,IntKind.bits];omega⟩)
 have aF:=yH (rnums_in (some ⟨w.heap.size,67,none⟩) 20 20 h.N w10 aj.out (by decide))
 have aL:=yH fun(W:World) (g:Nat) (hg:W.heap.size=g)=>aLz d W g hd hg
 have J:=yH (show(Ob.nums (ints h.N 20)).length=160 by rw[nums_len,Gn.ints_len])
 have E8:=yH (aAj d 8)
 clear O6 O7 O8 O9 B6 B7 B8 B9 ak Z ad av aE
 go_upto_region 6 with(first
  |(go_at_call 124;((with_reducible refine aF.out.mono ?_);rintro e w11 ⟨X1,x1,rfl,q,D⟩;have aI:=yH q;have ab:=yH D;clear q D))
  |((with_reducible apply aAb 42);refine aAd rfl (.tmp 38) (.tmp 41) rfl w0.heap.size al 88 aw _ rfl (OA.out.kept ab.out (yR _)) X1 160 x1 _ rfl aI.out.bytes J.out (by decide) ?_;intro aY a3 w12 u p;have ag:=yH u;have L:=yH ((l.out.trans (ab.out.mono l.out.size)).trans p);clear u p)
  |(go_at_call 124;((with_reducible refine(aL.out _ _ rfl).mono ?_);rintro e w13 ⟨X2,x2,rfl,F,I⟩;have aG:=yH F;have ac:=yH I;clear F I))
  |((with_reducible apply aAb 46);refine aAd rfl (.tmp 42) (.tmp 45) rfl w0.heap.size aY 248 a3 _ rfl (ag.out.kept ac.out (yR _)) X2 8 x2 _ rfl aG.out.bytes E8.out (by decide) ?_;intro ay aq w14 r x;have ao:=yH r;have Y:=yH ((L.out.trans (ac.out.mono L.out.size)).trans x);clear r x))
 have ap:=yH (show Ob.nums (ints h.N 20)++lowB d 8=Ob.nums ((HD.plus h d).nums 21)by
  rw[←aCD]
  congr 1)
 have OB:=yH (show Own w14 w0.heap.size ay 256 aq (h.front++h.ids 4++Ob.nums ((HD.plus h d).nums 21))by rw[←ap.out,←List.append_assoc];exact ao.out)
 clear aI ag aG ab L ac ao aF aL aj J E8 OA l R ap
 have HC:=yH fun(W:World) (hW:Below w0.heap.size w0 W)=>show W.cell? ⟨w.heap.size,87,none⟩=some (.int .u32 h.ta)∧W.cell? ⟨w.heap.size,88,none⟩=some (.int .u32 h.ti)from⟨(b.out.below hW f.out).cell (h.get_ta 20),(b.out.below hW f.out).cell (h.get_ti 20)⟩
 have aJ:=j.ta
 have aT:=j.ti
 have LA:=yH fun(W:World)=>show Calls Tryz.prog 123 #[.int .u64 (IntKind.u64.wrap h.ta),.int .i64 4] W fun e w'=> ∃A c,e= .returned (.slice A 4 c)∧Own w' W.heap.size A 4 c (lowB h.ta 4)∧Below W.heap.size W w' by
  rw[show IntKind.u64.wrap h.ta=h.ta by rw[IntKind.wrap_u64];omega]
  exact L4.out h.ta aJ.1 aJ.2 W
 have LB:=yH fun(W:World)=>show Calls Tryz.prog 123 #[.int .u64 (IntKind.u64.wrap h.ti),.int .i64 4] W fun e w'=> ∃A c,e= .returned (.slice A 4 c)∧Own w' W.heap.size A 4 c (lowB h.ti 4)∧Below W.heap.size W w' by
  rw[show IntKind.u64.wrap h.ti=h.ti by rw[IntKind.wrap_u64];omega]
  exact L4.out h.ti aT.1 aT.2 W
 have EA:=yH (aAj h.ta 4)
 have EB:=yH (aAj h.ti 4)
 have q0:=HC.out _ Y.out.drew
 have a8:=yH (yR w14.heap.size)
 go_cut [5]from 47 to 58 (fun z wx=> ∃A1 c1,z= .slice A1 264 c1∧Hid (Own wx w0.heap.size A1 264 c1 (h.front++h.ids 4++Ob.nums ((HD.plus h d).nums 21)++lowB h.ta 4++lowB h.ti 4))∧Hid (Below w0.heap.size w0 wx))
 case first=>
  go_region_held3 (fun W=>W.cell? ⟨w.heap.size,87,none⟩=some (.int .u32 h.ta)∧W.cell? ⟨w.heap.size,88,none⟩=some (.int .u32 h.ti)) (first|(with_reducible exact q0)|(with_reducible exact qa)|(with_reducible exact qg)|(with_reducible exact qz)|(with_reducible exact qy)) (first
   |(go_simp;go_at_call 123;(with_reducible refine(LA.out w14.drew).mono ?_);rintro e wa ⟨Aa,ca,rfl,ar,m⟩;have Oa:=yH ar;have Fa:=yH (Y.out.drew.trans (m.mono Y.out.drew.size));have Pa:=yH (OB.out.drew.kept m (yR _));have Sa:=yH m.size;have qa:=HC.out _ Fa.out;clear ar m)
   |(refine aAg (o:=⟨some 52,_,_,_,_,_⟩) rfl (.tmp 47) (.tmp 51) rfl w0.heap.size ay 256 aq _ rfl Pa.out Aa 4 ca _ rfl Oa.out.bytes EA.out (by decide) ?_;intro Ag cg wg ah az;have Og:=yH ah;have Fg:=yH (Fa.out.trans az);have qg:=HC.out _ Fg.out;clear ah az)
   |(go_simp;go_at_call 123;(with_reducible refine(LB.out wg).mono ?_);rintro e wh ⟨Ah,ch,rfl,ae,M⟩;have Oh:=yH ae;have Fh:=yH (Fg.out.trans (M.mono Fg.out.size));have Ph:=yH (Og.out.kept M (yR _));have qz:=HC.out _ Fh.out;clear ae M)
   |(refine aAg (o:=⟨some 57,_,_,_,_,_⟩) rfl (.tmp 52) (.tmp 56) rfl w0.heap.size Ag 260 cg _ rfl Ph.out Ah 4 ch _ rfl Oh.out.bytes EB.out (by decide) ?_;intro Az cz wz aP aQ;have Oz:=yH aP;have Fz:=yH (Fh.out.trans aQ);have qy:=HC.out _ Fz.out;clear aP aQ))
  all_goals
   go_wp2_with fail
   go_meet
   case rel=>exact⟨Az,cz,rfl,Oz,Fz⟩
 case rest=>
  obtain⟨A1,c1,rfl,a7,V⟩:=hcut
  have Rz:=yH (b.out.below V.out f.out)
  have cz:wc.cell? ⟨w.heap.size,89,none⟩=some (.int .u64 h.te):=Rz.out.cell (h.get_te 20)
  have aX:=yH fun(W:World) (g:Nat) (hg:W.heap.size=g)=>aLz h.te W g j.te hg
  have E8:=yH (aAj h.te 8)
  have E:=yH (show(HD.plus h d).bytes 21=h.front++h.ids 4++Ob.nums ((HD.plus h d).nums 21)++lowB h.ta 4++lowB h.ti 4++lowB h.te 8 from rfl)
  clear q0 LA LB HC L4
  go_wp2_with(first
   |(go_at_call 124;((with_reducible refine(aX.out _ _ rfl).mono ?_);rintro e w15 ⟨X3,x3,rfl,G,y⟩;have a0:=yH G;have ai:=yH y;clear G y))
   |((with_reducible apply aAb 63);refine aAd rfl (.tmp 58) (.tmp 62) rfl w0.heap.size A1 264 c1 _ rfl (a7.out.kept ai.out (yR _)) X3 8 x3 _ rfl a0.out.bytes E8.out (by decide) ?_;intro aZ a6 w16 t H;have a5:=yH t;have a4:=yH ((V.out.trans (ai.out.mono V.out.size)).trans H);clear t H))
  go_ret
  exact⟨aZ,a6,rfl,by rw[E.out];exact Od.Own.base (b2:=w.heap.size) a5.out (Nat.le_of_lt f.out),b0.out.trans (a4.out.mono (Nat.le_of_lt f.out))⟩
end Ge
end Go.Proofs.YtlelnfokffflnaaGreat
