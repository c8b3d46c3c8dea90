/-
  Texts beneath the proof.
-/
import Derived.Test.YtlelnfokffflnaaGreatQl10
set_option linter.unusedVariables false
set_option linter.unusedSimpArgs false
set_option maxRecDepth 100000
set_option maxHeartbeats 8000000
open Go.ChangeShapes Go.WideShapes Go.ChangeAt Go.RowKit
namespace Go.Proofs.YtlelnfokffflnaaGreat
namespace Gq
open Bytes8 Blk8 Own8 OwnE LeA RefA Ob Oc Ga Gb Gi Gj Gp
def stR (p v:Value):Sem Unit:=Instr.storeAt 99 p v
theorem st_fold (p v:Value):Instr.storeAt 99 p v=stR p v:=rfl
def bldR (parts:Array (Nat×Value)):Sem Value:=Instr.build 99 parts
theorem bld_fold (a:Array (Nat×Value)):Instr.build 99 a=bldR a:=rfl
theorem aAc (h:HD):(Tryz.prog.info? 99).map (·.size)=some (h.cells 20).toArray.size:=by rw[aEx];simp[HD.len]
theorem aBu (h:HD):(Tryz.prog.info? 99).map (·.size)=some (h.cells 20).length:=by rw[aEx];simp[HD.len]
theorem aAk {h:HD}:Tryz.zeroCells99.size=(h.cells 20).toArray.size:=by rw[show Tryz.zeroCells99.size=90 by kernel_rfl];simp[HD.len]
theorem store_head (w:World)(g:Nat)(old a:Array Value)(h:w.heap[g]? =some (.cells old 99 (0,0)))(c:old.size=a.size)(b:(Tryz.prog.info? 99).map (·.size)=some a.size)(d:a.all (·.oneCell')=true):
 (stR (.pointer (some ⟨g,0,none⟩)) (.agg a)).run Tryz.prog w= .ok () (w.setRow g a):=by
 unfold stR
 simp only[Instr.storeAt,Instr.sureAddr,Sem.run_bind,Sem.run_pure,Result.andThen_ok]
 exact run_storeVar_row w g 99 99 old a h b c d
theorem aKb (h:HD)(st:Int):Tryz.prog.built 99 [(2,.int .i64 st),(3,.agg (idc h 0).toArray),(4,.agg (idc h 1).toArray),(5,.agg (idc h 2).toArray),(6,.agg (idc h 3).toArray)]=some ((⟨0,0,st,h.I,fun _=>0,0,0,0⟩:HD).cells 20).toArray:=by kernel_rfl
theorem build_head (w:World)(h:HD)(st:Int):(bldR #[(2,.int .i64 st),(3,.agg (idc h 0).toArray),(4,.agg (idc h 1).toArray),(5,.agg (idc h 2).toArray),(6,.agg (idc h 3).toArray)]).run Tryz.prog w= .ok (.agg ((⟨0,0,st,h.I,fun _=>0,0,0,0⟩:HD).cells 20).toArray) w:=by
 unfold bldR
 exact run_build w _ _ _ (aKb h st)
theorem lt_of_heap {w:World}{g:Nat}{o:Obj}(h:w.heap[g]? =some o):g<w.heap.size:=(Array.getElem?_eq_some_iff.1 h).1
attribute [local irreducible] HD.cells idc wpList Code.wp
attribute [local go_sem ↓] st_fold bld_fold
def Raw1 (bb off:Nat)(s16:Int)(cs:List Value)(w1 W:World)(g:Nat):Prop:=Blk (W.setRow g cs.toArray) g cs 99∧Below w1.heap.size w1 (W.setRow g cs.toArray)∧(W.setRow g cs.toArray).cell? ⟨bb,off+16,none⟩=some (.int .u8 s16)
theorem aOt (A:Option Addr)(l:List Int)(n c:Nat)(w:World)(hb:Bytes w A l)(hL:l.length=n)(cM:272≤n)(hn:n≤1000000):
 Calls Tryz.prog 149 #[.slice A n c] w fun e w'=>e= .returned (.tuple #[.agg ((hdOf l).cells 20).toArray,.int .u64 (Ob.u8 l 248)])∧Below w.heap.size w w':=by
 have ar:=yH fun(W:World) (hW:Bytes W A l)=>show Calls Tryz.prog 197 #[.slice A n c,.int .i64 24] W fun e w'=>e= .returned (.agg (idc (hdOf l) 0).toArray)∧Below W.heap.size W w' by
  rw[←aDB l 0]
  exact aE9 A l n c 24 W hW hL hn (by omega)
 have am:=yH fun(W:World) (hW:Bytes W A l)=>show Calls Tryz.prog 197 #[.slice A n c,.int .i64 40] W fun e w'=>e= .returned (.agg (idc (hdOf l) 1).toArray)∧Below W.heap.size W w' by
  rw[←aDB l 1]
  exact aE9 A l n c 40 W hW hL hn (by omega)
 have L:=yH fun(W:World) (hW:Bytes W A l)=>show Calls Tryz.prog 197 #[.slice A n c,.int .i64 56] W fun e w'=>e= .returned (.agg (idc (hdOf l) 2).toArray)∧Below W.heap.size W w' by
  rw[←aDB l 2]
  exact aE9 A l n c 56 W hW hL hn (by omega)
 have y:=yH fun(W:World) (hW:Bytes W A l)=>show Calls Tryz.prog 197 #[.slice A n c,.int .i64 72] W fun e w'=>e= .returned (.agg (idc (hdOf l) 3).toArray)∧Below W.heap.size W w' by
  rw[←aDB l 3]
  exact aE9 A l n c 72 W hW hL hn (by omega)
 have cb:=hb.1.at_ 16
 have co:IntKind.i64.wrap (l.getD 16 0)=l.getD 16 0:=by rw[IntKind.wrap_i64];omega
 obtain⟨u,a,rfl,aU,aN⟩:=hb.spot (by omega)
 have s:=yH hb
 have aP:=yH (aN 16 (by omega))
 have a9:=yH aU
 clear aN aU
 go_enter Tryz.func149,Tryz.ntmps149
 go_upto_region 1 with fail
 have r:=yH ((Below.refl w.heap.size w).alloc (yR _) (.cells Tryz.zeroCells99 99))
 have Z1:=yH (heap_alloc_new w (.cells Tryz.zeroCells99 99))
 have s1:=yH (show(w.alloc (.cells Tryz.zeroCells99 99)).heap.size=w.heap.size+1 by simp)
 generalize w.alloc (.cells Tryz.zeroCells99 99)=w1 at*
 have ay:(hdOf l).st=l.getD 16 0:=rfl
 generalize l.getD 16 0=o at*
 have bN:=yH ay
 clear ay cb
 have bE:=yH (yL a9.out r.out.size)
 have t:=yH fun(W:World) (hW:Below w1.heap.size w1 W)=>show W.cell? ⟨u,a+16,none⟩=some (.int .u8 o)from(hW.cell (p:=⟨u,a+16,none⟩) bE.out).trans ((r.out.cell (p:=⟨u,a+16,none⟩) a9.out).trans aP.out)
 have f:=yH fun(W:World) (g:Nat) (hg:w1.heap.size≤g) (hZ:W.heap[g]? =some (.cells Tryz.zeroCells99 99 (0,0)))=>store_head W g _ ((⟨0,0,o,(hdOf l).I,fun _=>0,0,0,0⟩:HD).cells 20).toArray hZ aAk (aAc _) (HD.one _ 20)
 have d:=yH fun(W:World) (g:Nat) (hg:w1.heap.size≤g) (hW:Below w1.heap.size w1 W) (hZ:W.heap[g]? =some (.cells Tryz.zeroCells99 99 (0,0)))=>show Raw1 u a o ((⟨0,0,o,(hdOf l).I,fun _=>0,0,0,0⟩:HD).cells 20) w1 W g from⟨setRow_heap _ _ _ _ _ (0,0) hZ,below_setRow hW hg _,t.out _ (below_setRow hW hg _)⟩
 have b5:=fun W:World=>build_head W (hdOf l) o
 have db:(16:Int)<(n:Int):=by omega
 have bi:=yH (show Bytes w1.drew (some ⟨u,a,none⟩) l from(s.out.below r.out (yR _)).drew)
 have aQ:=yH (show Below w1.heap.size w1 w1.drew from(Below.refl w1.heap.size w1).drew)
 have ap:=yH (show Below w1.heap.size w1 (w1.alloc (.cells Tryz.zeroCells99 99)).drew from((Below.refl w1.heap.size w1).alloc (yR _) _).drew)
 have bF:=yH (show Bytes (w1.alloc (.cells Tryz.zeroCells99 99)).drew (some ⟨u,a,none⟩) l from(s.out.below r.out (yR _)).below ap.out (yR _))
 have aD:=yH (show(w1.alloc (.cells Tryz.zeroCells99 99)).drew.heap[w1.heap.size]? =some (.cells Tryz.zeroCells99 99 (0,0))from heap_alloc_new w1 _)
 have bM:=t.out _ aQ.out
 have bp:=t.out _ ap.out
 have cl:=f.out _ w1.heap.size (yR _) aD.out
 have aR:=yH (d.out _ w1.heap.size (yR _) ap.out aD.out)
 have bS:=aR.out.2.2
 go_cut [4]from 14 to 27 (fun z wx=> ∃g,z= .pointer (some ⟨g,0,none⟩)∧Blk wx g ((⟨0,0,o,(hdOf l).I,fun _=>0,0,0,0⟩:HD).cells 20) 99∧Below w1.heap.size w1 wx∧Hid (w1.heap.size≤g))
 case first=>
  go_region_held3 (fun W=>W.cell? ⟨u,a+16,none⟩=some (.int .u8 o)) (first|(with_reducible exact bM)|(with_reducible exact bp)|(with_reducible exact bS)|(with_reducible exact cs)|(with_reducible exact bh)|(with_reducible exact bd)|(with_reducible exact bO)|(with_reducible exact bQ)|(with_reducible exact ch)|(with_reducible exact bV)|(with_reducible exact bv)|(with_reducible exact bH)|(with_reducible exact bU)|(with_reducible exact bA)|(with_reducible exact bR)|(with_reducible exact cc)|(with_reducible exact bw)|(with_reducible exact bs)|(with_reducible exact b6)|(with_reducible exact bf)|(with_reducible exact bq)|(with_reducible exact bX)|(with_reducible exact bK)|(with_reducible exact bI)|(with_reducible exact b9)|(with_reducible exact bG)|(with_reducible exact bg)|(with_reducible exact bB)|(with_reducible exact bn)|(with_reducible exact b4)|(with_reducible exact bJ)|(with_reducible exact bL)|(with_reducible exact bo)|(with_reducible exact bl)|(with_reducible exact bC)|go_keep) (first
   |(go_simp;go_at_call 197;(with_reducible refine(ar.out _ bi.out).mono ?_);rintro e n1 ⟨rfl,a2⟩;have b:=yH (aQ.out.trans (a2.mono aQ.out.size));have ci:=yH ((s.out.below r.out (yR _)).below b.out (yR _));have cs:=t.out _ b.out;have F:=yH (show Below w1.heap.size w1 (n1.alloc (.cells Tryz.zeroCells99 99))from b.out.alloc b.out.size _);have br:=yH ((s.out.below r.out (yR _)).below F.out (yR _));have bh:=t.out _ F.out;have aj:=yH (show(n1.alloc (.cells Tryz.zeroCells99 99)).heap[n1.heap.size]? =some (.cells Tryz.zeroCells99 99 (0,0))from heap_alloc_new n1 _);have cG:=f.out _ _ b.out.size aj.out;have aM:=yH (d.out _ _ b.out.size F.out aj.out);have bd:=aM.out.2.2;clear a2)
   |(go_simp;go_at_call 197;(with_reducible refine(ar.out _ bF.out).mono ?_);rintro e cV ⟨rfl,X⟩;have C:=yH (ap.out.trans (X.mono ap.out.size));have b0:=yH ((s.out.below r.out (yR _)).below C.out (yR _));have bO:=t.out _ C.out;have ag:=yH ((X.block _ (lt_of_heap aD.out)).trans aD.out);have cH:=f.out _ _ (yR _) ag.out;have aG:=yH (d.out _ _ (yR _) C.out ag.out);have bQ:=aG.out.2.2;clear X)
   |(go_simp;go_at_call 197;(with_reducible refine(am.out _ ci.out).mono ?_);rintro e n2 ⟨rfl,a0⟩;have m:=yH (b.out.trans (a0.mono b.out.size));have cf:=yH ((s.out.below r.out (yR _)).below m.out (yR _));have ch:=t.out _ m.out;have H:=yH (show Below w1.heap.size w1 (n2.alloc (.cells Tryz.zeroCells99 99))from m.out.alloc m.out.size _);have bm:=yH ((s.out.below r.out (yR _)).below H.out (yR _));have bV:=t.out _ H.out;have al:=yH (show(n2.alloc (.cells Tryz.zeroCells99 99)).heap[n2.heap.size]? =some (.cells Tryz.zeroCells99 99 (0,0))from heap_alloc_new n2 _);have cD:=f.out _ _ m.out.size al.out;have ax:=yH (d.out _ _ m.out.size H.out al.out);have bv:=ax.out.2.2;clear a0)
   |(go_simp;go_at_call 197;(with_reducible refine(am.out _ br.out).mono ?_);rintro e c0 ⟨rfl,ac⟩;have G:=yH (F.out.trans (ac.mono F.out.size));have bk:=yH ((s.out.below r.out (yR _)).below G.out (yR _));have bH:=t.out _ G.out;have af:=yH ((ac.block _ (lt_of_heap aj.out)).trans aj.out);have c3:=f.out _ _ (b.out.size) af.out;have au:=yH (d.out _ _ (b.out.size) G.out af.out);have bU:=au.out.2.2;clear ac)
   |(go_simp;go_at_call 197;(with_reducible refine(am.out _ b0.out).mono ?_);rintro e cE ⟨rfl,aa⟩;have J:=yH (C.out.trans (aa.mono C.out.size));have bu:=yH ((s.out.below r.out (yR _)).below J.out (yR _));have bA:=t.out _ J.out;have ai:=yH ((aa.block _ (lt_of_heap ag.out)).trans ag.out);have cO:=f.out _ _ (yR _) ai.out;have aq:=yH (d.out _ _ (yR _) J.out ai.out);have bR:=aq.out.2.2;clear aa)
   |(go_simp;go_at_call 197;(with_reducible refine(L.out _ cf.out).mono ?_);rintro e n3 ⟨rfl,aV⟩;have q:=yH (m.out.trans (aV.mono m.out.size));have cv:=yH ((s.out.below r.out (yR _)).below q.out (yR _));have cc:=t.out _ q.out;have D:=yH (show Below w1.heap.size w1 (n3.alloc (.cells Tryz.zeroCells99 99))from q.out.alloc q.out.size _);have bx:=yH ((s.out.below r.out (yR _)).below D.out (yR _));have bw:=t.out _ D.out;have ak:=yH (show(n3.alloc (.cells Tryz.zeroCells99 99)).heap[n3.heap.size]? =some (.cells Tryz.zeroCells99 99 (0,0))from heap_alloc_new n3 _);have cP:=f.out _ _ q.out.size ak.out;have aC:=yH (d.out _ _ q.out.size D.out ak.out);have bs:=aC.out.2.2;clear aV)
   |(go_simp;go_at_call 197;(with_reducible refine(L.out _ bm.out).mono ?_);rintro e cW ⟨rfl,ab⟩;have E:=yH (H.out.trans (ab.mono H.out.size));have bP:=yH ((s.out.below r.out (yR _)).below E.out (yR _));have b6:=t.out _ E.out;have ah:=yH ((ab.block _ (lt_of_heap al.out)).trans al.out);have cR:=f.out _ _ (m.out.size) ah.out;have aL:=yH (d.out _ _ (m.out.size) E.out ah.out);have bf:=aL.out.2.2;clear ab)
   |(go_simp;go_at_call 197;(with_reducible refine(L.out _ bu.out).mono ?_);rintro e cL ⟨rfl,ae⟩;have M:=yH (J.out.trans (ae.mono J.out.size));have bZ:=yH ((s.out.below r.out (yR _)).below M.out (yR _));have bq:=t.out _ M.out;have ao:=yH ((ae.block _ (lt_of_heap ai.out)).trans ai.out);have c4:=f.out _ _ (yR _) ao.out;have aB:=yH (d.out _ _ (yR _) M.out ao.out);have bX:=aB.out.2.2;clear ae)
   |(go_simp;go_at_call 197;(with_reducible refine(L.out _ bk.out).mono ?_);rintro e c5 ⟨rfl,N⟩;have B:=yH (G.out.trans (N.mono G.out.size));have bt:=yH ((s.out.below r.out (yR _)).below B.out (yR _));have bK:=t.out _ B.out;have an:=yH ((N.block _ (lt_of_heap af.out)).trans af.out);have c2:=f.out _ _ (b.out.size) an.out;have aF:=yH (d.out _ _ (b.out.size) B.out an.out);have bI:=aF.out.2.2;clear N)
   |(go_simp;go_at_call 197;(with_reducible refine(y.out _ cv.out).mono ?_);rintro e n4 ⟨rfl,aW⟩;have R:=yH (q.out.trans (aW.mono q.out.size));have c9:=yH ((s.out.below r.out (yR _)).below R.out (yR _));have b9:=t.out _ R.out;have aE:=yH (show Below w1.heap.size w1 (n4.alloc (.cells Tryz.zeroCells99 99))from R.out.alloc R.out.size _);have c1:=yH ((s.out.below r.out (yR _)).below aE.out (yR _));have bG:=t.out _ aE.out;have aT:=yH (show(n4.alloc (.cells Tryz.zeroCells99 99)).heap[n4.heap.size]? =some (.cells Tryz.zeroCells99 99 (0,0))from heap_alloc_new n4 _);have cN:=f.out _ _ R.out.size aT.out;have aJ:=yH (d.out _ _ R.out.size aE.out aT.out);have bg:=aJ.out.2.2;clear aW)
   |(go_simp;go_at_call 197;(with_reducible refine(y.out _ bx.out).mono ?_);rintro e cU ⟨rfl,ad⟩;have aK:=yH (D.out.trans (ad.mono D.out.size));have c6:=yH ((s.out.below r.out (yR _)).below aK.out (yR _));have bB:=t.out _ aK.out;have a6:=yH ((ad.block _ (lt_of_heap ak.out)).trans ak.out);have cS:=f.out _ _ (q.out.size) a6.out;have aA:=yH (d.out _ _ (q.out.size) aK.out a6.out);have bn:=aA.out.2.2;clear ad)
   |(go_simp;go_at_call 197;(with_reducible refine(y.out _ bZ.out).mono ?_);rintro e cF ⟨rfl,Z⟩;have aH:=yH (M.out.trans (Z.mono M.out.size));have cQ:=yH ((s.out.below r.out (yR _)).below aH.out (yR _));have b4:=t.out _ aH.out;have aX:=yH ((Z.block _ (lt_of_heap ao.out)).trans ao.out);have c7:=f.out _ _ (yR _) aX.out;have av:=yH (d.out _ _ (yR _) aH.out aX.out);have bJ:=av.out.2.2;clear Z)
   |(go_simp;go_at_call 197;(with_reducible refine(y.out _ bt.out).mono ?_);rintro e cB ⟨rfl,Y⟩;have aO:=yH (B.out.trans (Y.mono B.out.size));have cC:=yH ((s.out.below r.out (yR _)).below aO.out (yR _));have bL:=t.out _ aO.out;have aY:=yH ((Y.block _ (lt_of_heap an.out)).trans an.out);have cY:=f.out _ _ (b.out.size) aY.out;have aw:=yH (d.out _ _ (b.out.size) aO.out aY.out);have bo:=aw.out.2.2;clear Y)
   |(go_simp;go_at_call 197;(with_reducible refine(y.out _ bP.out).mono ?_);rintro e cT ⟨rfl,V⟩;have az:=yH (E.out.trans (V.mono E.out.size));have cK:=yH ((s.out.below r.out (yR _)).below az.out (yR _));have bl:=t.out _ az.out;have a3:=yH ((V.block _ (lt_of_heap ah.out)).trans ah.out);have cI:=f.out _ _ (m.out.size) a3.out;have aI:=yH (d.out _ _ (m.out.size) az.out a3.out);have bC:=aI.out.2.2;clear V)
   |fail)
  all_goals
   go_wp2_with fail
   go_meet
   case rel=>first|exact⟨_,rfl,aI.out.1,aI.out.2.1,yH (m.out.size)⟩|exact⟨_,rfl,aw.out.1,aw.out.2.1,yH (b.out.size)⟩|exact⟨_,rfl,av.out.1,av.out.2.1,yH (yR _)⟩|exact⟨_,rfl,aA.out.1,aA.out.2.1,yH (q.out.size)⟩|exact⟨_,rfl,aJ.out.1,aJ.out.2.1,yH (R.out.size)⟩|exact⟨_,rfl,aF.out.1,aF.out.2.1,yH (b.out.size)⟩|exact⟨_,rfl,aB.out.1,aB.out.2.1,yH (yR _)⟩|exact⟨_,rfl,aL.out.1,aL.out.2.1,yH (m.out.size)⟩|exact⟨_,rfl,aC.out.1,aC.out.2.1,yH (q.out.size)⟩|exact⟨_,rfl,aq.out.1,aq.out.2.1,yH (yR _)⟩|exact⟨_,rfl,au.out.1,au.out.2.1,yH (b.out.size)⟩|exact⟨_,rfl,ax.out.1,ax.out.2.1,yH (m.out.size)⟩|exact⟨_,rfl,aG.out.1,aG.out.2.1,yH (yR _)⟩|exact⟨_,rfl,aM.out.1,aM.out.2.1,yH (b.out.size)⟩|exact⟨_,rfl,aR.out.1,aR.out.2.1,yH (yR _)⟩
 case rest=>
  obtain⟨g,rfl,hR,hB,hg⟩:=hcut
  have R2:=yH hR
  have B2:=yH hB
  have G4:=yH fun(p:Nat) (hp:p+4≤n) (W:World) (hW:Bytes W (some ⟨u,a,none⟩) l)=>show Calls Tryz.prog 133 #[.slice (some ⟨u,a,none⟩) n c,.int .i64 (p:Int),.int .i64 4] W fun e w'=>e= .returned (.tuple #[.int .u64 (u4 l p),.bool true])∧W=w' by
   subst hL
   exact aIH _ l c p 4 W (by omega) (by unfold fits isW;simp;omega) hW
  have bc:=yH ((s.out.below r.out (yR _)).below hB (yR _))
  have ba:=yH (s.out.below r.out (yR _))
  clear hR hB ar am L y t f d b5 co bi aQ ap bF aD bM bp cl aR bS aP
  have bz:=yH (show Calls Tryz.prog 133 #[.slice (some ⟨u,a,none⟩) n c,.int .i64 8,.int .i64 4] wc _ from G4.out 8 (by omega) wc bc.out)
  have a7:=yH (show Calls Tryz.prog 133 #[.slice (some ⟨u,a,none⟩) n c,.int .i64 12,.int .i64 4] wc _ from G4.out 12 (by omega) wc bc.out)
  have U8:=aDz hb.1 8
  have da:=aDz hb.1 12
  have x0:wc.cell? ⟨g,0,none⟩=some (.int .u32 0):=R2.out.cell (HD.get _ 20 0 (by decide))
  have x1:wc.cell? ⟨g,1,none⟩=some (.int .u32 0):=R2.out.cell (HD.get _ 20 1 (by decide))
  have f0:=R2.out.frozen 0
  have f1:=R2.out.frozen 1
  have bY:=yH (show((((⟨0,0,o,(hdOf l).I,fun _=>0,0,0,0⟩:HD).cells 20).set 0 (.int .u32 (u4 l 8))).set 1 (.int .u32 (u4 l 12)))=((⟨u4 l 8,u4 l 12,o,(hdOf l).I,fun _=>0,0,0,0⟩:HD).cells 20)by
   rw[aPE _ 20 0 _ rfl,set_ic _ 20 1 _ rfl])
  generalize bW:u4 l 8=cp at*
  generalize a8:u4 l 12=ic at*
  have cx:=yH bW
  have ct:=yH a8
  clear bW a8
  go_upto_region 5 with(first
   |(go_at_call 133;((with_reducible refine bz.out.mono ?_);rintro e w' ⟨rfl,rfl⟩))
   |(go_at_call 133;((with_reducible refine a7.out.mono ?_);rintro e w' ⟨rfl,rfl⟩))
   |fail)
  have R5:=yH (show Blk ((wc.setCell ⟨g,0,none⟩ (.int .u32 cp)).setCell ⟨g,1,none⟩ (.int .u32 ic)) g ((⟨cp,ic,o,(hdOf l).I,fun _=>0,0,0,0⟩:HD).cells 20) 99 by rw[←bY.out];exact(R2.out.set_ 0 _).set_ 1 _)
  have B5:=yH (show Below w1.heap.size w1 ((wc.setCell ⟨g,0,none⟩ (.int .u32 cp)).setCell ⟨g,1,none⟩ (.int .u32 ic))from(B2.out.setCell hg.out _).setCell hg.out _)
  clear bz a7 x0 x1 f0 f1 bY R2 B2 bc
  generalize (wc.setCell ⟨g,0,none⟩ (.int .u32 cp)).setCell ⟨g,1,none⟩ (.int .u32 ic)=w5 at*
  go_wp2_with fail
  have HS:=yH fun(k:Nat) (hk:k<20)=>show((⟨cp,ic,o,(hdOf l).I,fun i=>if i<k then Ob.u8 l (88+8*i)else 0,0,0,0⟩:HD).cells 20).set (67+k) (.int .u64 (Ob.u8 l (88+8*k)))=((⟨cp,ic,o,(hdOf l).I,fun i=>if i<k+1 then Ob.u8 l (88+8*i)else 0,0,0,0⟩:HD).cells 20)from
   aAO _ _ 20 (67+k) _ (by omega) (by unfold HD.at_;rw[if_neg (by omega),if_neg (by omega),if_pos (by omega),show 67+k-67=k by omega];simp) (fun i hi bD=>by
    unfold HD.at_
    by_cases h3:i<3
    ·rw[if_pos h3,if_pos h3]
    rw[if_neg h3,if_neg h3]
    by_cases h4:i<67
    ·rw[if_pos h4,if_pos h4]
    rw[if_neg h4,if_neg h4]
    by_cases h5:i<67+20
    ·rw[if_pos h5,if_pos h5]
     dsimp only
     by_cases h6:i-67<k
     ·rw[if_pos h6,if_pos (by omega)]
     ·rw[if_neg h6,if_neg (by omega)]
    ·rw[if_neg h5,if_neg h5])
  have HU:=yH fun(k:Nat) (hk:k≤22) (W:World) (hW:Bytes W (some ⟨u,a,none⟩) l)=>show Calls Tryz.prog 94 #[.slice (some ⟨u,a,none⟩) n c,.int .u64 (88+8*(k:Int))] W fun e w'=>e= .returned (.int .u64 (Ob.u8 l (88+8*k)))∧W=w' by
   rw[show(88+8*(k:Int))=((88+8*k:Nat):Int)by omega]
   exact aIJ _ l n c (88+8*k) W hW hL hn (by omega)
  go_loopw [9] (fun i wr=> ∃k:Nat,k≤20∧i= .int .i64 (k:Int)∧Hid (Blk wr g ((⟨cp,ic,o,(hdOf l).I,fun i=>if i<k then Ob.u8 l (88+8*i)else 0,0,0,0⟩:HD).cells 20) 99)∧Hid (Below w1.heap.size w1 wr)) (fun i _=>20-(intOf i).toNat)
  case atStart=>exact⟨0,Nat.zero_le _,rfl,by simpa using R5,B5⟩
  case round=>
   obtain⟨k,hk,rfl,hR,hB⟩:=hrel
   by_cases b2:k<20
   ·have cd:=yH (HS.out k b2)
    have ce:=yH (ba.out.below hB.out (yR _))
    have cr:=yH (HU.out k (by omega) wr ce.out)
    have ck:=HD.nums_at hR.out k b2
    have fk:=hR.out.frozen (67+k)
    generalize Ob.u8 l (88+8*k)=x at*
    go_wp2_with(go_at_call 94;((with_reducible refine cr.out.mono ?_);rintro e w' ⟨rfl,rfl⟩))
    go_roundw
    case rel=>exact⟨k+1,by omega,by go_num,yH (by rw[←cd.out];exact hR.out.set_ (67+k) _),yH (hB.out.setCell hg.out _)⟩
    case measure=>simp[intOf];omega
   ·obtain rfl:k=20:=by omega
    rename World=>w6
    have aS:=yH (ba.out.below hB.out (yR _))
    have a5:=yH (show Calls Tryz.prog 133 #[.slice (some ⟨u,a,none⟩) n c,.int .i64 256,.int .i64 4] w6 _ from G4.out 256 (by omega) w6 aS.out)
    have aZ:=yH (show Calls Tryz.prog 133 #[.slice (some ⟨u,a,none⟩) n c,.int .i64 260,.int .i64 4] w6 _ from G4.out 260 (by omega) w6 aS.out)
    have a4:=yH (show Calls Tryz.prog 94 #[.slice (some ⟨u,a,none⟩) n c,.int .u64 264] w6 _ from HU.out 22 (by decide) w6 aS.out)
    have cZ:=aDz hb.1 256
    have cJ:=aDz hb.1 260
    have cg:w6.cell? ⟨g,87,none⟩=some (.int .u32 0):=hR.out.cell (HD.get_ta _ 20)
    have b8:w6.cell? ⟨g,88,none⟩=some (.int .u32 0):=hR.out.cell (HD.get_ti _ 20)
    have ca:w6.cell? ⟨g,89,none⟩=some (.int .u64 0):=hR.out.cell (HD.get_te _ 20)
    have cy:=hR.out.frozen 87
    have cm:=hR.out.frozen 88
    have cz:=hR.out.frozen 89
    have a1:=yH (show(((((⟨cp,ic,o,(hdOf l).I,fun i=>if i<20 then Ob.u8 l (88+8*i)else 0,0,0,0⟩:HD).cells 20).set 87 (.int .u32 (u4 l 256))).set 88 (.int .u32 (u4 l 260))).set 89 (.int .u64 (Ob.u8 l (88+8*22))))=(hdOf l).cells 20 by
     rw[set_ta _ 20 87 _ rfl,set_ti _ 20 88 _ rfl,set_te _ 20 89 _ rfl]
     apply aL9
     intro i hi
     unfold HD.at_
     by_cases h3:i<3
     ·rw[if_pos h3,if_pos h3,←cx.out,←ct.out,←bN.out];rfl
     rw[if_neg h3,if_neg h3]
     by_cases h4:i<67
     ·rw[if_pos h4,if_pos h4]
     rw[if_neg h4,if_neg h4]
     by_cases h5:i<67+20
     ·rw[if_pos h5,if_pos h5]
      show Value.int .u64 (if i-67<20 then _ else 0)=_
      rw[if_pos (by omega)];rfl
     rw[if_neg h5,if_neg h5]
     rfl)
    generalize u4 l 256=ta at*
    generalize u4 l 260=ti at*
    generalize Ob.u8 l (88+8*22)=te at*
    clear R5 B5 HS
    go_upto_region 12 with(first
     |(go_at_call 133;((with_reducible refine a5.out.mono ?_);rintro e w' ⟨rfl,rfl⟩))
     |(go_at_call 133;((with_reducible refine aZ.out.mono ?_);rintro e w' ⟨rfl,rfl⟩))
     |(go_at_call 94;((with_reducible refine a4.out.mono ?_);rintro e w' ⟨rfl,rfl⟩))
     |fail)
    have R9:=yH (show Blk (((w6.setCell ⟨g,87,none⟩ (.int .u32 ta)).setCell ⟨g,88,none⟩ (.int .u32 ti)).setCell ⟨g,89,none⟩ (.int .u64 te)) g ((hdOf l).cells 20) 99 by rw[←a1.out];exact((hR.out.set_ 87 _).set_ 88 _).set_ 89 _)
    have B9:=yH (show Below w1.heap.size w1 (((w6.setCell ⟨g,87,none⟩ (.int .u32 ta)).setCell ⟨g,88,none⟩ (.int .u32 ti)).setCell ⟨g,89,none⟩ (.int .u64 te))from((hB.out.setCell hg.out _).setCell hg.out _).setCell hg.out _)
    clear cg b8 ca cy cm cz a1 hR hB a5 aZ a4 aS
    generalize ((w6.setCell ⟨g,87,none⟩ (.int .u32 ta)).setCell ⟨g,88,none⟩ (.int .u32 ti)).setCell ⟨g,89,none⟩ (.int .u64 te)=w9 at*
    have cw:=yH (ba.out.below B9.out (yR _))
    have cA:=yH (show ∀W:World,Bytes W (some ⟨u,a,none⟩) l→Calls Tryz.prog 94 #[.slice (some ⟨u,a,none⟩) n c,.int .u64 248] W fun e w'=>e= .returned (.int .u64 (Ob.u8 l 248))∧W=w' from fun W hW=>HU.out 20 (by decide) W hW)
    have Z9:=yH ((B9.out.block w.heap.size (by rw[s1.out];exact Nat.lt_succ_self _)).trans Z1.out)
    have cX:=store_head w9.drew w.heap.size _ ((hdOf l).cells 20).toArray Z9.out aAk (aAc _) (HD.one _ 20)
    have bD:g≠w.heap.size:=by have:=hg.out;rw[s1.out]at this;omega
    have q9:=(show World.rangeAt w9.drew g 0 ((hdOf l).cells 20)from fun j v hj=>by rw[Nat.zero_add];exact R9.out.cell hj)
    have cq:=yH (show Below w.heap.size w (w9.drew.setRow w.heap.size ((hdOf l).cells 20).toArray)from below_setRow ((r.out.trans (B9.out.mono (by rw[s1.out];exact Nat.le_succ _))).drew) (yR _) _)
    have cj:=(show World.rangeAt (w9.drew.setRow w.heap.size ((hdOf l).cells 20).toArray) g 0 ((hdOf l).cells 20)from fun j v hj=>by rw[Nat.zero_add,cell_setRow_other _ _ _ _ bD];exact R9.out.cell hj)
    have bj:=yH (show Bytes w9.drew (some ⟨u,a,none⟩) l from cw.out.drew)
    have cn:u≠w.heap.size:=Nat.ne_of_lt a9.out
    have c8:=yH (show Bytes (w9.drew.setRow w.heap.size ((hdOf l).cells 20).toArray) (some ⟨u,a,none⟩) l from⟨hb.1,fun i hi=>by
     obtain⟨b3,o3,e3,h3,h4⟩:=bj.out.2 i hi
     refine⟨b3,o3,e3,by rw[setRow_size];exact h3,?_⟩
     injection e3 with e3
     injection e3 with e3 e4
     subst e3
     rw[cell_setRow_other _ _ _ _ cn]
     exact h4⟩)
    have b7:=yH (show(w9.drew.setRow w.heap.size ((hdOf l).cells 20).toArray).heap[w.heap.size]? =some (.cells ((hdOf l).cells 20).toArray 99 (0,0))from setRow_heap _ w.heap.size _ _ _ (0,0) Z9.out)
    generalize bT:Ob.u8 l 248=dp at*
    have cu:=yH bT
    clear bT
    refine wp_region_noPanic ?_
    refine wp_region_held_drew (S:=fun W:World=>W.rangeAt g 0 ((hdOf l).cells 20)) (by kernel_rfl) (by exact q9) (fun hHeld=>?_)
    refine tk (i:=0) (oi:=⟨some 75,_,_,_,_,_⟩) rfl (yieldsIf_load_mid (by rfl) _ _ rfl _ _ rfl _ _ (fun _ h=>h) Tryz.underlying99 rfl (aBu _)) ?_
    try simp only[Act.put,sA,sZ,sS]
    refine tq 1 76 rfl (fun W hSw=>by go_simp;try (with_reducible rfl)) ?_
    try simp only[Act.put,sA,sZ,sS]
    refine rd 2 rfl (fun K hK=>?_)
    go_simp
    ((with_reducible refine(cA.out _ bj.out).mono ?_);rintro e w' ⟨rfl,rfl⟩)
    try go_wp2_with fail
    refine hK.out _ _ (by exact q9) (fun hHeld=>?_)
    clear hK K
    try simp only[Act.put,sA,sZ,sS]
    refine rd 3 rfl (fun K hK=>?_)
    go_simp
    skip
    try go_wp2_with fail
    refine hK.out _ _ (by exact cj) (fun hHeld=>?_)
    clear hK K
    try simp only[Act.put,sA,sZ,sS]
    refine tq 4 3 rfl (fun W hSw=>by go_simp;try (with_reducible rfl)) ?_
    try simp only[Act.put,sA,sZ,sS]
    refine wpAnyH_done (by kernel_rfl) ?_ _
    refine NoPanic.normal ?_
    go_wp2_with fail
    refine bodyPost_ret (v:= .tuple #[.agg ((hdOf l).cells 20).toArray,.int .u64 dp]) (by exact aAq Tryz.results149 _ _ w.heap.size 99 _ (0,0) _ _ rfl rfl b7.out Tryz.underlying99 rfl (aAc _)) rfl ?_
    exact⟨by rw[cu.out],cq.out⟩
end Gq
namespace Ge
open Bytes8 Blk8 Own8 LeNum RefB Ob Od Oe Ga Gb Ff Rows2
open Gn (ints rnums_in)
theorem aCs {w:World}{k:Array Oper}{rest:List Oper}{o:Oper}{a:Act}{Q:Exit→Act→World→Prop}(B:o.guard=none)(s x:Operand)
 (v:o.op= .call {callee:= .builtin .append,args:= #[s,x],argTypes:= #[24,24]})
 (base:Nat)(c:base≤w.heap.size)(b n:Nat)(l:List Int)(hs:a.eval s= .slice (some ⟨b,0,none⟩) n n)(F:Bytes w (some ⟨b,0,none⟩) l)(e:l.length=n)(G:Option Addr)(m H:Nat)(r:List Int)(N:a.eval x= .slice G m H)(E:Bytes w G r)(d:r.length=m)(I:0<m)(X:n+m≤70368744177664)
 (h: ∀A' c' w',Own w' base A' (n+m) c' (l++r)→Below base w w'→wpList Tryz.prog k Q rest (a.put o.dst (.slice A' (n+m) c')) w'):wpList Tryz.prog k Q (o::rest) a w:=by
 obtain⟨i,J,q⟩:=Option.map_eq_some_iff.1 aJ3
 simp only[Prod.mk.injEq]at q
 obtain⟨V,f,z⟩:=q
 obtain⟨Y,rfl,g⟩:=E.source w (Below.refl _ _) (by omega)
 have p: ∀j u,(l.map (Value.int .u8))[j]? =some u→w.cell? ((⟨b,0,none⟩:Addr).add j)=some u:=fun j u hu=>by
  rw[List.getElem?_map]at hu
  obtain⟨y,t,rfl⟩:=Option.map_eq_some_iff.1 hu
  obtain⟨R,D,L⟩:=F.source w (Below.refl _ _) (by have:=(List.getElem?_eq_some_iff.1 t).1;omega)
  injection D with D
  rw[D]
  exact L j y t
 have M:=run_append_grow (P:=Tryz.prog) w 24 o.type 5 i (.int .u8 0) Tryz.underlying24 J V ⟨b,0,none⟩ n n (l.map (Value.int .u8)) (by simp[e,f]) p Y m H (r.map (Value.int .u8)) (by simp[d,f])
  (fun j u hu=>by
    rw[List.getElem?_map]at hu
    obtain⟨y,t,rfl⟩:=Option.map_eq_some_iff.1 hu
    exact g j y t) (by omega) (by omega) (growslice_fits (by omega) (by rw[z];omega))
 have A:=grownCap_ge w (n+m) n 5
 have C:grownCap w (n+m) n 5≤maxLen:=grownCap_le_maxLen w (n+m) n 5 (by unfold maxLen;omega)
 refine wpList_plain B fun K hK=>?_
 unfold Oper.wp execOp
 simp only[v,resolve,invoke,builtin,Sem.run_bind,Sem.run_pure,Result.andThen_ok,List.map_toArray,List.map_cons,List.map_nil,hs,N,M]
 refine hK _ _ (h _ _ _ ⟨F.1.app E.1,by rw[List.length_append,e,d],by simp;omega,by simp[e,d],.inr ⟨w.heap.size,_,_,rfl,c,heap_alloc_new w.drew _,A,C,?_,?_⟩⟩ (((Below.refl base w).drew).alloc c _))
 ·simp only[Array.size_append,List.size_toArray,List.length_map,size_zeroCells,Value.cells,e,d]
  simp
  omega
 ·simp only[Array.toList_append,List.map_append]
  rw[List.take_append_of_le_length (by simp[e,d]),List.take_of_length_le (by simp[e,d])]
theorem aMq (v:Int)(b:0≤v)(d:v<256):lowB v 8=[v,0,0,0,0,0,0,0]:=by
 have e: ∀k:Nat,1≤k→v/256^k%256=0:=fun k hk=>by
  have:(256:Int)^k=256*256^(k-1):=by rw[←Int.pow_succ',show k-1+1=k by omega]
  have a:v<256^k:=by
   have f:(0:Int)<256^(k-1):=Int.pow_pos (by decide)
   rw[this];omega
  rw[Int.ediv_eq_zero_of_lt b a];rfl
 have c:v/256^0%256=v:=by simp;omega
 simp only[lowB,show List.range 8=[0,1,2,3,4,5,6,7]from rfl,List.map_cons,List.map_nil,c,e 1 (by decide),e 2 (by decide),e 3 (by decide),e 4 (by decide),e 5 (by decide),e 6 (by decide),e 7 (by decide)]
attribute [local irreducible] HD.cells wpList Code.wp
theorem aJa (h:HD)(f:h.Ok 20)(d:Int)(hd:0≤d∧d≤18446744073709551615)(w:World):
 Calls Tryz.prog 69 #[.agg (h.cells 20).toArray,.int .u64 d] w (Owned ((HD.plus h d).bytes 21) 272 w):=by
 have b0:=yH ((Below.refl w.heap.size w).alloc (yR _) (.cells (h.cells 20).toArray 99))
 have a:=yH (show Blk (w.alloc (.cells (h.cells 20).toArray 99)) w.heap.size (h.cells 20) 99 from Blk.new w _ _)
 have S0:=yH (show(w.alloc (.cells (h.cells 20).toArray 99)).heap.size=w.heap.size+1 by simp)
 go_enter Tryz.func69,Tryz.ntmps69
 go_upto_region 1 with fail
 generalize w.alloc (.cells (h.cells 20).toArray 99)=w0 at*
 have kc:=fun(w:World) (C:Array Value) (n c:Nat)=>Lib.run_convert_bytes_const (P:=Tryz.prog) w 24 5 C n c Tryz.underlying24 Tryz.underlying5
 have M1:=yH (show Bytes (w0.alloc (.cells #[.int .u8 76,.int .u8 80,.int .u8 75,.int .u8 83,.int .u8 72,.int .u8 72,.int .u8 82,.int .u8 72] 5 (8,9))) (some ⟨w0.heap.size,0,none⟩) magicL from aHn magicL aL2 w0 (8,9))
 have a1:=yH ((Below.refl w0.heap.size w0).alloc (yR _) (.cells #[.int .u8 76,.int .u8 80,.int .u8 75,.int .u8 83,.int .u8 72,.int .u8 72,.int .u8 82,.int .u8 72] 5 (8,9)))
 have R1:=yH (a.out.below a1.out a.out.lt)
 have b:=yH a.out.lt
 have L4:=yH fun(v:Int) (h0:0≤v) (h1:v≤4294967295) (W:World)=>aFC v 4 4 W h0 (by omega) (by decide) rfl
 have c0:(w0.alloc (.cells #[.int .u8 76,.int .u8 80,.int .u8 75,.int .u8 83,.int .u8 72,.int .u8 72,.int .u8 82,.int .u8 72] 5 (8,9))).cell? ⟨w.heap.size,0,none⟩=some (.int .u32 h.cp):=R1.out.cell (h.get 20 0 (by decide))
 have V:=f.cp
 have D1:=yH (show magicL.length=8 from rfl)
 have E4:=yH fun(v:Int)=>aAj v 4
 go_upto_region 2 with(first
  |(go_at_call 123;((with_reducible refine(L4.out _ V.1 V.2 _).mono ?_);rintro e w2 ⟨A2,c2,rfl,ak,ao⟩;have O2:=yH ak;have B2:=yH ao;clear ak ao))
  |((with_reducible apply aAb 12);refine aCs rfl (.tmp 7) (.tmp 11) rfl w0.heap.size (Nat.le_trans a1.out.size B2.out.size) w0.heap.size 8 magicL rfl (M1.out.below B2.out (yR _)) D1.out A2 4 c2 _ rfl O2.out.bytes (E4.out _) (by decide) (by decide) ?_;intro A3 c3 w3 al aq;have O3:=yH al;have B3:=yH (a1.out.trans ((B2.out.mono a1.out.size).trans aq));clear al aq))
 have R3:=yH (a.out.below B3.out b.out)
 have c1:w3.cell? ⟨w.heap.size,1,none⟩=some (.int .u32 h.ic):=R3.out.cell (h.get 20 1 (by decide))
 have ac:=f.ic
 clear c0 kc M1 a1 R1 O2 B2 D1
 go_upto_region 3 with(first
  |(go_at_call 123;((with_reducible refine(L4.out _ ac.1 ac.2 _).mono ?_);rintro e w4 ⟨A4,c4,rfl,ay,aA⟩;have O4:=yH ay;have B4:=yH aA;clear ay aA))
  |((with_reducible apply aAb 18);refine aAd rfl (.tmp 13) (.tmp 17) rfl w0.heap.size A3 12 c3 _ rfl (O3.out.kept B4.out (yR _)) A4 4 c4 _ rfl O4.out.bytes (E4.out _) (by decide) ?_;intro A5 c5 w5 ar aB;have O5:=yH ar;have B5:=yH ((B3.out.trans (B4.out.mono B3.out.size)).trans aB);clear ar aB))
 have R5:=yH (a.out.below B5.out b.out)
 have aX:w5.cell? ⟨w.heap.size,2,none⟩=some (.int .i64 h.st):=R5.out.cell (h.get 20 2 (by decide))
 have aZ:IntKind.u8.wrap h.st=h.st%256:=by simp[IntKind.wrap,IntKind.signed,IntKind.bits]
 have M:0≤h.st%256∧h.st%256<256:=by omega
 have R:=yH (show lowB (h.st%256) 8=[h.st%256,0,0,0,0,0,0,0]from aMq _ M.1 M.2)
 have aS:=yH (show h.front=magicL++lowB h.cp 4++lowB h.ic 4++lowB (h.st%256) 8 from rfl)
 generalize h.st%256=k at*
 have aw:=yH (show AllB [k,0,0,0,0,0,0,0]by rw[←R.out];exact aH7 _ _)
 have az:=yH (show Bytes (w5.alloc (.cells #[.int .u8 k,.int .u8 0,.int .u8 0,.int .u8 0,.int .u8 0,.int .u8 0,.int .u8 0,.int .u8 0] 5)) (some ⟨w5.heap.size,0,none⟩) [k,0,0,0,0,0,0,0]from(Row.new w5 [k,0,0,0,0,0,0,0]).bytes aw.out)
 clear c1 O3 O4 B4 R3
 go_upto_region 4 with((with_reducible apply aAb 24);refine aAd rfl (.tmp 19) (.tmp 23) rfl w0.heap.size A5 16 c5 _ rfl (O5.out.alloc _) (some ⟨w5.heap.size,0,none⟩) 8 8 _ rfl az.out rfl (by decide) ?_;intro A6 c6 w6 aI af;have O6:=yH aI;have B6:=yH ((B5.out.alloc B5.out.size _).trans af);clear aI af)
 rw[←R.out]at O6
 clear aX aZ M O5 B5 R5 aw az R
 go_region_held3 (fun W=>True) (first|(with_reducible exact trivial)) (first
  |(refine aAg (o:=⟨some 28,_,_,_,_,_⟩) rfl (.tmp 25) (.tmp 27) rfl w0.heap.size A6 24 c6 _ rfl O6.out.drew (some ⟨w.heap.size,3,none⟩) 16 16 (h.id 0) rfl (HD.id_at (a.out.below B6.out b.out) f 0 (by decide)).drew (h.id_len 0) (by decide) ?_;intro A7 c7 w7 au ap;have O7:=yH au;have B7:=yH (B6.out.drew.trans ap);clear au ap)
  |(refine aAg (o:=⟨some 31,_,_,_,_,_⟩) rfl (.tmp 28) (.tmp 30) rfl w0.heap.size A7 40 c7 _ rfl O7.out (some ⟨w.heap.size,19,none⟩) 16 16 (h.id 1) rfl (HD.id_at (a.out.below B7.out b.out) f 1 (by decide)) (h.id_len 1) (by decide) ?_;intro A8 c8 w8 ai aO;have O8:=yH ai;have B8:=yH (B7.out.trans aO);clear ai aO)
  |(refine aAg (o:=⟨some 34,_,_,_,_,_⟩) rfl (.tmp 31) (.tmp 33) rfl w0.heap.size A8 56 c8 _ rfl O8.out (some ⟨w.heap.size,35,none⟩) 16 16 (h.id 2) rfl (HD.id_at (a.out.below B8.out b.out) f 2 (by decide)) (h.id_len 2) (by decide) ?_;intro A9 c9 w9 aE aN;have O9:=yH aE;have B9:=yH (B8.out.trans aN);clear aE aN)
  |(refine aAg (o:=⟨some 37,_,_,_,_,_⟩) rfl (.tmp 34) (.tmp 36) rfl w0.heap.size A9 72 c9 _ rfl O9.out (some ⟨w.heap.size,51,none⟩) 16 16 (h.id 3) rfl (HD.id_at (a.out.below B9.out b.out) f 3 (by decide)) (h.id_len 3) (by decide) ?_;intro aM aL w10 x B;have an:=yH x;have j:=yH (B9.out.trans B);clear x B))
 have aJ:=yH (show h.ids 4=h.id 0++h.id 1++h.id 2++h.id 3 by rw[show(4:Nat)=3+1 from rfl,h.ids_succ,show(3:Nat)=2+1 from rfl,h.ids_succ,show(2:Nat)=1+1 from rfl,h.ids_succ,show(1:Nat)=0+1 from rfl,h.ids_succ];rfl)
 have OA:=yH (show Own w10 w0.heap.size aM 88 aL (h.front++h.ids 4)by rw[aS.out,aJ.out];simpa only[List.append_assoc]using an.out)
 have J:=yH (a.out.below j.out b.out)
 have aC:=yH (show InInts .u64 w10 (some ⟨w.heap.size,67,none⟩) 20 h.N from fun i hi=>⟨w.heap.size,67,rfl,J.out.lt,HD.nums_at J.out i hi,by have:=f.N i;simp[Lit.wf,IntKind.min,IntKind.max,IntKind.signed,IntKind.bits];omega⟩)
 have am:=yH (rnums_in (some ⟨w.heap.size,67,none⟩) 20 20 h.N w10 aC.out (by decide))
 have aK:=yH fun(W:World) (g:Nat) (hg:W.heap.size=g)=>aLz d W g hd hg
 have H:=yH (show(Ob.nums (ints h.N 20)).length=160 by rw[nums_len,Gn.ints_len])
 have E8:=yH (aAj d 8)
 clear O6 O7 O8 O9 B6 B7 B8 B9 an V ac aJ aS
 go_upto_region 6 with(first
  |(go_at_call 124;((with_reducible refine am.out.mono ?_);rintro e w11 ⟨X1,x1,rfl,t,G⟩;have ah:=yH t;have ab:=yH G;clear t G))
  |((with_reducible apply aAb 42);refine aAd rfl (.tmp 38) (.tmp 41) rfl w0.heap.size aM 88 aL _ rfl (OA.out.kept ab.out (yR _)) X1 160 x1 _ rfl ah.out.bytes H.out (by decide) ?_;intro aV aY w12 s I;have ag:=yH s;have Z:=yH ((j.out.trans (ab.out.mono j.out.size)).trans I);clear s I)
  |(go_at_call 124;((with_reducible refine(aK.out _ _ rfl).mono ?_);rintro e w13 ⟨X2,x2,rfl,r,p⟩;have aD:=yH r;have L:=yH p;clear r p))
  |((with_reducible apply aAb 46);refine aAd rfl (.tmp 42) (.tmp 45) rfl w0.heap.size aV 248 aY _ rfl (ag.out.kept L.out (yR _)) X2 8 x2 _ rfl aD.out.bytes E8.out (by decide) ?_;intro aP ad w14 u F;have ae:=yH u;have X:=yH ((Z.out.trans (L.out.mono Z.out.size)).trans F);clear u F))
 have aQ:=yH (show Ob.nums (ints h.N 20)++lowB d 8=Ob.nums ((HD.plus h d).nums 21)by
  rw[←aCD]
  congr 1)
 have OB:=yH (show Own w14 w0.heap.size aP 256 ad (h.front++h.ids 4++Ob.nums ((HD.plus h d).nums 21))by rw[←aQ.out,←List.append_assoc];exact ae.out)
 clear ah ag aD ab Z L ae am aK aC H E8 OA j J aQ
 have HC:=yH fun(W:World) (hW:Below w0.heap.size w0 W)=>show W.cell? ⟨w.heap.size,87,none⟩=some (.int .u32 h.ta)∧W.cell? ⟨w.heap.size,88,none⟩=some (.int .u32 h.ti)from⟨(a.out.below hW b.out).cell (h.get_ta 20),(a.out.below hW b.out).cell (h.get_ti 20)⟩
 have aH:=f.ta
 have av:=f.ti
 have LA:=yH fun(W:World)=>show Calls Tryz.prog 123 #[.int .u64 (IntKind.u64.wrap h.ta),.int .i64 4] W fun e w'=> ∃A c,e= .returned (.slice A 4 c)∧Own w' W.heap.size A 4 c (lowB h.ta 4)∧Below W.heap.size W w' by
  rw[show IntKind.u64.wrap h.ta=h.ta by rw[IntKind.wrap_u64];omega]
  exact L4.out h.ta aH.1 aH.2 W
 have LB:=yH fun(W:World)=>show Calls Tryz.prog 123 #[.int .u64 (IntKind.u64.wrap h.ti),.int .i64 4] W fun e w'=> ∃A c,e= .returned (.slice A 4 c)∧Own w' W.heap.size A 4 c (lowB h.ti 4)∧Below W.heap.size W w' by
  rw[show IntKind.u64.wrap h.ti=h.ti by rw[IntKind.wrap_u64];omega]
  exact L4.out h.ti av.1 av.2 W
 have EA:=yH (aAj h.ta 4)
 have EB:=yH (aAj h.ti 4)
 have q0:=HC.out _ X.out.drew
 have a7:=yH (yR w14.heap.size)
 go_cut [5]from 47 to 58 (fun z wx=> ∃A1 c1,z= .slice A1 264 c1∧Hid (Own wx w0.heap.size A1 264 c1 (h.front++h.ids 4++Ob.nums ((HD.plus h d).nums 21)++lowB h.ta 4++lowB h.ti 4))∧Hid (Below w0.heap.size w0 wx))
 case first=>
  go_region_held3 (fun W=>W.cell? ⟨w.heap.size,87,none⟩=some (.int .u32 h.ta)∧W.cell? ⟨w.heap.size,88,none⟩=some (.int .u32 h.ti)) (first|(with_reducible exact q0)|(with_reducible exact qa)|(with_reducible exact qg)|(with_reducible exact qz)|(with_reducible exact qy)) (first
   |(go_simp;go_at_call 123;(with_reducible refine(LA.out w14.drew).mono ?_);rintro e wa ⟨Aa,ca,rfl,ax,l⟩;have Oa:=yH ax;have Fa:=yH (X.out.drew.trans (l.mono X.out.drew.size));have Pa:=yH (OB.out.drew.kept l (yR _));have Sa:=yH l.size;have qa:=HC.out _ Fa.out;clear ax l)
   |(refine aAg (o:=⟨some 52,_,_,_,_,_⟩) rfl (.tmp 47) (.tmp 51) rfl w0.heap.size aP 256 ad _ rfl Pa.out Aa 4 ca _ rfl Oa.out.bytes EA.out (by decide) ?_;intro Ag cg wg aT aj;have Og:=yH aT;have Fg:=yH (Fa.out.trans aj);have qg:=HC.out _ Fg.out;clear aT aj)
   |(go_simp;go_at_call 123;(with_reducible refine(LB.out wg).mono ?_);rintro e wh ⟨Ah,ch,rfl,aR,Y⟩;have Oh:=yH aR;have Fh:=yH (Fg.out.trans (Y.mono Fg.out.size));have Ph:=yH (Og.out.kept Y (yR _));have qz:=HC.out _ Fh.out;clear aR Y)
   |(refine aAg (o:=⟨some 57,_,_,_,_,_⟩) rfl (.tmp 52) (.tmp 56) rfl w0.heap.size Ag 260 cg _ rfl Ph.out Ah 4 ch _ rfl Oh.out.bytes EB.out (by decide) ?_;intro Az cz wz aF aU;have Oz:=yH aF;have Fz:=yH (Fh.out.trans aU);have qy:=HC.out _ Fz.out;clear aF aU))
  all_goals
   go_wp2_with fail
   go_meet
   case rel=>exact⟨Az,cz,rfl,Oz,Fz⟩
 case rest=>
  obtain⟨A1,c1,rfl,a2,aa⟩:=hcut
  have Rz:=yH (a.out.below aa.out b.out)
  have cz:wc.cell? ⟨w.heap.size,89,none⟩=some (.int .u64 h.te):=Rz.out.cell (h.get_te 20)
  have a6:=yH fun(W:World) (g:Nat) (hg:W.heap.size=g)=>aLz h.te W g f.te hg
  have E8:=yH (aAj h.te 8)
  have E:=yH (show(HD.plus h d).bytes 21=h.front++h.ids 4++Ob.nums ((HD.plus h d).nums 21)++lowB h.ta 4++lowB h.ti 4++lowB h.te 8 from rfl)
  clear q0 LA LB HC L4
  go_wp2_with(first
   |(go_at_call 124;((with_reducible refine(a6.out _ _ rfl).mono ?_);rintro e w15 ⟨X3,x3,rfl,m,y⟩;have a5:=yH m;have aG:=yH y;clear m y))
   |((with_reducible apply aAb 63);refine aAd rfl (.tmp 58) (.tmp 62) rfl w0.heap.size A1 264 c1 _ rfl (a2.out.kept aG.out (yR _)) X3 8 x3 _ rfl a5.out.bytes E8.out (by decide) ?_;intro aW a0 w16 q D;have a4:=yH q;have a3:=yH ((aa.out.trans (aG.out.mono aa.out.size)).trans D);clear q D))
  go_ret
  exact⟨aW,a0,rfl,by rw[E.out];exact Od.Own.base (b2:=w.heap.size) a4.out (Nat.le_of_lt b.out),b0.out.trans (a3.out.mono (Nat.le_of_lt b.out))⟩
end Ge
end Go.Proofs.YtlelnfokffflnaaGreat
