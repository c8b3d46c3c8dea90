/-
  Texts beneath the proof.
-/
import Derived.Test.YtiddkgcafpaekaaGreatJq37
set_option linter.unusedVariables false
set_option linter.unusedSimpArgs false
set_option maxRecDepth 100000
set_option maxHeartbeats 16000000
open Go.ChangeShapes Go.WideShapes Go.ChangeAt Go.RowKit
namespace Go.Proofs.YtiddkgcafpaekaaGreat
namespace Wk
open Go.ChangeShapes Go.WideShapes Go.ChangeAt Go.RowKit Go.Shelf
open Bytes8 Blk8 Kf Own8 OwnA OwnE Rows2 Ob Od Ga Gb Ok7 Rc Va Dc Wa Wd We Wf
open Ye Yg Yh
open Rg (arcode)
open Ym (wordElt)
open Wb (natO)
attribute [local go_sem] Oper.semAt_some
theorem wpListIn_append_elt_at {F:Fence}{nn:Nat}{E S:TypeId}{size bytes:Nat}{z:Value}(he:Elt E S size bytes z){w:World}{ops:Array Oper}{rest:List Oper}{o:Oper}{a:Act}{Q:Exit→Act→World→Prop}(hgd:o.guard=none)(s x:Operand)
 (hop:o.op= .call {callee:= .builtin .append,args:= #[s,x],argTypes:= #[S,S]})
 (base:Nat)(A:Option Addr)(n c:Nat)(xs:List Value)(hs:a.eval s= .slice A n c)(ho:OwnE E size w base A n c xs)(ad:Addr)(m c2:Nat)(news:List Value)(hx:a.eval x= .slice (some ad) m c2)(hl:news.length=m*size)
 (hnews: ∀j u,news[j]? =some u→w.cell? (ad.add j)=some u)(h1: ∀u∈news,u.oneCell'=true)(h63:n+m≤4611686018427387904)(hbytes:(n+m)*bytes≤140737488355328)(hml:n+m≤maxLen)
 (h: ∀A' c' w',OwnE E size w' base A' (n+m) c' (xs++news)→w.grownBy w' (ownB A)→(ownB A'=ownB A∨ownB A'=some w.heap.size)→wpListIn F nn Tryz.prog ops Q rest (a.put o.dst (.slice A' (n+m) c')) w'):wpListIn F nn Tryz.prog ops Q (o::rest) a w:=by
 refine wpListIn_plain hgd fun K hK'=>?_
 obtain⟨A',c',w',hr,h2,h3,h4⟩:=run_append_elt_at he w o.type base A n c xs ho ad m c2 news hl hnews h1 h63 hbytes hml
 unfold Oper.wpIn
 refine⟨?_,?_⟩
 ·simp[Oper.about,hop,resolve,Target.leads,Sem.run_pure]
 ·rw[Oper.semAt_plain F _ _ (by rw[hop];intro c hc';cases hc')]
  simp[execOp,hop,resolve,invoke,builtin,hs,hx,hr,Result.andThen]
  exact hK' _ _ (h A' c' w' h2 h3 h4)
theorem items_any (gv:Nat)(a:Int)(w:World):Calls Tryz.prog 179 #[.pointer (some ⟨gv,0,none⟩),.int .u64 a] w fun e w'=>e= .returned (.func (.func 220) #[] #[.pointer (some ⟨w.heap.size,0,none⟩),.pointer (some ⟨w.heap.size+1,0,none⟩)])∧w'=(w.alloc (.cells #[.pointer (some ⟨gv,0,none⟩)] 51)).alloc (.cells #[.int .u64 a] 27):=by
 go_enter Tryz.func179,Tryz.ntmps179
 go_wp2
 go_ret
 exact⟨by simp,rfl⟩
theorem own_cells {E:TypeId}{size:Nat}{w:World}{b n c k:Nat}{A:Option Addr}{xs:List Value}(h:OwnE E size w b A n c xs)(hk:ownB A=some k): ∃cur,w.heap[k]? =some (.cells cur E (0,0)):=by
 obtain⟨h1,h2,h3⟩:=h
 rcases h3 with⟨e,_⟩|⟨g,cap,cur,e,_,h7,_⟩
 ·injection e with e
  subst e
  cases hk
 ·injection e with e
  subst e
  have:g=k:=by simpa [ownB]using hk
  subst this
  exact⟨cur,h7⟩
structure Gth (w0:World)(gv s:Nat)(n na ni:Int)(out:List Int)(A:Option Addr)(m c:Nat)(W:World):Prop where
 own:OwnE 27 1 W w0.heap.size A m c (out.map (Value.int .u64))
 len:out.length=m
 bv:Blk W s [.pointer (some ⟨gv,0,none⟩)] 51
 bl:Blk W (s+1) [.slice A m c] 30
 bc:Blk W (s+2) [.int .u64 n] 27
 bn:Blk W (s+3) [.int .i64 na,.int .i64 ni] 245
 r0:Blk W (s+4) [.slice none 0 0] 30
 r1:Blk W (s+5) [.int .i64 0] 3
 row: ∀k,ownB A=some k→k<s∨s+8≤k
 bel:Below w0.heap.size w0 W
 sz:s+8≤W.heap.size
theorem Gth.keptF {w0:World}{gv s:Nat}{n na ni:Int}{out:List Int}{A:Option Addr}{m c:Nat}{W W':World}{G:Nat→Prop}(h:Gth w0 gv s n na ni out A m c W)(k:KeptF G W W')(h0: ∀j,j<s+6→s≤j→ ¬G j)(hr: ∀j,ownB A=some j→ ¬G j)(hb: ∀j,j<w0.heap.size→ ¬G j):Gth w0 gv s n na ni out A m c W':=
 {own:=Mf.OwnE.keptF h.own k hr
  len:=h.len
  bv:=Kf.Blk.keptF h.bv k (h0 _ (by omega) (by omega))
  bl:=Kf.Blk.keptF h.bl k (h0 _ (by omega) (by omega))
  bc:=Kf.Blk.keptF h.bc k (h0 _ (by omega) (by omega))
  bn:=Kf.Blk.keptF h.bn k (h0 _ (by omega) (by omega))
  r0:=Kf.Blk.keptF h.r0 k (h0 _ (by omega) (by omega))
  r1:=Kf.Blk.keptF h.r1 k (h0 _ (by omega) (by omega))
  row:=h.row
  bel:=h.bel.trans ⟨k.os,k.tape,k.output,k.size,fun j hj=>k.block j (by have:=h.bel.size;omega) (hb j hj)⟩
  sz:=Nat.le_trans h.sz k.size}
theorem gth_row {w0:World}{gv s:Nat}{n na ni:Int}{out:List Int}{A:Option Addr}{m c:Nat}{W:World}(h:Gth w0 gv s n na ni out A m c W):rowOf W (s+1)=ownB A:=by
 unfold rowOf
 rw[h.bl.cell (i:=0) rfl]
theorem gth_out {w0:World}{gv s:Nat}{n na ni:Int}{out:List Int}{A:Option Addr}{m c:Nat}{V:World}(h:Gth w0 gv s n na ni out A m c V)(hs:w0.heap.size≤s)(code:Int)(D:Nat)(hD:s+8≤D):
 KeepsFrom D V ((V.setCell ⟨s+4,0,none⟩ (.slice A m c)).setCell ⟨s+5,0,none⟩ (.int .i64 code))∧Blk ((V.setCell ⟨s+4,0,none⟩ (.slice A m c)).setCell ⟨s+5,0,none⟩ (.int .i64 code)) (s+4) [.slice A m c] 30∧Blk ((V.setCell ⟨s+4,0,none⟩ (.slice A m c)).setCell ⟨s+5,0,none⟩ (.int .i64 code)) (s+5) [.int .i64 code] 3∧
  OwnE 27 1 ((V.setCell ⟨s+4,0,none⟩ (.slice A m c)).setCell ⟨s+5,0,none⟩ (.int .i64 code)) w0.heap.size A m c (out.map (Value.int .u64))∧Below w0.heap.size w0 ((V.setCell ⟨s+4,0,none⟩ (.slice A m c)).setCell ⟨s+5,0,none⟩ (.int .i64 code)):=by
 have k1:=KeptF.set1 V (s+4) 0 (.slice A m c)
 have k2:=KeptF.set1 (V.setCell ⟨s+4,0,none⟩ (.slice A m c)) (s+5) 0 (.int .i64 code)
 have kk:KeptF (fun j=>j=s+4∨j=s+5) V ((V.setCell ⟨s+4,0,none⟩ (.slice A m c)).setCell ⟨s+5,0,none⟩ (.int .i64 code)):=(k1.mono fun j e=> .inl e).trans k2 fun j _ e=> .inr e
 refine⟨⟨kk.size,fun k o hk ho hc=>(kk.block k (Array.getElem?_eq_some_iff.1 ho).1 (fun e=>by omega)).trans ho⟩,?_,?_,Mf.OwnE.keptF h.own kk (fun j hj e=>by have:=h.row j hj;omega),h.bel.trans ⟨kk.os,kk.tape,kk.output,kk.size,fun j hj=>kk.block j (by have:=h.bel.size;omega) (fun e=>by omega)⟩⟩
 ·exact Kf.Blk.keptF (show Blk (V.setCell ⟨s+4,0,none⟩ (.slice A m c)) (s+4) [.slice A m c] 30 from Boxed.set (t:=30) (.slice A m c) h.r0) k2 (fun e=>by have e1:s+4=s+5:=e;omega)
 ·exact Boxed.set (t:=3) (.int .i64 code) (show Boxed (V.setCell ⟨s+4,0,none⟩ (.slice A m c)) (s+5) 3 (.int .i64 0)from Kf.Blk.keptF h.r1 k1 (fun e=>by have e1:s+5=s+4:=e;omega))
theorem gth_outD {w0:World}{gv s:Nat}{n na ni:Int}{out:List Int}{A:Option Addr}{m c:Nat}{V:World}(h:Gth w0 gv s n na ni out A m c V)(hs:w0.heap.size≤s)(code:Int)(D:Nat)(hD:s+8≤D):
 KeepsFrom D V ((V.setCell ⟨s+4,0,none⟩ (.slice A m c)).setCell ⟨s+5,0,none⟩ (.int .i64 code)).drew∧Blk ((V.setCell ⟨s+4,0,none⟩ (.slice A m c)).setCell ⟨s+5,0,none⟩ (.int .i64 code)).drew (s+4) [.slice A m c] 30∧Blk ((V.setCell ⟨s+4,0,none⟩ (.slice A m c)).setCell ⟨s+5,0,none⟩ (.int .i64 code)).drew (s+5) [.int .i64 code] 3∧
  OwnE 27 1 ((V.setCell ⟨s+4,0,none⟩ (.slice A m c)).setCell ⟨s+5,0,none⟩ (.int .i64 code)).drew w0.heap.size A m c (out.map (Value.int .u64))∧Below w0.heap.size w0 ((V.setCell ⟨s+4,0,none⟩ (.slice A m c)).setCell ⟨s+5,0,none⟩ (.int .i64 code)).drew:=by
 obtain⟨r2,r3,r4,r5,r6⟩:=gth_out h hs code D hD
 exact⟨⟨r2.size,r2.same⟩,r3,r4,Mf.OwnE.keptF r5 ((KeptF.refl (fun _=>False) _).drew) (fun _ _ e=>e),⟨r6.os,r6.tape,r6.output,r6.size,r6.block⟩⟩
theorem gth_push {w0:World}{gv s:Nat}{n na ni:Int}{out:List Int}{A:Option Addr}{m c:Nat}{V:World}(h:Gth w0 gv s n na ni out A m c V)(hs:w0.heap.size≤s){o:Obj}{w2:World}{A5:Option Addr}{c5:Nat}{y:Int}(ho:OwnE 27 1 w2 w0.heap.size A5 (m+1) c5 (out.map (Value.int .u64)++ [.int .u64 y]))(hg:(V.alloc o).grownBy w2 (ownB A))(hat:ownB A5=ownB A∨ownB A5=some (V.alloc o).heap.size):
 Gth w0 gv s n na ni (out++ [y]) A5 (m+1) c5 (w2.setCell ⟨s+1,0,none⟩ (.slice A5 (m+1) c5))∧KpL w0.heap.size (s+1) V (w2.setCell ⟨s+1,0,none⟩ (.slice A5 (m+1) c5))∧KeptF (fun j=>ownB A=some j∨j=s+1) V (w2.setCell ⟨s+1,0,none⟩ (.slice A5 (m+1) c5))∧Blk w2 (s+1) [.slice A m c] 30:=by
 have hsz:=h.sz
 have k1:KeptF (fun j=>ownB A=some j) V w2:=(KeptF.alloc (KeptF.refl _ V) o).grown hg fun k e _=>e
 have k2:=KeptF.set1 w2 (s+1) 0 (.slice A5 (m+1) c5)
 have kk:KeptF (fun j=>ownB A=some j∨j=s+1) V (w2.setCell ⟨s+1,0,none⟩ (.slice A5 (m+1) c5)):=(k1.mono fun j e=> .inl e).trans k2 fun j _ e=> .inr e
 have hV:(V.alloc o).heap.size=V.heap.size+1:=by simp
 have hrow5: ∀k,ownB A5=some k→ownB A=some k∨k=V.heap.size+1:=fun k hk=>hat.elim (fun e=> .inl (e▸hk)) (fun e=> .inr (by rw[e,hV]at hk;injection hk with hk;exact hk.symm))
 have hrn: ∀k,ownB A=some k→k<s∨s+8≤k:=h.row
 have n0: ∀j,s≤j→j<s+6→j≠s+1→ ¬(ownB A=some j∨j=s+1):=fun j h1 h2 h3 e=>e.elim (fun e=>by have:=hrn j e;omega) h3
 have bl2:Blk w2 (s+1) [.slice A m c] 30:=Kf.Blk.keptF h.bl k1 (fun e=>by have:=hrn _ e;omega)
 have bl3:Blk (w2.setCell ⟨s+1,0,none⟩ (.slice A5 (m+1) c5)) (s+1) [.slice A5 (m+1) c5] 30:=Boxed.set (t:=30) (.slice A5 (m+1) c5) bl2
 have hbl:Below w0.heap.size V (w2.setCell ⟨s+1,0,none⟩ (.slice A5 (m+1) c5)):=⟨kk.os,kk.tape,kk.output,kk.size,fun j hj=>kk.block j (by have:=h.bel.size;omega) (fun e=>e.elim (fun e=>by have:=(Dc.OwnE.ltB h.own j e).1;omega) (fun e=>by omega))⟩
 have r3:rowOf (w2.setCell ⟨s+1,0,none⟩ (.slice A5 (m+1) c5)) (s+1)=ownB A5:=by
  unfold rowOf
  rw[bl3.cell (i:=0) rfl]
 refine⟨?_,⟨hbl,fun b q h1 h2 h3 h4=>?_,fun k hk=>?_⟩,kk,bl2⟩
 ·exact
   {own:=Mf.OwnE.keptF (by rw[List.map_append];exact ho) k2 (fun j hj e=>by
     have e1:j=s+1:=e
     rcases hrow5 j hj with h5|h5
     ·have:=hrn j h5;omega
     ·omega)
    len:=by simp[h.len]
    bv:=Kf.Blk.keptF h.bv kk (n0 _ (by omega) (by omega) (by omega))
    bl:=bl3
    bc:=Kf.Blk.keptF h.bc kk (n0 _ (by omega) (by omega) (by omega))
    bn:=Kf.Blk.keptF h.bn kk (n0 _ (by omega) (by omega) (by omega))
    r0:=Kf.Blk.keptF h.r0 kk (n0 _ (by omega) (by omega) (by omega))
    r1:=Kf.Blk.keptF h.r1 kk (n0 _ (by omega) (by omega) (by omega))
    row:=fun k hk=>(hrow5 k hk).elim (hrn k) (fun e=>by omega)
    bel:=h.bel.trans hbl
    sz:=Nat.le_trans h.sz kk.size}
 ·rw[gth_row h]at h4
  exact(kk.block b (Array.getElem?_eq_some_iff.1 h1).1 (fun e=>e.elim h4 h3)).trans h1
 ·rw[r3]at hk
  rw[gth_row h]
  have h6:=Dc.OwnE.ltB ho k hk
  have h7:=k2.size
  exact(hrow5 k hk).imp id (fun e=>⟨by omega,by omega⟩)
theorem own_put {w0 W:World}{D m c:Nat}{A:Option Addr}{xs:List Value}(ho:OwnE 27 1 W w0.heap.size A m c xs)(hb:Below w0.heap.size w0 W)(hK:W.heap[D]? =some (.deferred (some [])))(hD:w0.heap.size≤D)(o:Obj):
 OwnE 27 1 (W.putObj D o) w0.heap.size A m c xs∧Below w0.heap.size w0 (W.putObj D o):=by
 have kk:=KeptF.grow _ (grownBy_putObj' W D o)
 refine⟨Mf.OwnE.keptF ho kk (fun j hj e=>?_),hb.trans ⟨kk.os,kk.tape,kk.output,kk.size,fun j hj=>kk.block j (by have:=hb.size;omega) (fun e=>by injection e with e;omega)⟩⟩
 injection e with e
 subst e
 obtain⟨cur,hcur⟩:=own_cells ho hj
 rw[hcur]at hK
 cases hK
attribute [local irreducible] HD.cells wpList Code.wp
def Gathered (w0:World)(R:List Int×Int)(e:Ending)(w':World):Prop:=Below w0.heap.size w0 w'∧ ∃A m c,e= .returned (.tuple #[.slice A m c,.int .i64 R.2])∧OwnE 27 1 w' w0.heap.size A m c (R.1.map (Value.int .u64))∧R.1.length=m
theorem gather_any {gv:Nat}{h:HD}{A:Option Addr}{E c:Nat}{l:List Int}(w0:World)(v:ViewAt w0 gv h A E c l)(hcm:c≤maxLen)(hbig:E≤800000)(hll:l.length≤800000)(hAB:AllB l)(n na ni:Int)(a0:Nat)(ha0:a0≤18446744073709551615)(hn:0≤n∧n≤18446744073709551615)(hna:0≤na∧na≤1000)(hni:0≤ni∧ni≤1000)(out0:List Int)(A0:Option Addr)(m0 c0:Nat)(w:World)(hw:Below w0.heap.size w0 w)(ho:OwnE 27 1 w w0.heap.size A0 m0 c0 (out0.map (Value.int .u64)))(hm0:out0.length=m0)(hup:Up E out0):
 Calls Tryz.prog 140 #[.pointer (some ⟨gv,0,none⟩),.slice A0 m0 c0,.int .u64 n,.int .u64 (a0:Int),.agg #[.int .i64 na,.int .i64 ni]] w (Gathered w0 (chase h l E n na ni (E+1) out0 a0 0)):=by
 have hgv:=v
 have HO:=yH ho
 have HL:=yH hm0
 have HUp:=yH hup
 have hm8:m0≤800000:=by
  unfold Up at hup
  rw[hm0]at hup
  omega
 have hwm:IntKind.u64.wrap (m0:Int)=(m0:Int):=by rw[IntKind.wrap_u64];omega
 clear ho hup
 refine(callsIn_wide (n:=6)).1 ?_
 refine callsIn_of_wp_marks Tryz.func140 rfl trivial ?_ rfl
 refine wpIn_wide.2 ?_
 simp only[Tryz.ntmps140,List.size_toArray,List.length_cons,List.length_nil,Nat.reduceAdd,Nat.reduceSub,Array.replicate_succ,Array.replicate_zero,List.push_toArray,List.append_toArray,List.nil_append,List.cons_append]
 by_cases hfull:(m0:Int)=n
 ·have dfull:((m0:Int)==n)=true:=by simpa using hfull
  have dfull2:decide ((m0:Int)=n)=true:=by simpa using hfull
  rw[chase_full h l E n na ni (E+1) out0 a0 0 (by rw[hm0];exact hfull)]
  have B6:=yH (((((((Below.refl w.heap.size w).alloc (yR _) (.cells #[.pointer (some ⟨gv,0,none⟩)] 51)).alloc (by simp) (.cells #[.slice A0 m0 c0] 30)).alloc (by simp<;>omega) (.cells #[.int .u64 n] 27)).alloc (by simp<;>omega) (.cells #[.int .i64 na,.int .i64 ni] 245)).alloc (by simp<;>omega) (.cells #[.slice A0 m0 c0] 30)).alloc (by simp<;>omega) (.cells #[.int .i64 0] 3))
  have hs0:=hw.size
  have O6:=HO.out.kept B6.out (yR _)
  go_wp2
  refine⟨.tuple #[.slice A0 m0 c0,.int .i64 0],by simp[results,Tryz.results140,go_sem,Result.andThen],?_⟩
  exact⟨hw.trans (B6.out.mono hs0),A0,m0,c0,rfl,O6,HL.out⟩
 ·have dfull:((m0:Int)==n)=false:=by simpa using hfull
  have dfull2:decide ((m0:Int)=n)=false:=by simpa using hfull
  go_upto_region 3 with fail
  have hs0:=hw.size
  obtain⟨s,hs⟩: ∃s,w.heap.size=s:=⟨_,rfl⟩
  have K0:=((((((Blk.new w [.pointer (some ⟨gv,0,none⟩)] 51).alloc (.cells #[.slice A0 m0 c0] 30)).alloc (.cells #[.int .u64 n] 27)).alloc (.cells #[.int .i64 na,.int .i64 ni] 245)).alloc (.cells #[.slice none 0 0] 30)).alloc (.cells #[.int .i64 0] 3))
  have K1:=(((((Blk.new (w.alloc (.cells #[.pointer (some ⟨gv,0,none⟩)] 51)) [.slice A0 m0 c0] 30).alloc (.cells #[.int .u64 n] 27)).alloc (.cells #[.int .i64 na,.int .i64 ni] 245)).alloc (.cells #[.slice none 0 0] 30)).alloc (.cells #[.int .i64 0] 3))
  have K2:=((((Blk.new ((w.alloc (.cells #[.pointer (some ⟨gv,0,none⟩)] 51)).alloc (.cells #[.slice A0 m0 c0] 30)) [.int .u64 n] 27).alloc (.cells #[.int .i64 na,.int .i64 ni] 245)).alloc (.cells #[.slice none 0 0] 30)).alloc (.cells #[.int .i64 0] 3))
  have K3:=(((Blk.new (((w.alloc (.cells #[.pointer (some ⟨gv,0,none⟩)] 51)).alloc (.cells #[.slice A0 m0 c0] 30)).alloc (.cells #[.int .u64 n] 27)) [.int .i64 na,.int .i64 ni] 245).alloc (.cells #[.slice none 0 0] 30)).alloc (.cells #[.int .i64 0] 3))
  have K4:=((Blk.new ((((w.alloc (.cells #[.pointer (some ⟨gv,0,none⟩)] 51)).alloc (.cells #[.slice A0 m0 c0] 30)).alloc (.cells #[.int .u64 n] 27)).alloc (.cells #[.int .i64 na,.int .i64 ni] 245)) [.slice none 0 0] 30).alloc (.cells #[.int .i64 0] 3))
  have K5:=(Blk.new (((((w.alloc (.cells #[.pointer (some ⟨gv,0,none⟩)] 51)).alloc (.cells #[.slice A0 m0 c0] 30)).alloc (.cells #[.int .u64 n] 27)).alloc (.cells #[.int .i64 na,.int .i64 ni] 245)).alloc (.cells #[.slice none 0 0] 30)) [.int .i64 0] 3)
  have B6:=((((((Below.refl w.heap.size w).alloc (yR _) (.cells #[.pointer (some ⟨gv,0,none⟩)] 51)).alloc (by simp) (.cells #[.slice A0 m0 c0] 30)).alloc (by simp<;>omega) (.cells #[.int .u64 n] 27)).alloc (by simp<;>omega) (.cells #[.int .i64 na,.int .i64 ni] 245)).alloc (by simp<;>omega) (.cells #[.slice none 0 0] 30)).alloc (by simp<;>omega) (.cells #[.int .i64 0] 3)
  have S6:((((((w.alloc (.cells #[.pointer (some ⟨gv,0,none⟩)] 51)).alloc (.cells #[.slice A0 m0 c0] 30)).alloc (.cells #[.int .u64 n] 27)).alloc (.cells #[.int .i64 na,.int .i64 ni] 245)).alloc (.cells #[.slice none 0 0] 30)).alloc (.cells #[.int .i64 0] 3)).heap.size=s+6:=by simp only[World.alloc,Array.size_push];omega
  simp only[World.size_alloc,hs,Nat.add_assoc,Nat.reduceAdd]at K0 K1 K2 K3 K4 K5⊢
  generalize ((((((w.alloc (.cells #[.pointer (some ⟨gv,0,none⟩)] 51)).alloc (.cells #[.slice A0 m0 c0] 30)).alloc (.cells #[.int .u64 n] 27)).alloc (.cells #[.int .i64 na,.int .i64 ni] 245)).alloc (.cells #[.slice none 0 0] 30)).alloc (.cells #[.int .i64 0] 3))=w6 at*
  have c5:=K0.cell (i:=0) rfl
  have HIt:=yH (items_any gv (a0:Int) w6)
  rw[S6]at HIt
  have K6:=(Blk.new w6 [.pointer (some ⟨gv,0,none⟩)] 51).alloc (.cells #[.int .u64 (a0:Int)] 27)
  have K7:=Blk.new (w6.alloc (.cells #[.pointer (some ⟨gv,0,none⟩)] 51)) [.int .u64 (a0:Int)] 27
  have B8:Below w6.heap.size w6 ((w6.alloc (.cells #[.pointer (some ⟨gv,0,none⟩)] 51)).alloc (.cells #[.int .u64 (a0:Int)] 27)):=((Below.refl _ _).alloc (yR _) _).alloc (by simp) _
  have S8:((w6.alloc (.cells #[.pointer (some ⟨gv,0,none⟩)] 51)).alloc (.cells #[.int .u64 (a0:Int)] 27)).heap.size=s+8:=by simp only[World.alloc,Array.size_push];omega
  go_wp2_with(first
   |(go_at_call 179;(refine HIt.out.mono ?_);rintro e w7 ⟨rfl,rfl⟩)
   |fail)
  simp only[World.size_alloc,S6]at K6 K7
  generalize (w6.alloc (.cells #[.pointer (some ⟨gv,0,none⟩)] 51)).alloc (.cells #[.int .u64 (a0:Int)] 27)=W0 at*
  have HG0:Hid (Gth w0 gv s n na ni out0 A0 m0 c0 W0):=yH
   {own:=(HO.out.kept (B6.trans (B8.mono (by omega))) (by omega)),len:=HL.out
    bv:=K0.below B8 (by omega),bl:=K1.below B8 (by omega),bc:=K2.below B8 (by omega),bn:=K3.below B8 (by omega)
    r0:=K4.below B8 (by omega),r1:=K5.below B8 (by omega)
    row:=fun k hk=> .inl (by have:=(Dc.OwnE.ltB HO.out _ hk).2;omega)
    bel:=hw.trans ((B6.trans (B8.mono (by omega))).mono (by omega)),sz:=by omega}
  have HM0:Mid w0 gv (s+6) (s+7) (s+1) a0 W0:=
   {bel:=HG0.out.bel,v:=K6.cell (i:=0) rfl,at_:=K7
    row:=fun k hk=>by
     rw[gth_row HG0.out]at hk
     have:=(Dc.OwnE.ltB HO.out _ hk).2
     omega}
  have HNo:=yH fun(x:Int) (V:World) (hV:Below w0.heap.size w0 V)=>noth_any x V (hgv.below hV)
  have HFin:=yH fun(xs:List (Int×Int)) (out:List Int) (h1:xs=yl h l E (E+1) a0 0) (h2:after E n ni xs out0=some out)=>show chase h l E n na ni (E+1) out0 a0 0=(out,na)by
   rw[←runY_yl h l hAB E n na ni (E+1) a0 0 out0 (Nat.zero_le _) (by omega) (by rw[hm0];exact hfull),←h1]
   have h3:=runY_after E n na ni xs [] out0 out h2
   rw[List.append_nil]at h3
   rw[h3];rfl
  have HStop:=yH fun(pre rest:List (Int×Int)) (R:List Int×Int) (h1:yl h l E (E+1) a0 0=pre++rest) (h2: ∀r,runY E n na ni (pre++r) out0=R)=>show chase h l E n na ni (E+1) out0 a0 0=R by
   rw[←runY_yl h l hAB E n na ni (E+1) a0 0 out0 (Nat.zero_le _) (by omega) (by rw[hm0];exact hfull),h1]
   exact h2 rest
  generalize chase h l E n na ni (E+1) out0 a0 0=R at*
  clear K0 K1 K2 K3 K4 K5 K6 K7 B6 c5 HIt
  refine wpIn_wide.1 (range_own (F:=Fence.wide) (n:=5) rfl (by omega) (gf:=220) (lb:= #[.pointer (some ⟨s+6,0,none⟩),.pointer (some ⟨s+7,0,none⟩)]) rfl trivial (enters_of Tryz.func220 (by kernel_rfl) rfl)
   (items1_own w0 hgv hcm hbig hll hAB (s+6) (s+7) (s+1) a0 4 (by omega) W0 HM0 (by omega) (by omega) (by omega) (by omega) (by omega) (by omega) ha0)
   (fun X Y hXY k o hk ho hc=>(hXY.block k (Array.getElem?_eq_some_iff.1 ho).1 (fun e=>by have e1:k=s+7:=e;omega)).trans ho)
   (fun h k=>KpL.trans h k) (fun V q o o' h1 h2 h3 h4=>KpL.put (d:=W0.heap.size) (by omega) (by omega) V q o o' h1 h2 h3) (fun _=>rfl)
   (fun pre W=> ∃(out:List Int) (A:Option Addr) (m c:Nat),after E n ni pre out0=some out∧(m:Int)≠n∧Up E out∧Gth w0 gv s n na ni out A m c W)
   (fun cd pre W=>cd= .ret∧ ∃(o:List Int) (code:Int) (A:Option Addr) (m c:Nat),(∀r,runY E n na ni (pre++r) out0=(o,code))∧Blk W (s+4) [.slice A m c] 30∧Blk W (s+5) [.int .i64 code] 3∧OwnE 27 1 W w0.heap.size A m c (o.map (Value.int .u64))∧o.length=m∧(∀k,ownB A=some k→k<s∨s+8≤k)∧Below w0.heap.size w0 W)
   ?ownI ?ownX ?abI ?abX ⟨out0,A0,m0,c0,rfl,hfull,HUp.out,HG0.out⟩
   (fun x=>{tmps:= #[.pointer (some ⟨gv,0,none⟩),.slice A0 m0 c0,.int .u64 n,.int .u64 (a0:Int),.agg #[.int .i64 na,.int .i64 ni],.pointer (some ⟨s,0,none⟩),.pointer (some ⟨s+1,0,none⟩),.pointer (some ⟨s+2,0,none⟩),undef,.pointer (some ⟨s+3,0,none⟩),.pointer (some ⟨s+4,0,none⟩),.pointer (some ⟨s+5,0,none⟩),.int .u64 x.1,.int .i64 x.2,.slice A0 m0 c0,.int .i64 (m0:Int),.int .u64 (m0:Int),.int .u64 n,.bool false,undef,.pointer (some ⟨gv,0,none⟩),.int .u64 (a0:Int),.func (.func 220) #[] #[.pointer (some ⟨s+6,0,none⟩),.pointer (some ⟨s+7,0,none⟩)],.int .u64 x.1,.int .i64 x.2,undef,undef,undef,undef,undef,undef,undef,undef,undef,undef,undef,undef,undef,undef,undef,undef,undef,undef,undef,undef,undef,undef,undef,undef,undef,undef,undef,undef,undef,undef,undef,undef,undef,undef,undef,undef,undef,undef,undef,undef],defers:=[]}) ?assign ?body ?done ?stop)
  case assign=>
   intro q x V K hK
   gi_wp2
   exact hK
  case ownI=>
   rintro pre V V' row ⟨out,A1,m1,c1,h1,h2,h3,hG⟩ hg hr
   refine⟨out,A1,m1,c1,h1,h2,h3,hG.keptF (KeptF.grow row hg) (fun j hj _ e=>?_) (fun j hj e=>?_) (fun j hj e=>?_)⟩
   ·have:=(hr j e).1;omega
   ·obtain⟨_,o,ho1,ho2⟩:=hr j e
    obtain⟨cur,hcur⟩:=own_cells hG.own hj
    rw[hcur]at ho1
    injection ho1 with ho1
    rw[←ho1]at ho2
    cases ho2
   ·have:=(hr j e).1;omega
  case ownX=>
   rintro cd pre V V' row ⟨rfl,o,code,A1,m1,c1,h1,b4,b5,ho1,hl1,hrw,hbel⟩ hg hr
   have kk:=KeptF.grow row hg
   refine⟨rfl,o,code,A1,m1,c1,h1,Kf.Blk.keptF b4 kk (fun e=>?_),Kf.Blk.keptF b5 kk (fun e=>?_),Mf.OwnE.keptF ho1 kk (fun j hj e=>?_),hl1,hrw,hbel.trans ⟨kk.os,kk.tape,kk.output,kk.size,fun j hj=>kk.block j (by have:=hbel.size;omega) (fun e=>?_)⟩⟩
   ·have:=(hr _ e).1;omega
   ·have:=(hr _ e).1;omega
   ·obtain⟨_,o2,ho2,ho3⟩:=hr j e
    obtain⟨cur,hcur⟩:=own_cells ho1 hj
    rw[hcur]at ho2
    injection ho2 with ho2
    rw[←ho2]at ho3
    cases ho3
   ·have:=(hr _ e).1;omega
  case abI=>
   rintro pre V V' ⟨out,A1,m1,c1,h1,h2,h3,hG⟩ kk
   refine⟨out,A1,m1,c1,h1,h2,h3,hG.keptF kk (fun j hj _ e=>?_) (fun j hj e=>?_) (fun j hj e=>?_)⟩
   ·have e1:j=s+7:=e;omega
   ·have e1:j=s+7:=e;have:=hG.row j hj;omega
   ·have e1:j=s+7:=e;omega
  case abX=>
   rintro cd pre V V' ⟨rfl,o,code,A1,m1,c1,h1,b4,b5,ho1,hl1,hrw,hbel⟩ kk
   refine⟨rfl,o,code,A1,m1,c1,h1,Kf.Blk.keptF b4 kk (fun e=>?_),Kf.Blk.keptF b5 kk (fun e=>?_),Mf.OwnE.keptF ho1 kk (fun j hj e=>?_),hl1,hrw,hbel.trans ⟨kk.os,kk.tape,kk.output,kk.size,fun j hj=>kk.block j (by have:=hbel.size;omega) (fun e=>?_)⟩⟩
   ·have e1:s+4=s+7:=e;omega
   ·have e1:s+5=s+7:=e;omega
   ·have e1:j=s+7:=e;have:=hrw j hj;omega
   ·have e1:j=s+7:=e;omega
  case body=>
   rintro q pre x V hpx ⟨out,A1,m1,c1,h1,h2,h3,hG⟩
   obtain⟨y,z⟩:=x
   have hy0:0≤y:=hpx
   clear hpx
   have cv:=hG.bv.cell (i:=0) rfl
   have cl:=hG.bl.cell (i:=0) rfl
   have cc:=hG.bc.cell (i:=0) rfl
   have cn0:=hG.bn.cell (i:=0) rfl
   have cn1:=hG.bn.cell (i:=1) rfl
   have c4:=hG.r0.cell (i:=0) rfl
   have c5:=hG.r1.cell (i:=0) rfl
   have f1:=hG.bl.frozen 0
   have f4:=hG.r0.frozen 0
   have f5:=hG.r1.frozen 0
   have hm1:m1≤800000:=by
    have h4:=h3
    unfold Up at h4
    rw[hG.len]at h4
    omega
   have HG:=yH hG
   have H1:=yH h1
   have H3:=yH h3
   have HD:=yH (show s+8≤W0.heap.size by omega)
   have HS0:=yH (show w0.heap.size≤s by omega)
   have HNx:=yH fun(V':World) (hV:Below V.heap.size V V')=>HNo.out y V' (HG.out.bel.trans (hV.mono HG.out.bel.size))
   clear hG h1 h3 HG0 HM0 B8 hw hs0
   have hn1:1≤5-1-1:=by omega
   have HR:=yH fun(code:Int) (hst:Wd.step E n ni out (y,z)=(out,some code))=>show ∀r,runY E n na ni (pre++ [(y,z)]++r) out0=(out,code)from fun r=>by
    rw[show pre++ [(y,z)]++r=pre++((y,z)::r)by simp,runY_after E n na ni pre _ out0 out H1.out,runY_cons,hst]
   have HLv:=yH fun(code:Int)=>gth_out HG.out HS0.out code W0.heap.size HD.out
   have HLd:=yH fun(code:Int)=>gth_outD HG.out HS0.out code W0.heap.size HD.out
   by_cases hz:z≠0
   ·have d1:(z==0)=false:=by simpa using hz
    have d2:decide (z=0)=false:=by simpa using hz
    have d3:(z !=0)=true:=by simpa using hz
    gi_wp2
    obtain⟨r2,r3,r4,r5,r6⟩:=HLv.out z
    exact⟨r2,rfl,out,z,A1,m1,c1,HR.out z (by unfold Wd.step;rw[if_pos hz]),r3,r4,r5,HG.out.len,HG.out.row,r6⟩
   have hz0:z=0:=by simpa using hz
   subst hz0
   clear hz
   by_cases hno:nothB E y=true
   ·have hst:Wd.step E n ni out (y,0)=(out,some ni):=by unfold Wd.step;rw[if_neg (by simp),if_pos hno]
    have HRn:=yH (HR.out ni hst)
    clear hst
    gi_wp2_with (first
     |(refine⟨trivial,?_⟩;gi_at_call 180;refine(CallsIn.inRound q (callsIn_wide.2 (HNx.out _ (Below.refl _ _)))).mono ?_;rintro e w1 ⟨rfl,rfl⟩;(try rw[hno]))
     |fail)
    gi_region
    all_goals gi_wp2
    all_goals
     obtain⟨r2,r3,r4,r5,r6⟩:=HLd.out ni
     exact⟨r2,rfl,out,ni,A1,m1,c1,HRn.out,r3,r4,r5,HG.out.len,HG.out.row,r6⟩
   have hno':nothB E y=false:=by simpa using hno
   have hlen:=HG.out.len
   by_cases hor:0<m1∧y≤lastI out
   ·have hst:Wd.step E n ni out (y,0)=(out,some 13):=by unfold Wd.step;rw[if_neg (by simp),if_neg (by simpa using hno'),if_pos ⟨by rw[hlen];exact hor.1,hor.2⟩]
    have HRn:=yH (HR.out 13 hst)
    obtain⟨hz1,hor⟩:=hor
    obtain⟨m3,hm3⟩: ∃q,m1=q+1:=⟨m1-1,by omega⟩
    have hq:IntKind.i64.wrap ((m1:Int)-1)=(m3:Int):=by rw[IntKind.wrap_i64];omega
    obtain⟨gq,hA3,_,_,hcl⟩:=HG.out.own.cell (i:=m3) (by rw[HG.out.own.len];omega)
    rw[last_cell out m3 (by omega)]at hcl
    subst hA3
    generalize lastI out=lz at*
    have e4:decide ((m1:Int)>0)=true:=by simp;omega
    have e5:decide (0<m1)=true:=by simp;omega
    have e6:decide ((0:Int)<(m1:Int))=true:=by simp;omega
    have e7:decide (y≤lz)=true:=by simpa using hor
    have h3l:m3<m1:=by omega
    have e8:decide ((m3:Int)<(m1:Int))=true:=by simp;omega
    clear hst hno hm3 hlen hz1
    gi_wp2_with (first
     |(refine⟨trivial,?_⟩;gi_at_call 180;refine(CallsIn.inRound q (callsIn_wide.2 (HNx.out _ (Below.refl _ _)))).mono ?_;rintro e w1 ⟨rfl,rfl⟩;(try rw[hno']))
     |fail)
    obtain⟨r2,r3,r4,r5,r6⟩:=HLv.out 13
    exact⟨r2,rfl,out,13,_,m1,c1,HRn.out,r3,r4,r5,HG.out.len,HG.out.row,r6⟩
   have HY:=yH hor
   have hgt:lastI out<y:=by
    rcases Nat.eq_zero_or_pos m1 with h5|h5
    ·have h6:out=[]:=List.eq_nil_of_length_eq_zero (by omega)
     rw[h6]
     simp[nothB]at hno'
     simp[lastI]
     omega
    ·have:=fun h6=>hor ⟨h5,h6⟩;omega
   have HUp2:=yH (H3.out.snoc hgt hno')
   have hstP: ∀b:Option Int,(if(((out++ [y]).length:Nat):Int)=n then some (0:Int)else none)=b→Wd.step E n ni out (y,0)=(out++ [y],b):=fun b hb=>by
    unfold Wd.step
    rw[if_neg (by simp),if_neg (by simpa using hno'),if_neg (by rw[hlen];exact hor),←hb]
    split<;>rfl
   have hl1:(((out++ [y]).length:Nat):Int)=(m1:Int)+1:=by rw[List.length_append,List.length_singleton,hlen];omega
   rw[hl1]at hstP
   have HSt:=yH hstP
   have hwm1:IntKind.u64.wrap ((m1+1:Nat):Int)=((m1+1:Nat):Int):=by rw[IntKind.wrap_u64];omega
   clear hstP hno
   rcases Nat.eq_zero_or_pos m1 with hz1|hz1
   ·have e4:decide ((m1:Int)>0)=false:=by simp;omega
    have e5:decide (0<m1)=false:=by simp;omega
    have e6:decide ((0:Int)<(m1:Int))=false:=by simp;omega
    clear hor hlen hgt hz1
    gi_upto_region 13 with(first
     |(refine⟨trivial,?_⟩;gi_at_call 180;refine(CallsIn.inRound q (callsIn_wide.2 (HNx.out _ (Below.refl _ _)))).mono ?_;rintro e w1 ⟨rfl,rfl⟩;(try rw[hno']))
     |(gi_at_builtin;refine wpListIn_append_elt_at wordElt rfl (.tmp 52) (.tmp 54) rfl w0.heap.size A1 m1 c1 (out.map (Value.int .u64)) rfl (OwnE.alloc HG.out.own _) ⟨V.heap.size,0,none⟩ 1 1 [.int .u64 y] rfl rfl (Blk.news (Blk.new V [.int .u64 y] 27)) (by intro u hu;simp at hu;subst hu;rfl) (by omega) (by omega) (by unfold maxLen;omega) ?_;intro A5 c5 w5 ho5 hg5 hat5;have HP:=yH (gth_push HG.out HS0.out ho5 hg5 hat5);clear ho5 hg5 hat5;have cl5:=HP.out.2.2.2.cell (i:=0) rfl;have fl5:=HP.out.2.2.2.frozen 0)
     |fail)
    obtain⟨hG5,hK5,hKF,_⟩:=HP.out
    have cl6:=hG5.bl.cell (i:=0) rfl
    have cc6:=hG5.bc.cell (i:=0) rfl
    have c46:=hG5.r0.cell (i:=0) rfl
    have c56:=hG5.r1.cell (i:=0) rfl
    have f46:=hG5.r0.frozen 0
    have f56:=hG5.r1.frozen 0
    have HG5:=yH hG5
    have HK5:=yH hK5
    have hKF5:KeepsFrom W0.heap.size V (w5.setCell ⟨s+1,0,none⟩ (.slice A5 (m1+1) c5)):=⟨hKF.size,fun k o hk ho hc=>(hKF.block k (Array.getElem?_eq_some_iff.1 ho).1 (fun e=>by
     have:=HD.out
     rcases e with e|e
     ·obtain⟨cur,hcur⟩:=own_cells HG.out.own e
      rw[hcur]at ho
      injection ho with ho
      rw[←ho]at hc
      cases hc
     ·omega)).trans ho⟩
    have HKF5:=yH hKF5
    clear hG5 hK5 hKF hKF5 HP cl5 fl5
    generalize w5.setCell ⟨s+1,0,none⟩ (.slice A5 (m1+1) c5)=w6 at*
    by_cases hfn:(m1:Int)+1=n
    ·have hfn2:((m1+1:Nat):Int)=n:=by omega
     have d7:(((m1+1:Nat):Int)==n)=true:=by simpa using hfn2
     have d8:decide (((m1+1:Nat):Int)=n)=true:=by simpa using hfn2
     have HR0:=yH fun r=>show runY E n na ni (pre++ [(y,0)]++r) out0=(out++ [y],0)from by
      rw[show pre++ [(y,0)]++r=pre++((y,0)::r)by simp,runY_after E n na ni pre _ out0 out H1.out,runY_cons,HSt.out (some 0) (if_pos hfn)]
     have HLv5:=yH (gth_out HG5.out HS0.out 0 W0.heap.size HD.out)
     gi_wp2
     obtain⟨r2,r3,r4,r5,r6⟩:=HLv5.out
     exact⟨HKF5.out.trans r2,rfl,out++ [y],0,_,m1+1,c5,HR0.out,r3,r4,r5,HG5.out.len,HG5.out.row,r6⟩
    ·have hfn2: ¬((m1+1:Nat):Int)=n:=by omega
     have d7:(((m1+1:Nat):Int)==n)=false:=by simpa using hfn2
     have d8:decide (((m1+1:Nat):Int)=n)=false:=by simpa using hfn2
     have HA0:=yH (after_snoc E n ni (y,0) pre out0 out (out++ [y]) H1.out (HSt.out none (if_neg hfn)))
     have HFN:=yH hfn2
     gi_wp2
     exact⟨HKF5.out,HK5.out,out++ [y],A5,m1+1,c5,HA0.out,HFN.out,HUp2.out,HG5.out⟩
   ·obtain⟨m3,hm3⟩: ∃q,m1=q+1:=⟨m1-1,by omega⟩
    have hq:IntKind.i64.wrap ((m1:Int)-1)=(m3:Int):=by rw[IntKind.wrap_i64];omega
    obtain⟨gq,hA3,_,_,hcl⟩:=HG.out.own.cell (i:=m3) (by rw[HG.out.own.len];omega)
    rw[last_cell out m3 (by omega)]at hcl
    subst hA3
    have HGT:=yH hgt
    have HZ1:=yH hz1
    have HLn:=yH hlen
    have hng: ¬y≤lastI out:=by omega
    have e7:decide (y≤lastI out)=false:=by simpa using hng
    generalize lastI out=lz at*
    have e4:decide ((m1:Int)>0)=true:=by simp;omega
    have e5:decide (0<m1)=true:=by simp;omega
    have e6:decide ((0:Int)<(m1:Int))=true:=by simp;omega
    have h3l:m3<m1:=by omega
    have e8:decide ((m3:Int)<(m1:Int))=true:=by simp;omega
    clear hm3 hlen hz1 hgt hng hor
    gi_upto_region 13 with(first
     |(refine⟨trivial,?_⟩;gi_at_call 180;refine(CallsIn.inRound q (callsIn_wide.2 (HNx.out _ (Below.refl _ _)))).mono ?_;rintro e w1 ⟨rfl,rfl⟩;(try rw[hno']))
     |(gi_at_builtin;refine wpListIn_append_elt_at wordElt rfl (.tmp 52) (.tmp 54) rfl w0.heap.size (some ⟨gq,0,none⟩) m1 c1 (out.map (Value.int .u64)) rfl (OwnE.alloc HG.out.own _) ⟨V.heap.size,0,none⟩ 1 1 [.int .u64 y] rfl rfl (Blk.news (Blk.new V [.int .u64 y] 27)) (by intro u hu;simp at hu;subst hu;rfl) (by omega) (by omega) (by unfold maxLen;omega) ?_;intro A5 c5 w5 ho5 hg5 hat5;have HP:=yH (gth_push HG.out HS0.out ho5 hg5 hat5);clear ho5 hg5 hat5;have cl5:=HP.out.2.2.2.cell (i:=0) rfl;have fl5:=HP.out.2.2.2.frozen 0)
     |fail)
    obtain⟨hG5,hK5,hKF,_⟩:=HP.out
    have cl6:=hG5.bl.cell (i:=0) rfl
    have cc6:=hG5.bc.cell (i:=0) rfl
    have c46:=hG5.r0.cell (i:=0) rfl
    have c56:=hG5.r1.cell (i:=0) rfl
    have f46:=hG5.r0.frozen 0
    have f56:=hG5.r1.frozen 0
    have HG5:=yH hG5
    have HK5:=yH hK5
    have hKF5:KeepsFrom W0.heap.size V (w5.setCell ⟨s+1,0,none⟩ (.slice A5 (m1+1) c5)):=⟨hKF.size,fun k o hk ho hc=>(hKF.block k (Array.getElem?_eq_some_iff.1 ho).1 (fun e=>by
     have:=HD.out
     rcases e with e|e
     ·obtain⟨cur,hcur⟩:=own_cells HG.out.own e
      rw[hcur]at ho
      injection ho with ho
      rw[←ho]at hc
      cases hc
     ·omega)).trans ho⟩
    have HKF5:=yH hKF5
    clear hG5 hK5 hKF hKF5 HP cl5 fl5
    generalize w5.setCell ⟨s+1,0,none⟩ (.slice A5 (m1+1) c5)=w6 at*
    by_cases hfn:(m1:Int)+1=n
    ·have hfn2:((m1+1:Nat):Int)=n:=by omega
     have d7:(((m1+1:Nat):Int)==n)=true:=by simpa using hfn2
     have d8:decide (((m1+1:Nat):Int)=n)=true:=by simpa using hfn2
     have HR0:=yH fun r=>show runY E n na ni (pre++ [(y,0)]++r) out0=(out++ [y],0)from by
      rw[show pre++ [(y,0)]++r=pre++((y,0)::r)by simp,runY_after E n na ni pre _ out0 out H1.out,runY_cons,HSt.out (some 0) (if_pos hfn)]
     have HLv5:=yH (gth_out HG5.out HS0.out 0 W0.heap.size HD.out)
     gi_wp2
     obtain⟨r2,r3,r4,r5,r6⟩:=HLv5.out
     exact⟨HKF5.out.trans r2,rfl,out++ [y],0,_,m1+1,c5,HR0.out,r3,r4,r5,HG5.out.len,HG5.out.row,r6⟩
    ·have hfn2: ¬((m1+1:Nat):Int)=n:=by omega
     have d7:(((m1+1:Nat):Int)==n)=false:=by simpa using hfn2
     have d8:decide (((m1+1:Nat):Int)=n)=false:=by simpa using hfn2
     have HA0:=yH (after_snoc E n ni (y,0) pre out0 out (out++ [y]) H1.out (HSt.out none (if_neg hfn)))
     have HFN:=yH hfn2
     gi_wp2
     exact⟨HKF5.out,HK5.out,out++ [y],A5,m1+1,c5,HA0.out,HFN.out,HUp2.out,HG5.out⟩
  case done=>
   rintro D xs V hD hxs ⟨out,A1,m1,c1,h1,h2,h3,hG⟩ hK
   have hRR:=HFin.out xs out hxs h1
   have cl:=hG.bl.cell (i:=0) rfl
   have cn0:=hG.bn.cell (i:=0) rfl
   have c4:=hG.r0.cell (i:=0) rfl
   have c5:=hG.r1.cell (i:=0) rfl
   have f4:=hG.r0.frozen 0
   have f5:=hG.r1.frozen 0
   have hs0':w0.heap.size≤s:=by omega
   have HLd:=yH (gth_outD hG hs0' na W0.heap.size (by omega))
   have HRR:=yH hRR
   have HKK:=yH hK
   have HG:=yH hG
   have HDD:=yH hD
   clear hK hRR h1 hxs
   go_upto_region 15 with fail
   go_region
   all_goals
    go_wp2
    obtain⟨r2,r3,r4,r5,r6⟩:=HLd.out
    have hKD:=r2.same D _ HDD.out HKK.out rfl
    obtain⟨o1,o2⟩:=own_put r5 r6 hKD (by have:=HDD.out;omega) (.deferred none)
    have hb4:=(World.cell?_of_block (a:=⟨s+4,0,none⟩) (World.putObj_heap_other (w:=((V.setCell ⟨s+4,0,none⟩ (.slice A1 m1 c1)).setCell ⟨s+5,0,none⟩ (.int .i64 na)).drew) (o:= .deferred none) (show s+4≠D by have:=HDD.out;omega))).trans (r3.cell (i:=0) rfl)
    have hb5:=(World.cell?_of_block (a:=⟨s+5,0,none⟩) (World.putObj_heap_other (w:=((V.setCell ⟨s+4,0,none⟩ (.slice A1 m1 c1)).setCell ⟨s+5,0,none⟩ (.int .i64 na)).drew) (o:= .deferred none) (show s+5≠D by have:=HDD.out;omega))).trans (r4.cell (i:=0) rfl)
    refine⟨by simp,.inl ⟨_,_,rfl,run_takeDeferred hKD,?_⟩⟩
    refine⟨.tuple #[.slice A1 m1 c1,.int .i64 na],by simp[results,Tryz.results140,go_sem,Result.andThen,hb4,hb5],?_⟩
    rw[HRR.out]
    exact⟨o2,A1,m1,c1,rfl,o1,HG.out.len⟩
  case stop=>
   rintro D cd pre V hD ⟨rest,hpre⟩ ⟨rfl,o,code,A1,m1,c1,h1,b4,b5,ho1,hl1,hrw,hbel⟩ hK
   have hRR:=HStop.out pre rest (o,code) hpre h1
   obtain⟨o1,o2⟩:=own_put ho1 hbel hK (by omega) (.deferred none)
   have hb4:=(World.cell?_of_block (a:=⟨s+4,0,none⟩) (World.putObj_heap_other (w:=V) (o:= .deferred none) (show s+4≠D by omega))).trans (b4.cell (i:=0) rfl)
   have hb5:=(World.cell?_of_block (a:=⟨s+5,0,none⟩) (World.putObj_heap_other (w:=V) (o:= .deferred none) (show s+5≠D by omega))).trans (b5.cell (i:=0) rfl)
   have HRR:=yH hRR
   clear hRR
   gi_wp2
   refine⟨by simp,.inl ⟨_,_,rfl,run_takeDeferred hK,?_⟩⟩
   refine⟨.tuple #[.slice A1 m1 c1,.int .i64 code],by simp[results,Tryz.results140,go_sem,Result.andThen,hb4,hb5],?_⟩
   rw[HRR.out]
   exact⟨o2,A1,m1,c1,rfl,o1,hl1⟩
end Wk
namespace Wl
open Bytes8 Blk8 Own8 OwnE Ga Gb Ok7 Rc Va Dc Wa Wk
open Ye Yg Yh
open Rd (dcode)
open Lk (vhead_any)
attribute [local irreducible] HD.cells wpList Code.wp
theorem entries_any {gv:Nat}{h:HD}{A:Option Addr}{E c:Nat}{l:List Int}(w:World)(v:ViewAt w gv h A E c l)(hcm:c≤maxLen)(hbig:E≤800000)(hll:l.length≤800000)(hAB:AllB l)(hok:h.Ok 21):
 Calls Tryz.prog 83 #[.pointer (some ⟨gv,0,none⟩)] w (TellL (chase h l E (h.N 8) 14 2 (E+1) [] (h.N 11).toNat 0) w):=by
 have HH:=yH (vhead_any w v.blk)
 have h8:=hok.N 8
 have h11:=hok.N 11
 have he11:((h.N 11).toNat:Int)=h.N 11:=by omega
 have HGa:=yH fun(W:World) (hW:Below w.heap.size w W)=>by
  have q:=gather_any w v hcm hbig hll hAB (h.N 8) 14 2 (h.N 11).toNat (by omega) h8 (by decide) (by decide) [] none 0 0 W hW (OwnE.nil W w.heap.size hW.size) rfl (Up.nil E)
  rw[he11]at q
  exact q
 clear v
 unfold Gathered at HGa
 unfold TellL
 generalize chase h l E (h.N 8) 14 2 (E+1) [] (h.N 11).toNat 0=R at*
 go_enter Tryz.func83,Tryz.ntmps83
 go_upto_region 2 with(first
  |(go_at_call 106;(refine HH.out.mono ?_);rintro e w1 ⟨rfl,hb1⟩;have B1:=yH hb1;clear hb1)
  |((with_reducible apply at_store (.tmp 4) (.tmp 6));refine wpList_store_row rfl 39 (.tmp 4) (.tmp 6) rfl w1.heap.size (h.cells 21).toArray rfl rfl 39 Tryz.zeroCells39 (heap_alloc_new w1 _) (cells_info _) zeros_size (HD.one _ 21) ?_)
  |fail)
 have R2:=yH (show Blk ((w1.alloc (.cells Tryz.zeroCells39 39)).setRow w1.heap.size (h.cells 21).toArray) w1.heap.size (h.cells 21) 39 from setRow_heap _ _ _ _ _ (0,0) (heap_alloc_new w1 _))
 have B2:=yH (show Below w.heap.size w ((w1.alloc (.cells Tryz.zeroCells39 39)).setRow w1.heap.size (h.cells 21).toArray)from below_setRow (B1.out.alloc B1.out.size _) B1.out.size _)
 generalize (w1.alloc (.cells Tryz.zeroCells39 39)).setRow w1.heap.size (h.cells 21).toArray=w2 at*
 generalize w1.heap.size=s4 at*
 have c75:w2.cell? ⟨s4,75,none⟩=some (.int .u64 (h.N 8)):=R2.out.cell (h.get_N 21 8 (by decide))
 have c78:w2.cell? ⟨s4,78,none⟩=some (.int .u64 (h.N 11)):=R2.out.cell (h.get_N 21 11 (by decide))
 clear HH B1
 go_wp2_with(first
  |(go_at_call 140;(refine(HGa.out _ B2.out).mono ?_);rintro e w3 ⟨hb3,A3,m3,c3,rfl,ho3,hl3⟩;have B3:=yH hb3;have O3:=yH ho3;have L3:=yH hl3;clear hb3 ho3 hl3)
  |fail)
 go_ret2
 exact⟨B3.out,A3,m3,c3,rfl,O3.out,L3.out⟩
end Wl
namespace Wm
open Ga Gb
open Ye Yh
open Rd (dcode)
open Lk (vhead_any)
attribute [local irreducible] HD.cells wpList Code.wp
end Wm
namespace Ls
open Bytes8 Blk8 Own8 OwnE Rows2 Ga Gb Dc Wa
open Ye Yh
open Rd (dcode)
open Rg (arcode)
open Ma (roomN)
def U64 (out:List Int):Prop:= ∀x∈out,0≤x∧x≤18446744073709551615
def Fit (E:Nat)(out:List Int):Prop:=Up E out∧U64 out
theorem U64.snoc {out:List Int}{x:Int}(h:U64 out)(hx:0≤x∧x≤18446744073709551615):U64 (out++ [x]):=fun y hy=>by
 rcases List.mem_append.1 hy with h1|h1
 ·exact h y h1
 ·rw[List.mem_singleton]at h1;exact h1▸hx
theorem inA_fit {K:List Int→List Int×Int}{E:Nat}{n ni:Int}{g:Nat→Int}(hg: ∀i,0≤g i∧g i≤18446744073709551615)(hK: ∀o,Fit E o→Fit E (K o).1): ∀(m i:Nat) (out:List Int),Fit E out→Fit E (inA K E n ni g m i out).1
 |0,i,out,h=>hK out h
 |m+1,i,out,h=>by
  unfold inA
  by_cases h1:(out.length:Int)=n
  ·rw[if_pos h1];exact h
  ·rw[if_neg h1]
   by_cases h2:nothB E (g i)=true
   ·rw[if_pos h2];exact h
   ·rw[if_neg h2]
    by_cases h3:g i≤lastI out
    ·rw[if_pos h3];exact h
    ·rw[if_neg h3]
     exact inA_fit hg hK m (i+1) _ ⟨h.1.snoc (by omega) (by simpa using h2),h.2.snoc (hg i)⟩
theorem chase_fit {h:HD}{l:List Int}(hA:AllB l){E:Nat}{n na ni:Int}: ∀(f:Nat) (out:List Int) (a last:Nat),Fit E out→Fit E (chase h l E n na ni f out a last).1
 |0,out,a,last,h=>h
 |f+1,out,a,last,hh=>by
  unfold chase
  by_cases h1:(out.length:Int)=n
  ·rw[if_pos h1];exact hh
  ·rw[if_neg h1]
   by_cases h2:nothB E (a:Int)=true
   ·rw[if_pos h2];exact hh
   ·rw[if_neg h2]
    by_cases h3:a≤last
    ·rw[if_pos h3];exact hh
    ·rw[if_neg h3]
     by_cases h4:arcode h l E a≠0
     ·rw[if_pos h4];exact hh
     ·rw[if_neg h4]
      exact inA_fit (fun i=>arF_nn hA i) (fun o ho=>chase_fit hA f o _ _ ho) _ _ _ hh
theorem fit_nil (E:Nat):Fit E []:=⟨Up.nil E,fun x hx=>by cases hx⟩
theorem tell_ints {w:World}{b m c:Nat}{A:Option Addr}{out:List Int}(h:OwnE 27 1 w b A m c (out.map (Value.int .u64)))(hl:out.length=m)(hb:U64 out):InInts .u64 w A m (fun i=>out.getD i 0):=fun i hi=>by
 obtain⟨g,e,_,h2,h3⟩:=h.cell (i:=i) (by rw[List.length_map];omega)
 have hi2:i<out.length:=by omega
 rw[List.getElem?_map,List.getElem?_eq_getElem hi2]at h3
 have e2:out.getD i 0=out[i]:=by simp[List.getElem?_eq_getElem hi2]
 refine⟨g,0,e,h2,?_,?_⟩
 ·show w.cell? ⟨g,0+i,none⟩=some (.int .u64 (out.getD i 0))
  rw[Nat.zero_add,e2]
  exact h3
 ·have:=hb out[i] (List.getElem_mem hi2)
  show(Lit.int .u64 (out.getD i 0)).wf=true
  rw[e2]
  simp[Lit.wf,IntKind.min,IntKind.max,IntKind.signed,IntKind.bits]
  omega
attribute [local irreducible] HD.cells wpList Code.wp
end Ls
end Go.Proofs.YtiddkgcafpaekaaGreat
