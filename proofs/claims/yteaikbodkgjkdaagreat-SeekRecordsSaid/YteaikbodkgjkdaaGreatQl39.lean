/-
  Texts beneath.
-/
import Derived.Test.YteaikbodkgjkdaaGreatQl38
set_option linter.unusedVariables false
set_option linter.unusedSimpArgs false
set_option maxRecDepth 100000
set_option maxHeartbeats 16000000
open Go.ChangeShapes Go.WideShapes Go.ChangeAt Go.RowKit
namespace Go.Proofs.YteaikbodkgjkdaaGreat
namespace Wk
open Go.ChangeShapes Go.WideShapes Go.ChangeAt Go.RowKit Go.Shelf
open Bytes8 Blk8 Kf Own8 OwnA OwnE Rows2 Ob Od Ga Gb Ok7 Rc Va Dc Wa Wd We Wf
open Ye Yg Yh
open Rg (arcode)
open Ym (aBC)
open Wb (natO)
attribute [local go_sem] Oper.semAt_some
theorem aAQ {F:Fence}{y:Nat}{E S:TypeId}{size d:Nat}{z:Value}(N:Elt E S size d z){w:World}{k:Array Oper}{rest:List Oper}{o:Oper}{a:Act}{Q:Exit→Act→World→Prop}(p:o.guard=none)(s x:Operand)
 (f:o.op= .call {callee:= .builtin .append,args:= #[s,x],argTypes:= #[S,S]})
 (base:Nat)(A:Option Addr)(n c:Nat)(xs:List Value)(hs:a.eval s= .slice A n c)(H:OwnE E size w base A n c xs)(t:Addr)(m B:Nat)(b:List Value)(M:a.eval x= .slice (some t) m B)(I:b.length=m*size)
 (g: ∀j u,b[j]? =some u→w.cell? (t.add j)=some u)(G: ∀u∈b,u.oneCell'=true)(r:n+m≤4611686018427387904)(e:(n+m)*d≤140737488355328)(v:n+m≤maxLen)
 (h: ∀i l w',OwnE E size w' base i (n+m) l (xs++b)→w.grownBy w' (ownB A)→(ownB i=ownB A∨ownB i=some w.heap.size)→wpListIn F y Tryz.prog k Q rest (a.put o.dst (.slice i (n+m) l)) w'):wpListIn F y Tryz.prog k Q (o::rest) a w:=by
 refine wpListIn_plain p fun K hK'=>?_
 obtain⟨i,l,w',J,C,L,D⟩:=aAA N w o.type base A n c xs H t m B b I g G r e v
 unfold Oper.wpIn
 refine⟨?_,?_⟩
 ·simp[Oper.about,f,resolve,Target.leads,Sem.run_pure]
 ·rw[Oper.semAt_plain F _ _ (by rw[f];intro c q;cases q)]
  simp[execOp,f,resolve,invoke,builtin,hs,M,J,Result.andThen]
  exact hK' _ _ (h i l w' C L D)
theorem aLy (b:Nat)(a:Int)(w:World):Calls Tryz.prog 122 #[.pointer (some ⟨b,0,none⟩),.int .u64 a] w fun e w'=>e= .returned (.func (.func 155) #[] #[.pointer (some ⟨w.heap.size,0,none⟩),.pointer (some ⟨w.heap.size+1,0,none⟩)])∧w'=(w.alloc (.cells #[.pointer (some ⟨b,0,none⟩)] 88)).alloc (.cells #[.int .u64 a] 59):=by
 go_enter Tryz.func122,Tryz.ntmps122
 go_wp2
 go_ret
 exact⟨by simp,rfl⟩
theorem aBU {E:TypeId}{size:Nat}{w:World}{b n c k:Nat}{A:Option Addr}{xs:List Value}(h:OwnE E size w b A n c xs)(d:ownB A=some k): ∃a,w.heap[k]? =some (.cells a E (0,0)):=by
 obtain⟨m,l,f⟩:=h
 rcases f with⟨e,_⟩|⟨g,j,a,e,_,i,_⟩
 ·injection e with e
  subst e
  cases d
 ·injection e with e
  subst e
  have:g=k:=by simpa [ownB]using d
  subst this
  exact⟨a,i⟩
structure Gth (w0:World)(gv s:Nat)(n na ni:Int)(out:List Int)(A:Option Addr)(m c:Nat)(W:World):Prop where
 own:OwnE 59 1 W w0.heap.size A m c (out.map (Value.int .u64))
 len:out.length=m
 bv:Blk W s [.pointer (some ⟨gv,0,none⟩)] 88
 bl:Blk W (s+1) [.slice A m c] 91
 bc:Blk W (s+2) [.int .u64 n] 59
 bn:Blk W (s+3) [.int .i64 na,.int .i64 ni] 175
 r0:Blk W (s+4) [.slice none 0 0] 91
 r1:Blk W (s+5) [.int .i64 0] 3
 row: ∀k,ownB A=some k→k<s∨s+8≤k
 bel:Below w0.heap.size w0 W
 sz:s+8≤W.heap.size
theorem Gth.keptF {w0:World}{b s:Nat}{n na ni:Int}{out:List Int}{A:Option Addr}{m c:Nat}{W d:World}{G:Nat→Prop}(h:Gth w0 b s n na ni out A m c W)(k:KeptF G W d)(a: ∀j,j<s+6→s≤j→ ¬G j)(e: ∀j,ownB A=some j→ ¬G j)(f: ∀j,j<w0.heap.size→ ¬G j):Gth w0 b s n na ni out A m c d:=
 {own:=Mf.OwnE.keptF h.own k e
  len:=h.len
  bv:=Kf.Blk.keptF h.bv k (a _ (by omega) (by omega))
  bl:=Kf.Blk.keptF h.bl k (a _ (by omega) (by omega))
  bc:=Kf.Blk.keptF h.bc k (a _ (by omega) (by omega))
  bn:=Kf.Blk.keptF h.bn k (a _ (by omega) (by omega))
  r0:=Kf.Blk.keptF h.r0 k (a _ (by omega) (by omega))
  r1:=Kf.Blk.keptF h.r1 k (a _ (by omega) (by omega))
  row:=h.row
  bel:=h.bel.trans ⟨k.os,k.tape,k.output,k.size,fun j hj=>k.block j (by have:=h.bel.size;omega) (f j hj)⟩
  sz:=Nat.le_trans h.sz k.size}
theorem aHK {w0:World}{a s:Nat}{n na ni:Int}{out:List Int}{A:Option Addr}{m c:Nat}{W:World}(h:Gth w0 a s n na ni out A m c W):rowOf W (s+1)=ownB A:=by
 unfold rowOf
 rw[h.bl.cell (i:=0) rfl]
theorem aFM {w0:World}{g s:Nat}{n na ni:Int}{out:List Int}{A:Option Addr}{m c:Nat}{V:World}(h:Gth w0 g s n na ni out A m c V)(hs:w0.heap.size≤s)(a:Int)(D:Nat)(l:s+8≤D):
 KeepsFrom D V ((V.setCell ⟨s+4,0,none⟩ (.slice A m c)).setCell ⟨s+5,0,none⟩ (.int .i64 a))∧Blk ((V.setCell ⟨s+4,0,none⟩ (.slice A m c)).setCell ⟨s+5,0,none⟩ (.int .i64 a)) (s+4) [.slice A m c] 91∧Blk ((V.setCell ⟨s+4,0,none⟩ (.slice A m c)).setCell ⟨s+5,0,none⟩ (.int .i64 a)) (s+5) [.int .i64 a] 3∧
  OwnE 59 1 ((V.setCell ⟨s+4,0,none⟩ (.slice A m c)).setCell ⟨s+5,0,none⟩ (.int .i64 a)) w0.heap.size A m c (out.map (Value.int .u64))∧Below w0.heap.size w0 ((V.setCell ⟨s+4,0,none⟩ (.slice A m c)).setCell ⟨s+5,0,none⟩ (.int .i64 a)):=by
 have d:=KeptF.set1 V (s+4) 0 (.slice A m c)
 have f:=KeptF.set1 (V.setCell ⟨s+4,0,none⟩ (.slice A m c)) (s+5) 0 (.int .i64 a)
 have b:KeptF (fun j=>j=s+4∨j=s+5) V ((V.setCell ⟨s+4,0,none⟩ (.slice A m c)).setCell ⟨s+5,0,none⟩ (.int .i64 a)):=(d.mono fun j e=> .inl e).trans f fun j _ e=> .inr e
 refine⟨⟨b.size,fun k o hk ho hc=>(b.block k (Array.getElem?_eq_some_iff.1 ho).1 (fun e=>by omega)).trans ho⟩,?_,?_,Mf.OwnE.keptF h.own b (fun j hj e=>by have:=h.row j hj;omega),h.bel.trans ⟨b.os,b.tape,b.output,b.size,fun j hj=>b.block j (by have:=h.bel.size;omega) (fun e=>by omega)⟩⟩
 ·exact Kf.Blk.keptF (show Blk (V.setCell ⟨s+4,0,none⟩ (.slice A m c)) (s+4) [.slice A m c] 91 from Boxed.set (t:=91) (.slice A m c) h.r0) f (fun e=>by have i:s+4=s+5:=e;omega)
 ·exact Boxed.set (t:=3) (.int .i64 a) (show Boxed (V.setCell ⟨s+4,0,none⟩ (.slice A m c)) (s+5) 3 (.int .i64 0)from Kf.Blk.keptF h.r1 d (fun e=>by have i:s+5=s+4:=e;omega))
theorem aIQ {w0:World}{g s:Nat}{n na ni:Int}{out:List Int}{A:Option Addr}{m c:Nat}{V:World}(h:Gth w0 g s n na ni out A m c V)(hs:w0.heap.size≤s)(a:Int)(D:Nat)(i:s+8≤D):
 KeepsFrom D V ((V.setCell ⟨s+4,0,none⟩ (.slice A m c)).setCell ⟨s+5,0,none⟩ (.int .i64 a)).drew∧Blk ((V.setCell ⟨s+4,0,none⟩ (.slice A m c)).setCell ⟨s+5,0,none⟩ (.int .i64 a)).drew (s+4) [.slice A m c] 91∧Blk ((V.setCell ⟨s+4,0,none⟩ (.slice A m c)).setCell ⟨s+5,0,none⟩ (.int .i64 a)).drew (s+5) [.int .i64 a] 3∧
  OwnE 59 1 ((V.setCell ⟨s+4,0,none⟩ (.slice A m c)).setCell ⟨s+5,0,none⟩ (.int .i64 a)).drew w0.heap.size A m c (out.map (Value.int .u64))∧Below w0.heap.size w0 ((V.setCell ⟨s+4,0,none⟩ (.slice A m c)).setCell ⟨s+5,0,none⟩ (.int .i64 a)).drew:=by
 obtain⟨d,f,j,k,b⟩:=aFM h hs a D i
 exact⟨⟨d.size,d.same⟩,f,j,Mf.OwnE.keptF k ((KeptF.refl (fun _=>False) _).drew) (fun _ _ e=>e),⟨b.os,b.tape,b.output,b.size,b.block⟩⟩
theorem aIR {w0:World}{B s:Nat}{n na ni:Int}{out:List Int}{A:Option Addr}{m c:Nat}{V:World}(h:Gth w0 B s n na ni out A m c V)(hs:w0.heap.size≤s){o:Obj}{w2:World}{a:Option Addr}{g:Nat}{y:Int}(z:OwnE 59 1 w2 w0.heap.size a (m+1) g (out.map (Value.int .u64)++ [.int .u64 y]))(E:(V.alloc o).grownBy w2 (ownB A))(v:ownB a=ownB A∨ownB a=some (V.alloc o).heap.size):
 Gth w0 B s n na ni (out++ [y]) a (m+1) g (w2.setCell ⟨s+1,0,none⟩ (.slice a (m+1) g))∧KpL w0.heap.size (s+1) V (w2.setCell ⟨s+1,0,none⟩ (.slice a (m+1) g))∧KeptF (fun j=>ownB A=some j∨j=s+1) V (w2.setCell ⟨s+1,0,none⟩ (.slice a (m+1) g))∧Blk w2 (s+1) [.slice A m c] 91:=by
 have G:=h.sz
 have x:KeptF (fun j=>ownB A=some j) V w2:=(KeptF.alloc (KeptF.refl _ V) o).grown E fun k e _=>e
 have w:=KeptF.set1 w2 (s+1) 0 (.slice a (m+1) g)
 have f:KeptF (fun j=>ownB A=some j∨j=s+1) V (w2.setCell ⟨s+1,0,none⟩ (.slice a (m+1) g)):=(x.mono fun j e=> .inl e).trans w fun j _ e=> .inr e
 have F:(V.alloc o).heap.size=V.heap.size+1:=by simp
 have d: ∀k,ownB a=some k→ownB A=some k∨k=V.heap.size+1:=fun k hk=>v.elim (fun e=> .inl (e▸hk)) (fun e=> .inr (by rw[e,F]at hk;injection hk with hk;exact hk.symm))
 have l: ∀k,ownB A=some k→k<s∨s+8≤k:=h.row
 have n0: ∀j,s≤j→j<s+6→j≠s+1→ ¬(ownB A=some j∨j=s+1):=fun j h1 h2 h3 e=>e.elim (fun e=>by have:=l j e;omega) h3
 have r:Blk w2 (s+1) [.slice A m c] 91:=Kf.Blk.keptF h.bl x (fun e=>by have:=l _ e;omega)
 have u:Blk (w2.setCell ⟨s+1,0,none⟩ (.slice a (m+1) g)) (s+1) [.slice a (m+1) g] 91:=Boxed.set (t:=91) (.slice a (m+1) g) r
 have p:Below w0.heap.size V (w2.setCell ⟨s+1,0,none⟩ (.slice a (m+1) g)):=⟨f.os,f.tape,f.output,f.size,fun j hj=>f.block j (by have:=h.bel.size;omega) (fun e=>e.elim (fun e=>by have:=(Dc.OwnE.ltB h.own j e).1;omega) (fun e=>by omega))⟩
 have D:rowOf (w2.setCell ⟨s+1,0,none⟩ (.slice a (m+1) g)) (s+1)=ownB a:=by
  unfold rowOf
  rw[u.cell (i:=0) rfl]
 refine⟨?_,⟨p,fun b q h1 h2 h3 h4=>?_,fun k hk=>?_⟩,f,r⟩
 ·exact
   {own:=Mf.OwnE.keptF (by rw[List.map_append];exact z) w (fun j hj e=>by
     have I:j=s+1:=e
     rcases d j hj with C|C
     ·have:=l j C;omega
     ·omega)
    len:=by simp[h.len]
    bv:=Kf.Blk.keptF h.bv f (n0 _ (by omega) (by omega) (by omega))
    bl:=u
    bc:=Kf.Blk.keptF h.bc f (n0 _ (by omega) (by omega) (by omega))
    bn:=Kf.Blk.keptF h.bn f (n0 _ (by omega) (by omega) (by omega))
    r0:=Kf.Blk.keptF h.r0 f (n0 _ (by omega) (by omega) (by omega))
    r1:=Kf.Blk.keptF h.r1 f (n0 _ (by omega) (by omega) (by omega))
    row:=fun k hk=>(d k hk).elim (l k) (fun e=>by omega)
    bel:=h.bel.trans p
    sz:=Nat.le_trans h.sz f.size}
 ·rw[aHK h]at h4
  exact(f.block b (Array.getElem?_eq_some_iff.1 h1).1 (fun e=>e.elim h4 h3)).trans h1
 ·rw[D]at hk
  rw[aHK h]
  have H:=Dc.OwnE.ltB z k hk
  have J:=w.size
  exact(d k hk).imp id (fun e=>⟨by omega,by omega⟩)
theorem aLz {w0 W:World}{D m c:Nat}{A:Option Addr}{xs:List Value}(d:OwnE 59 1 W w0.heap.size A m c xs)(g:Below w0.heap.size w0 W)(f:W.heap[D]? =some (.deferred (some [])))(k:w0.heap.size≤D)(o:Obj):
 OwnE 59 1 (W.putObj D o) w0.heap.size A m c xs∧Below w0.heap.size w0 (W.putObj D o):=by
 have a:=KeptF.grow _ (grownBy_putObj' W D o)
 refine⟨Mf.OwnE.keptF d a (fun j hj e=>?_),g.trans ⟨a.os,a.tape,a.output,a.size,fun j hj=>a.block j (by have:=g.size;omega) (fun e=>by injection e with e;omega)⟩⟩
 injection e with e
 subst e
 obtain⟨i,b⟩:=aBU d hj
 rw[b]at f
 cases f
attribute [local irreducible] HD.cells wpList Code.wp
def Gathered (w0:World)(R:List Int×Int)(e:Ending)(w':World):Prop:=Below w0.heap.size w0 w'∧ ∃A m c,e= .returned (.tuple #[.slice A m c,.int .i64 R.2])∧OwnE 59 1 w' w0.heap.size A m c (R.1.map (Value.int .u64))∧R.1.length=m
theorem aJM {M:Nat}{h:HD}{A:Option Addr}{E c:Nat}{l:List Int}(w0:World)(v:ViewAt w0 M h A E c l)(bk:c≤maxLen)(ba:E≤800000)(bq:l.length≤800000)(aQ:AllB l)(n na ni:Int)(a0:Nat)(bs:a0≤18446744073709551615)(hn:0≤n∧n≤18446744073709551615)(bz:0≤na∧na≤1000)(bE:0≤ni∧ni≤1000)(f:List Int)(A0:Option Addr)(H c0:Nat)(w:World)(hw:Below w0.heap.size w0 w)(ho:OwnE 59 1 w w0.heap.size A0 H c0 (f.map (Value.int .u64)))(aq:f.length=H)(aC:Up E f):
 Calls Tryz.prog 84 #[.pointer (some ⟨M,0,none⟩),.slice A0 H c0,.int .u64 n,.int .u64 (a0:Int),.agg #[.int .i64 na,.int .i64 ni]] w (Gathered w0 (chase h l E n na ni (E+1) f a0 0)):=by
 have a5:=v
 have HO:=yH ho
 have HL:=yH aq
 have bt:=yH aC
 have bI:H≤800000:=by
  unfold Up at aC
  rw[aq]at aC
  omega
 have bD:IntKind.u64.wrap (H:Int)=(H:Int):=by rw[IntKind.wrap_u64];omega
 clear ho aC
 refine(callsIn_wide (n:=6)).1 ?_
 refine callsIn_of_wp_marks Tryz.func84 rfl trivial ?_ rfl
 refine wpIn_wide.2 ?_
 simp only[Tryz.ntmps84,List.size_toArray,List.length_cons,List.length_nil,Nat.reduceAdd,Nat.reduceSub,Array.replicate_succ,Array.replicate_zero,List.push_toArray,List.append_toArray,List.nil_append,List.cons_append]
 by_cases G:(H:Int)=n
 ·have aO:((H:Int)==n)=true:=by simpa using G
  have ay:decide ((H:Int)=n)=true:=by simpa using G
  rw[aAN h l E n na ni (E+1) f a0 0 (by rw[aq];exact G)]
  have B6:=yH (((((((yB w.heap.size w).alloc (yR _) (.cells #[.pointer (some ⟨M,0,none⟩)] 88)).alloc (by simp) (.cells #[.slice A0 H c0] 91)).alloc (by simp<;>omega) (.cells #[.int .u64 n] 59)).alloc (by simp<;>omega) (.cells #[.int .i64 na,.int .i64 ni] 175)).alloc (by simp<;>omega) (.cells #[.slice A0 H c0] 91)).alloc (by simp<;>omega) (.cells #[.int .i64 0] 3))
  have hs0:=hw.size
  have O6:=HO.out.kept B6.out (yR _)
  go_wp2
  refine⟨.tuple #[.slice A0 H c0,.int .i64 0],by simp[results,Tryz.results84,go_sem,Result.andThen],?_⟩
  exact⟨hw.trans (B6.out.mono hs0),A0,H,c0,rfl,O6,HL.out⟩
 ·have aO:((H:Int)==n)=false:=by simpa using G
  have ay:decide ((H:Int)=n)=false:=by simpa using G
  go_upto_region 3 with fail
  have hs0:=hw.size
  obtain⟨s,hs⟩: ∃s,w.heap.size=s:=⟨_,rfl⟩
  have K0:=((((((Blk.new w [.pointer (some ⟨M,0,none⟩)] 88).alloc (.cells #[.slice A0 H c0] 91)).alloc (.cells #[.int .u64 n] 59)).alloc (.cells #[.int .i64 na,.int .i64 ni] 175)).alloc (.cells #[.slice none 0 0] 91)).alloc (.cells #[.int .i64 0] 3))
  have K1:=(((((Blk.new (w.alloc (.cells #[.pointer (some ⟨M,0,none⟩)] 88)) [.slice A0 H c0] 91).alloc (.cells #[.int .u64 n] 59)).alloc (.cells #[.int .i64 na,.int .i64 ni] 175)).alloc (.cells #[.slice none 0 0] 91)).alloc (.cells #[.int .i64 0] 3))
  have K2:=((((Blk.new ((w.alloc (.cells #[.pointer (some ⟨M,0,none⟩)] 88)).alloc (.cells #[.slice A0 H c0] 91)) [.int .u64 n] 59).alloc (.cells #[.int .i64 na,.int .i64 ni] 175)).alloc (.cells #[.slice none 0 0] 91)).alloc (.cells #[.int .i64 0] 3))
  have K3:=(((Blk.new (((w.alloc (.cells #[.pointer (some ⟨M,0,none⟩)] 88)).alloc (.cells #[.slice A0 H c0] 91)).alloc (.cells #[.int .u64 n] 59)) [.int .i64 na,.int .i64 ni] 175).alloc (.cells #[.slice none 0 0] 91)).alloc (.cells #[.int .i64 0] 3))
  have K4:=((Blk.new ((((w.alloc (.cells #[.pointer (some ⟨M,0,none⟩)] 88)).alloc (.cells #[.slice A0 H c0] 91)).alloc (.cells #[.int .u64 n] 59)).alloc (.cells #[.int .i64 na,.int .i64 ni] 175)) [.slice none 0 0] 91).alloc (.cells #[.int .i64 0] 3))
  have K5:=(Blk.new (((((w.alloc (.cells #[.pointer (some ⟨M,0,none⟩)] 88)).alloc (.cells #[.slice A0 H c0] 91)).alloc (.cells #[.int .u64 n] 59)).alloc (.cells #[.int .i64 na,.int .i64 ni] 175)).alloc (.cells #[.slice none 0 0] 91)) [.int .i64 0] 3)
  have B6:=((((((yB w.heap.size w).alloc (yR _) (.cells #[.pointer (some ⟨M,0,none⟩)] 88)).alloc (by simp) (.cells #[.slice A0 H c0] 91)).alloc (by simp<;>omega) (.cells #[.int .u64 n] 59)).alloc (by simp<;>omega) (.cells #[.int .i64 na,.int .i64 ni] 175)).alloc (by simp<;>omega) (.cells #[.slice none 0 0] 91)).alloc (by simp<;>omega) (.cells #[.int .i64 0] 3)
  have S6:((((((w.alloc (.cells #[.pointer (some ⟨M,0,none⟩)] 88)).alloc (.cells #[.slice A0 H c0] 91)).alloc (.cells #[.int .u64 n] 59)).alloc (.cells #[.int .i64 na,.int .i64 ni] 175)).alloc (.cells #[.slice none 0 0] 91)).alloc (.cells #[.int .i64 0] 3)).heap.size=s+6:=by simp only[World.alloc,Array.size_push];omega
  simp only[World.size_alloc,hs,Nat.add_assoc,Nat.reduceAdd]at K0 K1 K2 K3 K4 K5⊢
  generalize ((((((w.alloc (.cells #[.pointer (some ⟨M,0,none⟩)] 88)).alloc (.cells #[.slice A0 H c0] 91)).alloc (.cells #[.int .u64 n] 59)).alloc (.cells #[.int .i64 na,.int .i64 ni] 175)).alloc (.cells #[.slice none 0 0] 91)).alloc (.cells #[.int .i64 0] 3))=w6 at*
  have c5:=K0.cell (i:=0) rfl
  have aN:=yH (aLy M (a0:Int) w6)
  rw[S6]at aN
  have K6:=(Blk.new w6 [.pointer (some ⟨M,0,none⟩)] 88).alloc (.cells #[.int .u64 (a0:Int)] 59)
  have K7:=Blk.new (w6.alloc (.cells #[.pointer (some ⟨M,0,none⟩)] 88)) [.int .u64 (a0:Int)] 59
  have B8:Below w6.heap.size w6 ((w6.alloc (.cells #[.pointer (some ⟨M,0,none⟩)] 88)).alloc (.cells #[.int .u64 (a0:Int)] 59)):=((yB _ _).alloc (yR _) _).alloc (by simp) _
  have S8:((w6.alloc (.cells #[.pointer (some ⟨M,0,none⟩)] 88)).alloc (.cells #[.int .u64 (a0:Int)] 59)).heap.size=s+8:=by simp only[World.alloc,Array.size_push];omega
  go_wp2_with(first
   |(go_at_call 122;(refine aN.out.mono ?_);rintro e w7 ⟨rfl,rfl⟩)
   |fail)
  simp only[World.size_alloc,S6]at K6 K7
  generalize (w6.alloc (.cells #[.pointer (some ⟨M,0,none⟩)] 88)).alloc (.cells #[.int .u64 (a0:Int)] 59)=W0 at*
  have aB:Hid (Gth w0 M s n na ni f A0 H c0 W0):=yH
   {own:=(HO.out.kept (B6.trans (B8.mono (by omega))) (by omega)),len:=HL.out
    bv:=K0.below B8 (by omega),bl:=K1.below B8 (by omega),bc:=K2.below B8 (by omega),bn:=K3.below B8 (by omega)
    r0:=K4.below B8 (by omega),r1:=K5.below B8 (by omega)
    row:=fun k hk=> .inl (by have:=(Dc.OwnE.ltB HO.out _ hk).2;omega)
    bel:=hw.trans ((B6.trans (B8.mono (by omega))).mono (by omega)),sz:=by omega}
  have a4:Mid w0 M (s+6) (s+7) (s+1) a0 W0:=
   {bel:=aB.out.bel,v:=K6.cell (i:=0) rfl,at_:=K7
    row:=fun k hk=>by
     rw[aHK aB.out]at hk
     have:=(Dc.OwnE.ltB HO.out _ hk).2
     omega}
  have br:=yH fun(x:Int) (V:World) (hV:Below w0.heap.size w0 V)=>aIP x V (a5.below hV)
  have bb:=yH fun(xs:List (Int×Int)) (out:List Int) (h1:xs=yl h l E (E+1) a0 0) (h2:after E n ni xs f=some out)=>show chase h l E n na ni (E+1) f a0 0=(out,na)by
   rw[←aLu h l aQ E n na ni (E+1) a0 0 f (Nat.zero_le _) (by omega) (by rw[aq];exact G),←h1]
   have h3:=aB6 E n na ni xs [] f out h2
   rw[List.append_nil]at h3
   rw[h3];rfl
  have aJ:=yH fun(p rest:List (Int×Int)) (R:List Int×Int) (h1:yl h l E (E+1) a0 0=p++rest) (h2: ∀r,runY E n na ni (p++r) f=R)=>show chase h l E n na ni (E+1) f a0 0=R by
   rw[←aLu h l aQ E n na ni (E+1) a0 0 f (Nat.zero_le _) (by omega) (by rw[aq];exact G),h1]
   exact h2 rest
  generalize chase h l E n na ni (E+1) f a0 0=R at*
  clear K0 K1 K2 K3 K4 K5 K6 K7 B6 c5 aN
  refine wpIn_wide.1 (aLw (F:=Fence.wide) (n:=5) rfl (by omega) (gf:=155) (lb:= #[.pointer (some ⟨s+6,0,none⟩),.pointer (some ⟨s+7,0,none⟩)]) rfl trivial (enters_of Tryz.func155 (by kernel_rfl) rfl)
   (aJL w0 a5 bk ba bq aQ (s+6) (s+7) (s+1) a0 4 (by omega) W0 a4 (by omega) (by omega) (by omega) (by omega) (by omega) (by omega) bs)
   (fun X Y hXY k o hk ho hc=>(hXY.block k (Array.getElem?_eq_some_iff.1 ho).1 (fun e=>by have e1:k=s+7:=e;omega)).trans ho)
   (fun h k=>KpL.trans h k) (fun V q o o' h1 h2 h3 h4=>KpL.put (d:=W0.heap.size) (by omega) (by omega) V q o o' h1 h2 h3) (fun _=>rfl)
   (fun p W=> ∃(out:List Int) (A:Option Addr) (m c:Nat),after E n ni p f=some out∧(m:Int)≠n∧Up E out∧Gth w0 M s n na ni out A m c W)
   (fun cd p W=>cd= .ret∧ ∃(o:List Int) (t:Int) (A:Option Addr) (m c:Nat),(∀r,runY E n na ni (p++r) f=(o,t))∧Blk W (s+4) [.slice A m c] 91∧Blk W (s+5) [.int .i64 t] 3∧OwnE 59 1 W w0.heap.size A m c (o.map (Value.int .u64))∧o.length=m∧(∀k,ownB A=some k→k<s∨s+8≤k)∧Below w0.heap.size w0 W)
   ?ownI ?ownX ?abI ?abX ⟨f,A0,H,c0,rfl,G,bt.out,aB.out⟩
   (fun x=>{tmps:= #[.pointer (some ⟨M,0,none⟩),.slice A0 H c0,.int .u64 n,.int .u64 (a0:Int),.agg #[.int .i64 na,.int .i64 ni],.pointer (some ⟨s,0,none⟩),.pointer (some ⟨s+1,0,none⟩),.pointer (some ⟨s+2,0,none⟩),undef,.pointer (some ⟨s+3,0,none⟩),.pointer (some ⟨s+4,0,none⟩),.pointer (some ⟨s+5,0,none⟩),.int .u64 x.1,.int .i64 x.2,.slice A0 H c0,.int .i64 (H:Int),.int .u64 (H:Int),.int .u64 n,.bool false,undef,.pointer (some ⟨M,0,none⟩),.int .u64 (a0:Int),.func (.func 155) #[] #[.pointer (some ⟨s+6,0,none⟩),.pointer (some ⟨s+7,0,none⟩)],.int .u64 x.1,.int .i64 x.2,undef,undef,undef,undef,undef,undef,undef,undef,undef,undef,undef,undef,undef,undef,undef,undef,undef,undef,undef,undef,undef,undef,undef,undef,undef,undef,undef,undef,undef,undef,undef,undef,undef,undef,undef,undef,undef,undef,undef,undef],defers:=[]}) ?assign ?body ?done ?stop)
  case assign=>
   intro q x V K hK
   gi_wp2
   exact hK
  case ownI=>
   rintro p V V' row ⟨out,A1,g,c1,h1,h2,h3,I⟩ hg hr
   refine⟨out,A1,g,c1,h1,h2,h3,I.keptF (KeptF.grow row hg) (fun j hj _ e=>?_) (fun j hj e=>?_) (fun j hj e=>?_)⟩
   ·have:=(hr j e).1;omega
   ·obtain⟨_,o,Z,aj⟩:=hr j e
    obtain⟨aI,ab⟩:=aBU I.own hj
    rw[ab]at Z
    injection Z with Z
    rw[←Z]at aj
    cases aj
   ·have:=(hr j e).1;omega
  case ownX=>
   rintro cd p V V' row ⟨rfl,o,t,A1,g,c1,h1,b4,b5,Z,ah,au,L⟩ hg hr
   have kk:=KeptF.grow row hg
   refine⟨rfl,o,t,A1,g,c1,h1,Kf.Blk.keptF b4 kk (fun e=>?_),Kf.Blk.keptF b5 kk (fun e=>?_),Mf.OwnE.keptF Z kk (fun j hj e=>?_),ah,au,L.trans ⟨kk.os,kk.tape,kk.output,kk.size,fun j hj=>kk.block j (by have:=L.size;omega) (fun e=>?_)⟩⟩
   ·have:=(hr _ e).1;omega
   ·have:=(hr _ e).1;omega
   ·obtain⟨_,o2,aj,a7⟩:=hr j e
    obtain⟨aI,ab⟩:=aBU Z hj
    rw[ab]at aj
    injection aj with aj
    rw[←aj]at a7
    cases a7
   ·have:=(hr _ e).1;omega
  case abI=>
   rintro p V V' ⟨out,A1,g,c1,h1,h2,h3,I⟩ kk
   refine⟨out,A1,g,c1,h1,h2,h3,I.keptF kk (fun j hj _ e=>?_) (fun j hj e=>?_) (fun j hj e=>?_)⟩
   ·have e1:j=s+7:=e;omega
   ·have e1:j=s+7:=e;have:=I.row j hj;omega
   ·have e1:j=s+7:=e;omega
  case abX=>
   rintro cd p V V' ⟨rfl,o,t,A1,g,c1,h1,b4,b5,Z,ah,au,L⟩ kk
   refine⟨rfl,o,t,A1,g,c1,h1,Kf.Blk.keptF b4 kk (fun e=>?_),Kf.Blk.keptF b5 kk (fun e=>?_),Mf.OwnE.keptF Z kk (fun j hj e=>?_),ah,au,L.trans ⟨kk.os,kk.tape,kk.output,kk.size,fun j hj=>kk.block j (by have:=L.size;omega) (fun e=>?_)⟩⟩
   ·have e1:s+4=s+7:=e;omega
   ·have e1:s+5=s+7:=e;omega
   ·have e1:j=s+7:=e;have:=au j hj;omega
   ·have e1:j=s+7:=e;omega
  case body=>
   rintro q p x V a6 ⟨out,A1,g,c1,h1,h2,h3,I⟩
   obtain⟨y,z⟩:=x
   have bF:0≤y:=a6
   clear a6
   have cv:=I.bv.cell (i:=0) rfl
   have cl:=I.bl.cell (i:=0) rfl
   have cc:=I.bc.cell (i:=0) rfl
   have bo:=I.bn.cell (i:=0) rfl
   have bC:=I.bn.cell (i:=1) rfl
   have c4:=I.r0.cell (i:=0) rfl
   have c5:=I.r1.cell (i:=0) rfl
   have f1:=I.bl.frozen 0
   have f4:=I.r0.frozen 0
   have f5:=I.r1.frozen 0
   have bG:g≤800000:=by
    have h4:=h3
    unfold Up at h4
    rw[I.len]at h4
    omega
   have N:=yH I
   have H1:=yH h1
   have H3:=yH h3
   have HD:=yH (show s+8≤W0.heap.size by omega)
   have al:=yH (show w0.heap.size≤s by omega)
   have az:=yH fun(V':World) (hV:Below V.heap.size V V')=>br.out y V' (N.out.bel.trans (hV.mono N.out.bel.size))
   clear I h1 h3 aB a4 B8 hw hs0
   have bx:1≤5-1-1:=by omega
   have HR:=yH fun(t:Int) (ai:Wd.step E n ni out (y,z)=(out,some t))=>show ∀r,runY E n na ni (p++ [(y,z)]++r) f=(out,t)from fun r=>by
    rw[show p++ [(y,z)]++r=p++((y,z)::r)by simp,aB6 E n na ni p _ f out H1.out,aBy,ai]
   have a1:=yH fun(t:Int)=>aFM N.out al.out t W0.heap.size HD.out
   have aP:=yH fun(t:Int)=>aIQ N.out al.out t W0.heap.size HD.out
   by_cases hz:z≠0
   ·have d1:(z==0)=false:=by simpa using hz
    have d2:decide (z=0)=false:=by simpa using hz
    have d3:(z !=0)=true:=by simpa using hz
    gi_wp2
    obtain⟨r2,r3,r4,r5,r6⟩:=a1.out z
    exact⟨r2,rfl,out,z,A1,g,c1,HR.out z (by unfold Wd.step;rw[if_pos hz]),r3,r4,r5,N.out.len,N.out.row,r6⟩
   have bh:z=0:=by simpa using hz
   subst bh
   clear hz
   by_cases hno:nothB E y=true
   ·have ai:Wd.step E n ni out (y,0)=(out,some ni):=by unfold Wd.step;rw[if_neg (by simp),if_pos hno]
    have aT:=yH (HR.out ni ai)
    clear ai
    gi_wp2_with (first
     |(refine⟨trivial,?_⟩;gi_at_call 123;refine(CallsIn.inRound q (callsIn_wide.2 (az.out _ (yB _ _)))).mono ?_;rintro e w1 ⟨rfl,rfl⟩;(try rw[hno]))
     |fail)
    gi_region
    all_goals gi_wp2
    all_goals
     obtain⟨r2,r3,r4,r5,r6⟩:=aP.out ni
     exact⟨r2,rfl,out,ni,A1,g,c1,aT.out,r3,r4,r5,N.out.len,N.out.row,r6⟩
   have aa:nothB E y=false:=by simpa using hno
   have J:=N.out.len
   by_cases ac:0<g∧y≤lastI out
   ·have ai:Wd.step E n ni out (y,0)=(out,some 13):=by unfold Wd.step;rw[if_neg (by simp),if_neg (by simpa using aa),if_pos ⟨by rw[J];exact ac.1,ac.2⟩]
    have aT:=yH (HR.out 13 ai)
    obtain⟨am,ac⟩:=ac
    obtain⟨m3,aR⟩: ∃q,g=q+1:=⟨g-1,by omega⟩
    have hq:IntKind.i64.wrap ((g:Int)-1)=(m3:Int):=by rw[IntKind.wrap_i64];omega
    obtain⟨gq,aK,_,_,aY⟩:=N.out.own.cell (i:=m3) (by rw[N.out.own.len];omega)
    rw[aCP out m3 (by omega)]at aY
    subst aK
    generalize lastI out=lz at*
    have e4:decide ((g:Int)>0)=true:=by simp;omega
    have e5:decide (0<g)=true:=by simp;omega
    have e6:decide ((0:Int)<(g:Int))=true:=by simp;omega
    have e7:decide (y≤lz)=true:=by simpa using ac
    have bu:m3<g:=by omega
    have e8:decide ((m3:Int)<(g:Int))=true:=by simp;omega
    clear ai hno aR J am
    gi_wp2_with (first
     |(refine⟨trivial,?_⟩;gi_at_call 123;refine(CallsIn.inRound q (callsIn_wide.2 (az.out _ (yB _ _)))).mono ?_;rintro e w1 ⟨rfl,rfl⟩;(try rw[aa]))
     |fail)
    obtain⟨r2,r3,r4,r5,r6⟩:=a1.out 13
    exact⟨r2,rfl,out,13,_,g,c1,aT.out,r3,r4,r5,N.out.len,N.out.row,r6⟩
   have HY:=yH ac
   have aA:lastI out<y:=by
    rcases Nat.eq_zero_or_pos g with h5|h5
    ·have h6:out=[]:=List.eq_nil_of_length_eq_zero (by omega)
     rw[h6]
     simp[nothB]at aa
     simp[lastI]
     omega
    ·have:=fun h6=>ac ⟨h5,h6⟩;omega
   have aF:=yH (H3.out.snoc aA aa)
   have av: ∀b:Option Int,(if(((out++ [y]).length:Nat):Int)=n then some (0:Int)else none)=b→Wd.step E n ni out (y,0)=(out++ [y],b):=fun b hb=>by
    unfold Wd.step
    rw[if_neg (by simp),if_neg (by simpa using aa),if_neg (by rw[J];exact ac),←hb]
    split<;>rfl
   have ah:(((out++ [y]).length:Nat):Int)=(g:Int)+1:=by rw[yA,List.length_singleton,J];omega
   rw[ah]at av
   have aE:=yH av
   have bw:IntKind.u64.wrap ((g+1:Nat):Int)=((g+1:Nat):Int):=by rw[IntKind.wrap_u64];omega
   clear av hno
   rcases Nat.eq_zero_or_pos g with am|am
   ·have e4:decide ((g:Int)>0)=false:=by simp;omega
    have e5:decide (0<g)=false:=by simp;omega
    have e6:decide ((0:Int)<(g:Int))=false:=by simp;omega
    clear ac J aA am
    gi_upto_region 13 with(first
     |(refine⟨trivial,?_⟩;gi_at_call 123;refine(CallsIn.inRound q (callsIn_wide.2 (az.out _ (yB _ _)))).mono ?_;rintro e w1 ⟨rfl,rfl⟩;(try rw[aa]))
     |(gi_at_builtin;refine aAQ aBC rfl (.tmp 52) (.tmp 54) rfl w0.heap.size A1 g c1 (out.map (Value.int .u64)) rfl (OwnE.alloc N.out.own _) ⟨V.heap.size,0,none⟩ 1 1 [.int .u64 y] rfl rfl (Blk.news (Blk.new V [.int .u64 y] 59)) (by intro u hu;simp at hu;subst hu;rfl) (by omega) (by omega) (by unfold maxLen;omega) ?_;intro A5 c5 w5 an ax af;have HP:=yH (aIR N.out al.out an ax af);clear an ax af;have aV:=HP.out.2.2.2.cell (i:=0) rfl;have aH:=HP.out.2.2.2.frozen 0)
     |fail)
    obtain⟨C,ap,ak,_⟩:=HP.out
    have bj:=C.bl.cell (i:=0) rfl
    have bi:=C.bc.cell (i:=0) rfl
    have bg:=C.r0.cell (i:=0) rfl
    have bf:=C.r1.cell (i:=0) rfl
    have bp:=C.r0.frozen 0
    have bm:=C.r1.frozen 0
    have ad:=yH C
    have aL:=yH ap
    have ag:KeepsFrom W0.heap.size V (w5.setCell ⟨s+1,0,none⟩ (.slice A5 (g+1) c5)):=⟨ak.size,fun k o hk ho hc=>(ak.block k (Array.getElem?_eq_some_iff.1 ho).1 (fun e=>by
     have:=HD.out
     rcases e with e|e
     ·obtain⟨aI,ab⟩:=aBU N.out.own e
      rw[ab]at ho
      injection ho with ho
      rw[←ho]at hc
      cases hc
     ·omega)).trans ho⟩
    have ae:=yH ag
    clear C ap ak ag HP aV aH
    generalize w5.setCell ⟨s+1,0,none⟩ (.slice A5 (g+1) c5)=w6 at*
    by_cases aw:(g:Int)+1=n
    ·have B:((g+1:Nat):Int)=n:=by omega
     have d7:(((g+1:Nat):Int)==n)=true:=by simpa using B
     have d8:decide (((g+1:Nat):Int)=n)=true:=by simpa using B
     have aG:=yH fun r=>show runY E n na ni (p++ [(y,0)]++r) f=(out++ [y],0)from by
      rw[show p++ [(y,0)]++r=p++((y,0)::r)by simp,aB6 E n na ni p _ f out H1.out,aBy,aE.out (some 0) (if_pos aw)]
     have ao:=yH (aFM ad.out al.out 0 W0.heap.size HD.out)
     gi_wp2
     obtain⟨r2,r3,r4,r5,r6⟩:=ao.out
     exact⟨ae.out.trans r2,rfl,out++ [y],0,_,g+1,c5,aG.out,r3,r4,r5,ad.out.len,ad.out.row,r6⟩
    ·have B: ¬((g+1:Nat):Int)=n:=by omega
     have d7:(((g+1:Nat):Int)==n)=false:=by simpa using B
     have d8:decide (((g+1:Nat):Int)=n)=false:=by simpa using B
     have aM:=yH (aE4 E n ni (y,0) p f out (out++ [y]) H1.out (aE.out none (if_neg aw)))
     have aU:=yH B
     gi_wp2
     exact⟨ae.out,aL.out,out++ [y],A5,g+1,c5,aM.out,aU.out,aF.out,ad.out⟩
   ·obtain⟨m3,aR⟩: ∃q,g=q+1:=⟨g-1,by omega⟩
    have hq:IntKind.i64.wrap ((g:Int)-1)=(m3:Int):=by rw[IntKind.wrap_i64];omega
    obtain⟨gq,aK,_,_,aY⟩:=N.out.own.cell (i:=m3) (by rw[N.out.own.len];omega)
    rw[aCP out m3 (by omega)]at aY
    subst aK
    have bB:=yH aA
    have bH:=yH am
    have bA:=yH J
    have aZ: ¬y≤lastI out:=by omega
    have e7:decide (y≤lastI out)=false:=by simpa using aZ
    generalize lastI out=lz at*
    have e4:decide ((g:Int)>0)=true:=by simp;omega
    have e5:decide (0<g)=true:=by simp;omega
    have e6:decide ((0:Int)<(g:Int))=true:=by simp;omega
    have bu:m3<g:=by omega
    have e8:decide ((m3:Int)<(g:Int))=true:=by simp;omega
    clear aR J am aA aZ ac
    gi_upto_region 13 with(first
     |(refine⟨trivial,?_⟩;gi_at_call 123;refine(CallsIn.inRound q (callsIn_wide.2 (az.out _ (yB _ _)))).mono ?_;rintro e w1 ⟨rfl,rfl⟩;(try rw[aa]))
     |(gi_at_builtin;refine aAQ aBC rfl (.tmp 52) (.tmp 54) rfl w0.heap.size (some ⟨gq,0,none⟩) g c1 (out.map (Value.int .u64)) rfl (OwnE.alloc N.out.own _) ⟨V.heap.size,0,none⟩ 1 1 [.int .u64 y] rfl rfl (Blk.news (Blk.new V [.int .u64 y] 59)) (by intro u hu;simp at hu;subst hu;rfl) (by omega) (by omega) (by unfold maxLen;omega) ?_;intro A5 c5 w5 an ax af;have HP:=yH (aIR N.out al.out an ax af);clear an ax af;have aV:=HP.out.2.2.2.cell (i:=0) rfl;have aH:=HP.out.2.2.2.frozen 0)
     |fail)
    obtain⟨C,ap,ak,_⟩:=HP.out
    have bj:=C.bl.cell (i:=0) rfl
    have bi:=C.bc.cell (i:=0) rfl
    have bg:=C.r0.cell (i:=0) rfl
    have bf:=C.r1.cell (i:=0) rfl
    have bp:=C.r0.frozen 0
    have bm:=C.r1.frozen 0
    have ad:=yH C
    have aL:=yH ap
    have ag:KeepsFrom W0.heap.size V (w5.setCell ⟨s+1,0,none⟩ (.slice A5 (g+1) c5)):=⟨ak.size,fun k o hk ho hc=>(ak.block k (Array.getElem?_eq_some_iff.1 ho).1 (fun e=>by
     have:=HD.out
     rcases e with e|e
     ·obtain⟨aI,ab⟩:=aBU N.out.own e
      rw[ab]at ho
      injection ho with ho
      rw[←ho]at hc
      cases hc
     ·omega)).trans ho⟩
    have ae:=yH ag
    clear C ap ak ag HP aV aH
    generalize w5.setCell ⟨s+1,0,none⟩ (.slice A5 (g+1) c5)=w6 at*
    by_cases aw:(g:Int)+1=n
    ·have B:((g+1:Nat):Int)=n:=by omega
     have d7:(((g+1:Nat):Int)==n)=true:=by simpa using B
     have d8:decide (((g+1:Nat):Int)=n)=true:=by simpa using B
     have aG:=yH fun r=>show runY E n na ni (p++ [(y,0)]++r) f=(out++ [y],0)from by
      rw[show p++ [(y,0)]++r=p++((y,0)::r)by simp,aB6 E n na ni p _ f out H1.out,aBy,aE.out (some 0) (if_pos aw)]
     have ao:=yH (aFM ad.out al.out 0 W0.heap.size HD.out)
     gi_wp2
     obtain⟨r2,r3,r4,r5,r6⟩:=ao.out
     exact⟨ae.out.trans r2,rfl,out++ [y],0,_,g+1,c5,aG.out,r3,r4,r5,ad.out.len,ad.out.row,r6⟩
    ·have B: ¬((g+1:Nat):Int)=n:=by omega
     have d7:(((g+1:Nat):Int)==n)=false:=by simpa using B
     have d8:decide (((g+1:Nat):Int)=n)=false:=by simpa using B
     have aM:=yH (aE4 E n ni (y,0) p f out (out++ [y]) H1.out (aE.out none (if_neg aw)))
     have aU:=yH B
     gi_wp2
     exact⟨ae.out,aL.out,out++ [y],A5,g+1,c5,aM.out,aU.out,aF.out,ad.out⟩
  case done=>
   rintro D xs V hD a8 ⟨out,A1,g,c1,h1,h2,h3,I⟩ hK
   have ar:=bb.out xs out a8 h1
   have cl:=I.bl.cell (i:=0) rfl
   have bo:=I.bn.cell (i:=0) rfl
   have c4:=I.r0.cell (i:=0) rfl
   have c5:=I.r1.cell (i:=0) rfl
   have f4:=I.r0.frozen 0
   have f5:=I.r1.frozen 0
   have a3:w0.heap.size≤s:=by omega
   have aP:=yH (aIQ I a3 na W0.heap.size (by omega))
   have aW:=yH ar
   have bd:=yH hK
   have N:=yH I
   have aD:=yH hD
   clear hK ar h1 a8
   go_upto_region 15 with fail
   go_region
   all_goals
    go_wp2
    obtain⟨r2,r3,r4,r5,r6⟩:=aP.out
    have a2:=r2.same D _ aD.out bd.out rfl
    obtain⟨o1,o2⟩:=aLz r5 r6 a2 (by have:=aD.out;omega) (.deferred none)
    have aX:=(World.cell?_of_block (a:=⟨s+4,0,none⟩) (World.putObj_heap_other (w:=((V.setCell ⟨s+4,0,none⟩ (.slice A1 g c1)).setCell ⟨s+5,0,none⟩ (.int .i64 na)).drew) (o:= .deferred none) (show s+4≠D by have:=aD.out;omega))).trans (r3.cell (i:=0) rfl)
    have aS:=(World.cell?_of_block (a:=⟨s+5,0,none⟩) (World.putObj_heap_other (w:=((V.setCell ⟨s+4,0,none⟩ (.slice A1 g c1)).setCell ⟨s+5,0,none⟩ (.int .i64 na)).drew) (o:= .deferred none) (show s+5≠D by have:=aD.out;omega))).trans (r4.cell (i:=0) rfl)
    refine⟨by simp,.inl ⟨_,_,rfl,run_takeDeferred a2,?_⟩⟩
    refine⟨.tuple #[.slice A1 g c1,.int .i64 na],by simp[results,Tryz.results84,go_sem,Result.andThen,aX,aS],?_⟩
    rw[aW.out]
    exact⟨o2,A1,g,c1,rfl,o1,N.out.len⟩
  case stop=>
   rintro D cd p V hD ⟨rest,a9⟩ ⟨rfl,o,t,A1,g,c1,h1,b4,b5,Z,ah,au,L⟩ hK
   have ar:=aJ.out p rest (o,t) a9 h1
   obtain⟨o1,o2⟩:=aLz Z L hK (by omega) (.deferred none)
   have aX:=(World.cell?_of_block (a:=⟨s+4,0,none⟩) (World.putObj_heap_other (w:=V) (o:= .deferred none) (show s+4≠D by omega))).trans (b4.cell (i:=0) rfl)
   have aS:=(World.cell?_of_block (a:=⟨s+5,0,none⟩) (World.putObj_heap_other (w:=V) (o:= .deferred none) (show s+5≠D by omega))).trans (b5.cell (i:=0) rfl)
   have aW:=yH ar
   clear ar
   gi_wp2
   refine⟨by simp,.inl ⟨_,_,rfl,run_takeDeferred hK,?_⟩⟩
   refine⟨.tuple #[.slice A1 g c1,.int .i64 t],by simp[results,Tryz.results84,go_sem,Result.andThen,aX,aS],?_⟩
   rw[aW.out]
   exact⟨o2,A1,g,c1,rfl,o1,ah⟩
end Wk
namespace Wl
open Bytes8 Blk8 Own8 OwnE Ga Gb Ok7 Rc Va Dc Wa Wk
open Ye Yg Yh
open Rd (dcode)
open Lk (aEk)
attribute [local irreducible] HD.cells wpList Code.wp
theorem aHL {s:Nat}{h:HD}{A:Option Addr}{E c:Nat}{l:List Int}(w:World)(v:ViewAt w s h A E c l)(o:c≤maxLen)(d:E≤800000)(n:l.length≤800000)(p:AllB l)(f:h.Ok 21):
 Calls Tryz.prog 39 #[.pointer (some ⟨s,0,none⟩)] w (TellL (chase h l E (h.N 8) 14 2 (E+1) [] (h.N 11).toNat 0) w):=by
 have u:=yH (aEk w v.blk)
 have D:=f.N 8
 have C:=f.N 11
 have i:((h.N 11).toNat:Int)=h.N 11:=by omega
 have g:=yH fun(W:World) (hW:Below w.heap.size w W)=>by
  have q:=aJM w v o d n p (h.N 8) 14 2 (h.N 11).toNat (by omega) D (by decide) (by decide) [] none 0 0 W hW (OwnE.nil W w.heap.size hW.size) rfl (Up.nil E)
  rw[i]at q
  exact q
 clear v
 unfold Gathered at g
 unfold TellL
 generalize chase h l E (h.N 8) 14 2 (E+1) [] (h.N 11).toNat 0=R at*
 go_enter Tryz.func39,Tryz.ntmps39
 go_upto_region 2 with(first
  |(go_at_call 83;(refine u.out.mono ?_);rintro e w1 ⟨rfl,j⟩;have m:=yH j;clear j)
  |((with_reducible apply aAa (.tmp 4) (.tmp 6));refine wpList_store_row rfl 165 (.tmp 4) (.tmp 6) rfl w1.heap.size (h.cells 21).toArray rfl rfl 165 Tryz.zeroCells165 (heap_alloc_new w1 _) (aAf _) aAB (HD.one _ 21) ?_)
  |fail)
 have t:=yH (show Blk ((w1.alloc (.cells Tryz.zeroCells165 165)).setRow w1.heap.size (h.cells 21).toArray) w1.heap.size (h.cells 21) 165 from setRow_heap _ _ _ _ _ (0,0) (heap_alloc_new w1 _))
 have J:=yH (show Below w.heap.size w ((w1.alloc (.cells Tryz.zeroCells165 165)).setRow w1.heap.size (h.cells 21).toArray)from below_setRow (m.out.alloc m.out.size _) m.out.size _)
 generalize (w1.alloc (.cells Tryz.zeroCells165 165)).setRow w1.heap.size (h.cells 21).toArray=w2 at*
 generalize w1.heap.size=r at*
 have B:w2.cell? ⟨r,75,none⟩=some (.int .u64 (h.N 8)):=t.out.cell (h.get_N 21 8 (by decide))
 have F:w2.cell? ⟨r,78,none⟩=some (.int .u64 (h.N 11)):=t.out.cell (h.get_N 21 11 (by decide))
 clear u m
 go_wp2_with(first
  |(go_at_call 84;(refine(g.out _ J.out).mono ?_);rintro e w3 ⟨k,I,y,G,rfl,a,b⟩;have H:=yH k;have x:=yH a;have z:=yH b;clear k a b)
  |fail)
 go_ret2
 exact⟨H.out,I,y,G,rfl,x.out,z.out⟩
end Wl
namespace Wm
open Ga Gb
open Ye Yh
open Rd (dcode)
open Lk (aEk)
attribute [local irreducible] HD.cells wpList Code.wp
end Wm
namespace Ls
open Bytes8 Blk8 Own8 OwnE Rows2 Ga Gb Dc Wa
open Ye Yh
open Rd (dcode)
open Rg (arcode)
open Ma (roomN)
def U64 (out:List Int):Prop:= ∀x∈out,0≤x∧x≤18446744073709551615
def Fit (E:Nat)(out:List Int):Prop:=Up E out∧U64 out
theorem U64.snoc {out:List Int}{x:Int}(h:U64 out)(b:0≤x∧x≤18446744073709551615):U64 (out++ [x]):=fun y hy=>by
 rcases List.mem_append.1 hy with a|a
 ·exact h y a
 ·rw[List.mem_singleton]at a;exact a▸b
theorem aLA {K:List Int→List Int×Int}{E:Nat}{n ni:Int}{g:Nat→Int}(b: ∀i,0≤g i∧g i≤18446744073709551615)(a: ∀o,Fit E o→Fit E (K o).1): ∀(m i:Nat) (out:List Int),Fit E out→Fit E (inA K E n ni g m i out).1
 |0,i,out,h=>a out h
 |m+1,i,out,h=>by
  unfold inA
  by_cases h1:(out.length:Int)=n
  ·rw[if_pos h1];exact h
  ·rw[if_neg h1]
   by_cases h2:nothB E (g i)=true
   ·rw[if_pos h2];exact h
   ·rw[if_neg h2]
    by_cases h3:g i≤lastI out
    ·rw[if_pos h3];exact h
    ·rw[if_neg h3]
     exact aLA b a m (i+1) _ ⟨h.1.snoc (by omega) (by simpa using h2),h.2.snoc (b i)⟩
theorem aEr {h:HD}{l:List Int}(b:AllB l){E:Nat}{n na ni:Int}: ∀(f:Nat) (out:List Int) (a last:Nat),Fit E out→Fit E (chase h l E n na ni f out a last).1
 |0,out,a,last,h=>h
 |f+1,out,a,last,hh=>by
  unfold chase
  by_cases h1:(out.length:Int)=n
  ·rw[if_pos h1];exact hh
  ·rw[if_neg h1]
   by_cases h2:nothB E (a:Int)=true
   ·rw[if_pos h2];exact hh
   ·rw[if_neg h2]
    by_cases h3:a≤last
    ·rw[if_pos h3];exact hh
    ·rw[if_neg h3]
     by_cases h4:arcode h l E a≠0
     ·rw[if_pos h4];exact hh
     ·rw[if_neg h4]
      exact aLA (fun i=>aIO b i) (fun o ho=>aEr b f o _ _ ho) _ _ _ hh
theorem aLB (E:Nat):Fit E []:=⟨Up.nil E,fun x hx=>by cases hx⟩
theorem aGH {w:World}{b m c:Nat}{A:Option Addr}{out:List Int}(h:OwnE 59 1 w b A m c (out.map (Value.int .u64)))(l:out.length=m)(k:U64 out):InInts .u64 w A m (fun i=>out.getD i 0):=fun i hi=>by
 obtain⟨g,e,_,j,d⟩:=h.cell (i:=i) (by rw[List.length_map];omega)
 have a:i<out.length:=by omega
 rw[List.getElem?_map,yG a]at d
 have f:out.getD i 0=out[i]:=by simp[yG a]
 refine⟨g,0,e,j,?_,?_⟩
 ·show w.cell? ⟨g,0+i,none⟩=some (.int .u64 (out.getD i 0))
  rw[Nat.zero_add,f]
  exact d
 ·have:=k out[i] (List.getElem_mem a)
  show(Lit.int .u64 (out.getD i 0)).wf=true
  rw[f]
  simp[Lit.wf,IntKind.min,IntKind.max,IntKind.signed,IntKind.bits]
  omega
attribute [local irreducible] HD.cells wpList Code.wp
end Ls
end Go.Proofs.YteaikbodkgjkdaaGreat
