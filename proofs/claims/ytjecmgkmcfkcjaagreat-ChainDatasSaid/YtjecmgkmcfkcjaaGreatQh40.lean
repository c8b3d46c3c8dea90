/-
  Texts beneath the proof.
-/
import Derived.Test.YtjecmgkmcfkcjaaGreatQh39
set_option linter.unusedVariables false
set_option linter.unusedSimpArgs false
set_option maxRecDepth 100000
open Go.ChangeShapes Go.WideShapes Go.ChangeAt Go.RowKit
namespace Go.Proofs.YtjecmgkmcfkcjaaGreat
namespace Wk
open Go.ChangeShapes Go.WideShapes Go.ChangeAt Go.RowKit Go.Shelf
open Bytes8 Blk8 Kf Own8 OwnA OwnE Od Ga Gb Rc Dc Wf
open Ye Yh
open Ym (wordElt)
attribute [local go_sem] Oper.semAt_some
theorem wpListIn_append_elt_at {F:Fence}{nn:Nat}{E S:TypeId}{size bytes:Nat}{z:Value}(he:Elt E S size bytes z){w:World}{ops:Array Oper}{rest:List Oper}{o:Oper}{a:Act}{Q:Exit→Act→World→Prop}(hgd:o.guard=none)(s x:Operand)
 (hop:o.op= .call {callee:= .builtin .append,args:= #[s,x],argTypes:= #[S,S]})
 (base:Nat)(A:Option Addr)(n c:Nat)(xs:List Value)(hs:a.eval s= .slice A n c)(ho:OwnE E size w base A n c xs)(ad:Addr)(m c2:Nat)(news:List Value)(hx:a.eval x= .slice (some ad) m c2)(hl:news.length=m*size)
 (hnews: ∀j u,news[j]? =some u→w.cell? (ad.add j)=some u)(h1: ∀u∈news,u.oneCell'=true)(h63:n+m≤4611686018427387904)(hbytes:(n+m)*bytes≤140737488355328)(hml:n+m≤maxLen)
 (h: ∀A' c' w',OwnE E size w' base A' (n+m) c' (xs++news)→w.grownBy w' (ownB A)→(ownB A'=ownB A∨ownB A'=some w.heap.size)→wpListIn F nn Tryz.prog ops Q rest (a.put o.dst (.slice A' (n+m) c')) w'):wpListIn F nn Tryz.prog ops Q (o::rest) a w:=by
 refine wpListIn_plain hgd fun K hK'=>?_
 obtain⟨A',c',w',hr,h2,h3,h4⟩:=run_append_elt_at he w o.type base A n c xs ho ad m c2 news hl hnews h1 h63 hbytes hml
 unfold Oper.wpIn
 refine⟨?_,?_⟩
 ·simp[Oper.about,hop,resolve,Target.leads,Sem.run_pure]
 ·rw[Oper.semAt_plain F _ _ (by rw[hop];intro c hc';cases hc')]
  simp[execOp,hop,resolve,invoke,builtin,hs,hx,hr,Result.andThen]
  exact hK' _ _ (h A' c' w' h2 h3 h4)
theorem own_cells {E:TypeId}{size:Nat}{w:World}{b n c k:Nat}{A:Option Addr}{xs:List Value}(h:OwnE E size w b A n c xs)(hk:ownB A=some k): ∃cur,w.heap[k]? =some (.cells cur E (0,0)):=by
 obtain⟨h1,h2,h3⟩:=h
 rcases h3 with⟨e,_⟩|⟨g,cap,cur,e,_,h7,_⟩
 ·injection e with e
  subst e
  cases hk
 ·injection e with e
  subst e
  have:g=k:=by simpa [ownB]using hk
  subst this
  exact⟨cur,h7⟩
theorem own_put {w0 W:World}{D m c:Nat}{A:Option Addr}{xs:List Value}(ho:OwnE 40 1 W w0.heap.size A m c xs)(hb:Below w0.heap.size w0 W)(hK:W.heap[D]? =some (.deferred (some [])))(hD:w0.heap.size≤D)(o:Obj):
 OwnE 40 1 (W.putObj D o) w0.heap.size A m c xs∧Below w0.heap.size w0 (W.putObj D o):=by
 have kk:=KeptF.grow _ (grownBy_putObj' W D o)
 refine⟨Mf.OwnE.keptF ho kk (fun j hj e=>?_),hb.trans ⟨kk.os,kk.tape,kk.output,kk.size,fun j hj=>kk.block j (by have:=hb.size;omega) (fun e=>by injection e with e;omega)⟩⟩
 injection e with e
 subst e
 obtain⟨cur,hcur⟩:=own_cells ho hj
 rw[hcur]at hK
 cases hK
attribute [local irreducible] HD.cells wpList Code.wp
end Wk
namespace Wl
open Ga Gb
open Ye Yh
open Rd (dcode)
attribute [local irreducible] HD.cells wpList Code.wp
end Wl
namespace Wm
open Ga Gb
open Ye Yh
open Rd (dcode)
attribute [local irreducible] HD.cells wpList Code.wp
end Wm
namespace Ls
open Bytes8 Blk8 OwnE Rows2 Ga Gb Dc
open Ye Yh
open Rd (dcode)
open Ma (roomN)
def U64 (out:List Int):Prop:= ∀x∈out,0≤x∧x≤18446744073709551615
theorem tell_ints {w:World}{b m c:Nat}{A:Option Addr}{out:List Int}(h:OwnE 40 1 w b A m c (out.map (Value.int .u64)))(hl:out.length=m)(hb:U64 out):InInts .u64 w A m (fun i=>out.getD i 0):=fun i hi=>by
 obtain⟨g,e,_,h2,h3⟩:=h.cell (i:=i) (by rw[List.length_map];omega)
 have hi2:i<out.length:=by omega
 rw[List.getElem?_map,List.getElem?_eq_getElem hi2]at h3
 have e2:out.getD i 0=out[i]:=by simp[List.getElem?_eq_getElem hi2]
 refine⟨g,0,e,h2,?_,?_⟩
 ·show w.cell? ⟨g,0+i,none⟩=some (.int .u64 (out.getD i 0))
  rw[Nat.zero_add,e2]
  exact h3
 ·have:=hb out[i] (List.getElem_mem hi2)
  show(Lit.int .u64 (out.getD i 0)).wf=true
  rw[e2]
  simp[Lit.wf,IntKind.min,IntKind.max,IntKind.signed,IntKind.bits]
  omega
attribute [local irreducible] HD.cells wpList Code.wp
end Ls
end Go.Proofs.YtjecmgkmcfkcjaaGreat
