/-
  Texts beneath the proof.
-/
import Derived.Test.YtjecmgkmcfkcjaaGreatQh42
set_option linter.unusedVariables false
set_option linter.unusedSimpArgs false
set_option maxRecDepth 100000
open Go.ChangeShapes Go.WideShapes Go.ChangeAt Go.RowKit
namespace Go.Proofs.YtjecmgkmcfkcjaaGreat
namespace Xf
open Go.ChangeShapes Go.WideShapes Go.ChangeAt Go.RowKit Go.Shelf
open Ga Gb
open Ye Yh
open Rd (dcode)
attribute [local irreducible] HD.cells wpList Code.wp
end Xf
namespace Xg
open Go.ChangeShapes Go.WideShapes Go.ChangeAt Go.RowKit Go.Shelf
open Ga Gb Np
open Ye Yh
open Re (res_row_cell load_code)
open Wf (rowOf rowOf_block KpL KpL.put)
attribute [local go_sem] Oper.semAt_some
attribute [local irreducible] HD.cells wpList Code.wp
end Xg
namespace Xh
open Go.ChangeShapes Go.WideShapes Go.ChangeAt Go.RowKit Go.Shelf
open Ga Gb Np
open Ye Yh
open Rd (dcode)
attribute [local irreducible] HD.cells wpList Code.wp
end Xh
namespace Xl
open Bytes8 Fa
theorem bytes_back {w:World}{A:Option Addr}{l:List Int}{m:Nat}(c:Nat)(h:Bytes w A l)(hl:l.length=m)(h0:l≠ []):(convert 23 9 (.slice A m c)).run Tryz.prog w= .ok (.string (T l)) w:=by
 subst hl
 have hpos:0<l.length:=List.length_pos_iff.2 h0
 obtain⟨b,off,rfl,_,_⟩:=h.2 0 hpos
 have q:=run_convert_bytes_back (P:=Tryz.prog) w 23 9 5 ⟨b,off,none⟩ c (l.map fun n=>n.toNat.toUInt8) Tryz.underlying23 Tryz.underlying5 Tryz.underlying9 (fun j hj=>by
  rw[List.length_map]at hj
  obtain⟨b2,off2,e,_,hc⟩:=h.2 j hj
  injection e with e
  injection e with e1 e2
  subst e1 e2
  rw[List.getElem_map]
  have hb:=h.1 l[j] (List.getElem_mem hj)
  have e3:((l[j].toNat.toUInt8).toNat:Int)=l[j]:=by
   simp
   omega
  rw[e3]
  have ha:(⟨b,off,none⟩:Addr).add j=⟨b,off+j,none⟩:=by simp[Addr.add]
  rw[ha,hc,List.getD_eq_getElem?_getD,List.getElem?_eq_getElem hj]
  rfl)
 rw[List.length_map]at q
 rw[q]
 congr 2
end Xl
end Go.Proofs.YtjecmgkmcfkcjaaGreat
