/-
  Texts beneath the proof.
-/
import Derived.Test.YtjecmgkmcfkcjaaGreatQb36
import Derived.Test.YtjecmgkmcfkcjaaGreatQb37
import Derived.Test.YtjecmgkmcfkcjaaGreatQb2
set_option linter.unusedVariables false
set_option linter.unusedSimpArgs false
set_option maxRecDepth 100000
open Go.ChangeShapes Go.WideShapes Go.ChangeAt Go.RowKit
namespace Go.Proofs.YtjecmgkmcfkcjaaGreat
namespace Wg
open Bytes8 Blk8 Ob Ga Gb Np Sg Rj Va Vf Wa
open Yp Ye
open Rd (dcode)
open Rf (fcode)
def seek (E:Nat)(oC:Nat→Int)(oX:Nat→Nat)(oH:Nat→Int)(oP:Nat→List Int)(hv:Int)(pl:List Int):Nat→Nat→Nat→Int×Int
 |0,_,_=>(0,16)
 |f+1,a,last=>if nothB E a=true then(0,16)else if a≤last then(0,12)else if oC a≠0 then(0,oC a)else if oH a=hv∧oP a=pl then((a:Int),0)else seek E oC oX oH oP hv pl f (oX a) a
theorem fN_nn {h:HD}{l:List Int}{E a i:Nat}(hA:AllB l):fN h l E a i=((fN h l E a i).toNat:Int)∧(fN h l E a i).toNat≤18446744073709551615:=by
 have h2:0≤fN h l E a i∧fN h l E a i≤18446744073709551615:=by
  unfold fN
  split
  ·unfold bnum
   split
   ·exact u8_bd (fun x hx=>hA x (List.mem_of_mem_drop (List.mem_of_mem_take hx))) _
   ·omega
  ·omega
 omega
theorem dN_nn2 {h:HD}{l:List Int}{E a i:Nat}(hA:AllB l):dN h l E a i=((dN h l E a i).toNat:Int)∧(dN h l E a i).toNat≤18446744073709551615:=by
 have h2:0≤dN h l E a i∧dN h l E a i≤18446744073709551615:=by
  unfold dN
  split
  ·unfold bnum
   split
   ·exact u8_bd (fun x hx=>hA x (List.mem_of_mem_drop (List.mem_of_mem_take hx))) _
   ·omega
  ·omega
 omega
theorem taA_nn {l:List Int}{a:Nat}(hA:AllB l)(i:Nat):0≤taA (bodyL l a) i∧taA (bodyL l a) i≤18446744073709551615:=u8_bd (fun x hx=>hA x (List.mem_of_mem_drop (List.mem_of_mem_take hx))) _
attribute [local irreducible] HD.cells wpList Code.wp
def find4 (h:HD)(l:List Int)(n:Nat)(pl:List Int):Int×Int:=if tCode h l 4≠0 then(0,tCode h l 4)else seek n (dcode h l n) (fun a=>(dN h l n a 1).toNat) (fun a=>dN h l n a 0) (dP h l n) (ofS (keyB h.ic) (idL h.I) pl) pl (n+1) (taA (bodyL l (tOff h 4)) ((ofS (keyB h.ic) (idL h.I) pl).toNat%tNum h l 4)).toNat 0
def find5 (h:HD)(l:List Int)(n:Nat)(pl:List Int):Int×Int:=if tCode h l 5≠0 then(0,tCode h l 5)else seek n (fcode h l n) (fun a=>(fN h l n a 1).toNat) (fun a=>fN h l n a 0) (fP h l n) (ofS (keyB h.ic) (idL h.I) pl) pl (n+1) (taA (bodyL l (tOff h 5)) ((ofS (keyB h.ic) (idL h.I) pl).toNat%tNum h l 5)).toNat 0
end Wg
namespace Wi
open Ga Gb Np
attribute [local irreducible] HD.cells wpList Code.wp
end Wi
namespace Wh
open Ga Gb Np
open Ye
open Wg (fN_nn dN_nn2 taA_nn)
open Rd (dcode)
open Rf (fcode)
attribute [local irreducible] HD.cells wpList Code.wp
end Wh
end Go.Proofs.YtjecmgkmcfkcjaaGreat
