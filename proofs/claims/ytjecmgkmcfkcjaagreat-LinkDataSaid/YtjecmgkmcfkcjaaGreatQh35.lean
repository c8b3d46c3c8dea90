/-
  Texts beneath the proof.
-/
import Derived.Test.YtjecmgkmcfkcjaaGreatQh34
import Derived.Test.YtjecmgkmcfkcjaaGreatQh31
set_option linter.unusedVariables false
set_option linter.unusedSimpArgs false
set_option maxRecDepth 100000
open Go.ChangeShapes Go.WideShapes Go.ChangeAt Go.RowKit
namespace Go.Proofs.YtjecmgkmcfkcjaaGreat
namespace Rq
attribute [local irreducible] wpList Code.wp
end Rq
namespace Rr
open Ga Gb Np Nt
open Ye Yh
open Rd (dcode dz)
open Go1 (hcode rhd hread_any HTold magicB)
attribute [local irreducible] HD.cells wpList Code.wp
end Rr
namespace Va
open Bytes8 Own8 OwnE Ob Ga Gb Oj Ok7 Np Pr8 Rc Rm
open Ye Yh
open Rd (dcode dz)
open Re (AskD)
abbrev rng (h:HD)(n a:Nat):Prop:=h.N 0≤(a:Int)∧a<n
def dN (h:HD)(l:List Int)(n a i:Nat):Int:=if rng h n a then bnum l a 1 6 i else 0
def dP (h:HD)(l:List Int)(n a:Nat):List Int:=if rng h n a then bpay l a 1 6 else []
def TellD (B:Nat)(h:HD)(l:List Int)(n a:Nat)(w:World)(e:Ending)(w':World):Prop:=Below w.heap.size w w'∧ ∃A' m c,e= .returned (.tuple #[dataV (dN h l n a 0) (dN h l n a 1) (dN h l n a 2) (dN h l n a 3) (dN h l n a 4) (dN h l n a 5) A' m c,.int .i64 (dcode h l n a)])∧Bytes w' A' (dP h l n a)∧(dP h l n a).length=m∧Cap B A' m c
theorem cap_none (B:Nat):Cap B none 0 0:=⟨by decide,by decide,by decide,fun b off e=>by cases e⟩
theorem dataTell {gv:Nat}{h:HD}{A:Option Addr}{n c:Nat}{l:List Int}(a:Nat)(w:World)(v:ViewAt w gv h A n c l)(hcm:c≤maxLen):
 Calls Tryz.prog 32 #[.pointer (some ⟨gv,0,none⟩),.int .u64 (a:Int)] w (TellD w.heap.size h l n a w):=by
 refine(Re.dataAsk a w v hcm).mono ?_
 rintro e w' ⟨hb,hh⟩
 refine⟨hb,?_⟩
 unfold dN dP dcode
 by_cases hr:rng h n a
 ·rcases hh with⟨hz,rfl⟩|⟨hz,A',m',c',rfl,h1,h2,h3⟩
  ·have e0:dcode h l n a=bcode l a 1 6:=if_pos hr
   rw[e0]at hz
   have hn: ∀i,bnum l a 1 6 i=0:=fun i=>if_neg hz
   have hp:bpay l a 1 6=[]:=if_neg hz
   simp only[if_pos hr,hn,hp]
   rw[e0]
   exact⟨none,0,0,rfl,Bytes.nil _ _,rfl,cap_none _⟩
  ·have e0:dcode h l n a=bcode l a 1 6:=if_pos hr
   rw[e0]at hz
   simp only[if_pos hr]
   rw[hz]
   exact⟨A',m',c',rfl,h1,h2,h3⟩
 ·rcases hh with⟨hz,rfl⟩|⟨hz,_⟩
  ·simp only[if_neg hr]
   rw[show dcode h l n a=2 from if_neg hr]
   exact⟨none,0,0,rfl,Bytes.nil _ _,rfl,cap_none _⟩
  ·rw[show dcode h l n a=2 from if_neg hr]at hz;cases hz
attribute [local irreducible] HD.cells wpList Code.wp
end Va
end Go.Proofs.YtjecmgkmcfkcjaaGreat
