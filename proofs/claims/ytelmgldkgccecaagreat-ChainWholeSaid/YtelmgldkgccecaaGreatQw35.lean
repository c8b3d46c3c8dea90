/-
  Texts beneath the proof.
-/
import Derived.Test.YtelmgldkgccecaaGreatQw34
import Derived.Test.YtelmgldkgccecaaGreatQw20
import Derived.Test.YtelmgldkgccecaaGreatQw12
import Derived.Test.YtelmgldkgccecaaGreatQw31
import Derived.Test.YtelmgldkgccecaaGreatQw33
import Derived.Test.YtelmgldkgccecaaGreatQw32
import Derived.Test.YtelmgldkgccecaaGreatQw8
import Derived.Test.YtelmgldkgccecaaGreatQw14
import Derived.Test.YtelmgldkgccecaaGreatQw13
set_option linter.unusedVariables false
set_option linter.unusedSimpArgs false
set_option maxRecDepth 100000
set_option maxHeartbeats 2000000
open Go.ChangeShapes Go.WideShapes Go.ChangeAt Go.RowKit
namespace Go.Proofs.YtelmgldkgccecaaGreat
namespace Rq
attribute [local irreducible] wpList Code.wp
end Rq
namespace Rr
open Bytes8 Blk8 Own8 OwnE Rows2 Ga Gb Ma Na Np Pr8 Ra Rc Rm
open Ye
open Rd (dcode dz)
open Go1 (hcode rhd hread_any HTold magicB)
attribute [local irreducible] HD.cells wpList Code.wp
theorem view_head {w:World}{gv:Nat}{h:HD}{b:Value}(hv:Blk w gv (viewC h b) 111):w.rangeAt gv 0 (h.cells 21):=fun j x hj=>by
 rw[Nat.zero_add]
 refine hv.cell ?_
 unfold viewC
 rw[List.getElem?_append_left (List.getElem?_eq_some_iff.1 hj).1]
 exact hj
theorem vhead_any {gv:Nat}{h:HD}{b:Value}(w:World)(hv:Blk w gv (viewC h b) 111):Calls Tryz.prog 25 #[.pointer (some ⟨gv,0,none⟩)] w fun e w'=>e= .returned (.agg (h.cells 21).toArray)∧Below w.heap.size w w':=by
 have b1:=Lib.hid ((Below.refl w.heap.size w).alloc (Nat.le_refl _) (.cells Tryz.zeroCells59 59))
 have HR:=Lib.hid (view_head (hv.below b1.out hv.lt))
 have Z:=Lib.hid (heap_alloc_new w (.cells Tryz.zeroCells59 59))
 clear hv
 go_enter Tryz.func25,Tryz.ntmps25
 go_wp2_with(first
  |((with_reducible apply at_slot 6);refine wpList_load_mid rfl 59 (.tmp 5) rfl gv 0 rfl (h.cells 21) _ HR.out Tryz.underlying59 rfl (hcells_len _) ?_)
  |((with_reducible apply at_store (.tmp 2) (.tmp 6));refine wpList_store_row rfl 59 (.tmp 2) (.tmp 6) rfl w.heap.size (h.cells 21).toArray rfl rfl 59 Tryz.zeroCells59 Z.out (cells_info _) zeros_size (HD.one _ 21) ?_)
  |fail)
 refine bodyPost_ret (v:= .agg (h.cells 21).toArray) (by exact results_cell_row Tryz.results25 _ _ w.heap.size 59 _ (0,0) _ rfl (setRow_heap _ w.heap.size _ _ _ (0,0) Z.out) Tryz.underlying59 rfl (cells_info _)) rfl ?_
 exact⟨rfl,below_setRow b1.out (Nat.le_refl _) _⟩
end Rr
namespace Zt
end Zt
namespace Va
open Bytes8 Own8 OwnE Ob Ga Gb Oj Ok7 Np Pr8 Rc Rm
open Ye
open Rd (dcode dz)
open Re (AskD)
open Rf (fcode fz AskF fieldAsk)
abbrev rng (h:HD)(n a:Nat):Prop:=h.N 0≤(a:Int)∧a<n
def dN (h:HD)(l:List Int)(n a i:Nat):Int:=if rng h n a then bnum l a 1 6 i else 0
def dP (h:HD)(l:List Int)(n a:Nat):List Int:=if rng h n a then bpay l a 1 6 else []
def TellD (B:Nat)(h:HD)(l:List Int)(n a:Nat)(w:World)(e:Ending)(w':World):Prop:=Below w.heap.size w w'∧ ∃A' m c,e= .returned (.tuple #[dataV (dN h l n a 0) (dN h l n a 1) (dN h l n a 2) (dN h l n a 3) (dN h l n a 4) (dN h l n a 5) A' m c,.int .i64 (dcode h l n a)])∧Bytes w' A' (dP h l n a)∧(dP h l n a).length=m∧Cap B A' m c
def fN (h:HD)(l:List Int)(n a i:Nat):Int:=if rng h n a then bnum l a 2 3 i else 0
def fP (h:HD)(l:List Int)(n a:Nat):List Int:=if rng h n a then bpay l a 2 3 else []
def TellF (h:HD)(l:List Int)(n a:Nat)(w:World)(e:Ending)(w':World):Prop:=Below w.heap.size w w'∧ ∃A' m c,e= .returned (.tuple #[fieldV (fN h l n a 0) (fN h l n a 1) (fN h l n a 2) A' m c,.int .i64 (fcode h l n a)])∧Bytes w' A' (fP h l n a)∧(fP h l n a).length=m∧m≤1000000
theorem cap_none (B:Nat):Cap B none 0 0:=⟨by decide,by decide,by decide,fun b off e=>by cases e⟩
theorem dataTell {gv:Nat}{h:HD}{A:Option Addr}{n c:Nat}{l:List Int}(a:Nat)(w:World)(v:ViewAt w gv h A n c l)(hcm:c≤maxLen):
 Calls Tryz.prog 43 #[.pointer (some ⟨gv,0,none⟩),.int .u64 (a:Int)] w (TellD w.heap.size h l n a w):=by
 refine(Re.dataAsk a w v hcm).mono ?_
 rintro e w' ⟨hb,hh⟩
 refine⟨hb,?_⟩
 unfold dN dP dcode
 by_cases hr:rng h n a
 ·rcases hh with⟨hz,rfl⟩|⟨hz,A',m',c',rfl,h1,h2,h3⟩
  ·have e0:dcode h l n a=bcode l a 1 6:=if_pos hr
   rw[e0]at hz
   have hn: ∀i,bnum l a 1 6 i=0:=fun i=>if_neg hz
   have hp:bpay l a 1 6=[]:=if_neg hz
   simp only[if_pos hr,hn,hp]
   rw[e0]
   exact⟨none,0,0,rfl,Bytes.nil _ _,rfl,cap_none _⟩
  ·have e0:dcode h l n a=bcode l a 1 6:=if_pos hr
   rw[e0]at hz
   simp only[if_pos hr]
   rw[hz]
   exact⟨A',m',c',rfl,h1,h2,h3⟩
 ·rcases hh with⟨hz,rfl⟩|⟨hz,_⟩
  ·simp only[if_neg hr]
   rw[show dcode h l n a=2 from if_neg hr]
   exact⟨none,0,0,rfl,Bytes.nil _ _,rfl,cap_none _⟩
  ·rw[show dcode h l n a=2 from if_neg hr]at hz;cases hz
theorem fieldTell {gv:Nat}{h:HD}{A:Option Addr}{n c:Nat}{l:List Int}(a:Nat)(w:World)(v:ViewAt w gv h A n c l)(hcm:c≤maxLen):
 Calls Tryz.prog 44 #[.pointer (some ⟨gv,0,none⟩),.int .u64 (a:Int)] w (TellF h l n a w):=by
 refine(fieldAsk a w v hcm).mono ?_
 rintro e w' ⟨hb,hh⟩
 refine⟨hb,?_⟩
 unfold fN fP fcode
 by_cases hr:rng h n a
 ·rcases hh with⟨hz,rfl⟩|⟨hz,A',m',c',rfl,h1,h2,h3⟩
  ·have e0:fcode h l n a=bcode l a 2 3:=if_pos hr
   rw[e0]at hz
   have hn: ∀i,bnum l a 2 3 i=0:=fun i=>if_neg hz
   have hp:bpay l a 2 3=[]:=if_neg hz
   simp only[if_pos hr,hn,hp]
   rw[e0]
   exact⟨none,0,0,rfl,Bytes.nil _ _,rfl,by decide⟩
  ·have e0:fcode h l n a=bcode l a 2 3:=if_pos hr
   rw[e0]at hz
   simp only[if_pos hr]
   rw[hz]
   exact⟨A',m',c',rfl,h1,h2,h3⟩
 ·rcases hh with⟨hz,rfl⟩|⟨hz,_⟩
  ·simp only[if_neg hr]
   rw[show fcode h l n a=2 from if_neg hr]
   exact⟨none,0,0,rfl,Bytes.nil _ _,rfl,by decide⟩
  ·rw[show fcode h l n a=2 from if_neg hr]at hz;cases hz
attribute [local irreducible] HD.cells wpList Code.wp
end Va
end Go.Proofs.YtelmgldkgccecaaGreat
