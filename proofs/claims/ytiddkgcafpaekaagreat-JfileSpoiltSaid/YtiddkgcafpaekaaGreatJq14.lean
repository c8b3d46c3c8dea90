/-
  Texts beneath the proof.
-/
import Derived.Test.YtiddkgcafpaekaaGreatJq13
set_option linter.unusedVariables false
set_option linter.unusedSimpArgs false
set_option maxRecDepth 100000
open Go.ChangeShapes Go.WideShapes Go.ChangeAt Go.RowKit
namespace Go.Proofs.YtiddkgcafpaekaaGreat
namespace Yj
open Ob Yc
theorem prs_at (f g:Nat→Int)(n i:Nat)(h:i<n):(prs f g n)[i*2]? =some (f i)∧(prs f g n)[i*2+1]? =some (g i):=by
 induction n with
 |zero=>omega
 |succ n ih=>
  have hl:=prs_len f g n
  rw[prs_succ]
  rcases Nat.lt_or_ge i n with h1|h1
  ·rw[List.getElem?_append_left (by omega),List.getElem?_append_left (by omega)]
   exact ih h1
  ·obtain rfl:i=n:=by omega
   rw[List.getElem?_append_right (by omega),List.getElem?_append_right (by omega),show i*2-(prs f g i).length=0 by omega,show i*2+1-(prs f g i).length=1 by omega]
   exact⟨rfl,rfl⟩
theorem prs_getD (f g:Nat→Int)(n i:Nat)(h:i<n):(prs f g n).getD (2*i) 0=f i∧(prs f g n).getD (2*i+1) 0=g i:=by
 obtain⟨h1,h2⟩:=prs_at f g n i h
 rw[Nat.mul_comm 2 i,List.getD_eq_getElem?_getD,List.getD_eq_getElem?_getD,h1,h2]
 exact⟨rfl,rfl⟩
def Wd (f:Nat→Int)(n:Nat):Prop:= ∀i,i<n→0≤f i∧f i≤18446744073709551615
theorem nums_at (l m:List Int)(i j:Nat)(hj:j=8*i)(hi:i<l.length)(hb:0≤l.getD i 0∧l.getD i 0≤18446744073709551615):u8 (nums l++m) j=l.getD i 0:=by
 subst hj
 exact u8_nums l m i hi hb
theorem prs_read (f g:Nat→Int)(n i:Nat)(h:i<n)(hf:Wd f n)(hg:Wd g n)(m:List Int):u8 (nums (prs f g n)++m) (16*i)=f i∧u8 (nums (prs f g n)++m) (16*i+8)=g i:=by
 obtain⟨h1,h2⟩:=prs_getD f g n i h
 have hl:=prs_len f g n
 refine⟨(nums_at _ m (2*i) _ (by omega) (by omega) (by rw[h1];exact hf i h)).trans h1,(nums_at _ m (2*i+1) _ (by omega) (by omega) (by rw[h2];exact hg i h)).trans h2⟩
end Yj
namespace Yi
end Yi
namespace Yz
open OwnE
theorem OwnE.farE {E:TypeId}{size:Nat}{w:World}{base:Nat}{A:Option Addr}{n c:Nat}{xs:List Value}(h:OwnE E size w base A n c xs){a:Addr}(ha:a.block<base)(u:Value):OwnE E size (w.setCell a u) base A n c xs:=
 ⟨by simpa using h.1,ownsRow_setCell_below h.2 ha u⟩
theorem wpList_build_as {P:Program}{ops:Array Oper}{rest:List Oper}{o:Oper}{a:Act}{w:World}{Q:Exit→Act→World→Prop}(hg:o.guard=none)(t:TypeId)(parts:Array (Nat×Operand))(ho:o.op= .build t parts)(cells:Array Value)
 (hb:P.built t (parts.map fun(i,x)=>(i,a.eval x)).toList=some cells)(h:wpList P ops Q rest (a.put o.dst (.agg cells)) w):wpList P ops Q (o::rest) a w:=
 wpList_build hg t parts ho (by rw[hb];rfl) (by rw[hb];exact h)
end Yz
namespace Yl
end Yl
namespace Ym
open OwnE
theorem wordElt:Elt 27 30 1 8 (.int .u64 0):=⟨Tryz.underlying30,by kernel_rfl,rfl,by decide⟩
end Ym
end Go.Proofs.YtiddkgcafpaekaaGreat
