/-
  Texts beneath the proof.
-/
import Derived.Test.YtiddkgcafpaekaaGreatQs44
set_option linter.unusedVariables false
set_option linter.unusedSimpArgs false
set_option maxRecDepth 100000
set_option maxHeartbeats 4000000
open Go.ChangeShapes Go.WideShapes Go.ChangeAt Go.RowKit
namespace Go.Proofs.YtiddkgcafpaekaaGreat
namespace Ska
def FromK (p:Nat→Bool)(m k r:Nat):Prop:=k≤r∧r≤m∧(∀j,k≤j→j<r→p j=false)∧(r<m→p r=true)
theorem FromK.start (p:Nat→Bool)(m:Nat):FromK p m m m:=⟨yR _,yR _,fun j h1 h2=>by omega,fun h=>absurd h (Nat.lt_irrefl m)⟩
theorem FromK.yes {p:Nat→Bool}{m k r:Nat}(h:FromK p m (k+1) r)(hp:p k=true):FromK p m k k:=⟨yR _,by have:=h.1;have:=h.2.1;omega,fun j h1 h2=>by omega,fun _=>hp⟩
theorem FromK.no {p:Nat→Bool}{m k r:Nat}(h:FromK p m (k+1) r)(hp:p k=false):FromK p m k r:=⟨by have:=h.1;omega,h.2.1,fun j h1 h2=>by
 rcases Nat.eq_or_lt_of_le h1 with e|e
 ·rw[←e];exact hp
 ·exact h.2.2.1 j e h2,h.2.2.2⟩
theorem FromK.step {p:Nat→Bool}{m k r:Nat}(h:FromK p m (k+1) r):FromK p m k (cond (p k) k r):=by
 cases hp:p k with
 |true=>exact h.yes hp
 |false=>exact h.no hp
theorem FromK.fst {p:Nat→Bool}{m r:Nat}(h:FromK p m 0 r):IsFst p m r:=⟨h.2.1,fun k hk=>h.2.2.1 k (Nat.zero_le _) hk,h.2.2.2⟩
def UpTo (p:Nat→Bool)(k:Nat):Prop:= ∀j,j<k→p j=false
theorem UpTo.zero (p:Nat→Bool):UpTo p 0:=fun j h=>absurd h (Nat.not_lt_zero j)
theorem UpTo.succ {p:Nat→Bool}{k:Nat}(h:UpTo p k)(hp:p k=false):UpTo p (k+1):=fun j hj=>by
 rcases Nat.lt_or_ge j k with e|e
 ·exact h j e
 ·rw[show j=k by omega];exact hp
theorem UpTo.fst {p:Nat→Bool}{m k:Nat}(h:UpTo p k)(hk:k≤m)(hp:k<m→p k=true):IsFst p m k:=⟨hk,h,hp⟩
end Ska
namespace Cl8
open Bytes8 Blk8 Own8 OwnE
theorem bytes_any (A:Option Addr)(l:List Int)(len cap:Nat)(w:World)(hb:Bytes w A l)(hL:l.length=len)(hmax:len≤1000000):
 Calls Tryz.prog 23 #[.slice A len cap] w fun e w'=> ∃A2 c2,e= .returned (.slice A2 len c2)∧Own8.Own w' w.heap.size A2 len c2 l∧Below w.heap.size w w':=by
 have HB:=yH (hb.below ((Below.refl w.heap.size w).alloc (yR _) (.cells #[] 5)) (yR _))
 have HL:=yH hL
 clear hb hL
 go_enter Tryz.func23,Tryz.ntmps23
 go_wp2_with(at_builtin;refine wpList_append_bytes rfl (.tmp 3) (.tmp 4) rfl w.heap.size _ 0 0 [] rfl (Own.made w _ (yR _)) A len cap l rfl HB.out HL.out (by omega) ?_;intro A2 c2 w2 ho2 hbel2;rw[Nat.zero_add,List.nil_append]at ho2;rw[Nat.zero_add];have HO2:=yH ho2;clear ho2)
 go_ret
 exact⟨A2,c2,rfl,HO2.out,((Below.refl _ _).alloc (yR _) _).trans hbel2⟩
end Cl8
namespace Nt
open Ga Gb Ma Mh Na Nc
theorem imgB_len {m:Mk}(h:Img m):(imgB m).length=m.b.length:=by
 have:=h.lens
 unfold imgB
 rw[List.length_append,HD.bytes_len,List.length_drop]
 omega
end Nt
namespace Nu
open Own8 OwnE Rows2 Od Ga Ma Kf Mb Mc Mg Mh Gb Na Nc Nh Nl Np Nq Nt Seq8
attribute [local irreducible] Mk.cells HD.cells Cf.cells wpList Code.wp
def Imaged (w:World)(e:Ending)(w':World):Prop:= ∃(A:Option Addr) (c:Nat) (m:Mk),e= .returned (.slice A m.b.length c)∧Good m∧Own8.Own w' w.heap.size A m.b.length c (imgB m)∧Below w.heap.size w w'
theorem image_made (a:Option Addr)(len cap:Nat)(f:Nat→Int)(mo:Nat)(w:World)(hI:InInts .i64 w a len f)(hl:len≤9223372036854775807)(hmo:mo≤1000):
 Calls Tryz.prog 13 #[.slice a len cap,.int .i64 (mo:Int)] w (Imaged w):=by
 refine(image_n a len cap f mo w hI hl hmo).mono ?_
 rintro e w' ⟨A,c,m,n,rfl,hg,ho,hb⟩
 exact⟨A,c,m,rfl,hg.good,ho,hb⟩
end Nu
namespace Rp
open Ga Gb Gf Gj Gm Ns Nt Ra Rc
open Go1 (hcode rhd hread_any HTold magicB)
theorem fine_end {l:List Int}{n:Nat}(hz:hcode l n=0)(ok:(hdOf l).Ok 21): ∃E:Nat,endV (hdOf l)=(E:Int)∧endB (hdOf l)=true∧E≤n:=by
 unfold hcode at hz
 by_cases h1:n<272
 ·rw[if_pos h1]at hz;cases hz
 ·rw[if_neg h1]at hz
  by_cases h2:magicB l=false
  ·rw[if_pos h2]at hz;cases hz
  ·rw[if_neg h2]at hz
   unfold fcode at hz
   by_cases h3:flB (hdOf l).ic=true
   ·rw[if_pos h3]at hz;cases hz
   ·rw[if_neg h3]at hz
    by_cases h4:stB (hdOf l).st=false
    ·rw[if_pos h4]at hz;cases hz
    ·rw[if_neg h4]at hz
     by_cases h5:(hdOf l).N 0<272∨(hdOf l).N 0%8≠0∨(hdOf l).N 1%8≠0
     ·rw[if_pos h5]at hz;cases hz
     ·rw[if_neg h5]at hz
      by_cases h6:endB (hdOf l)=false∨(n:Int)<endV (hdOf l)
      ·rw[if_pos h6]at hz;cases hz
      ·have hb:=end_bd (hdOf l) ok
       refine⟨(endV (hdOf l)).toNat,by omega,?_,by omega⟩
       cases h7:endB (hdOf l)
       ·exact absurd (.inl h7) h6
       ·rfl
attribute [local irreducible] HD.cells wpList Code.wp
attribute [local go_sem ↓] bldV_fold
end Rp
namespace Vd
open Bytes8 Blk8 Own8 OwnE Ga Gb Gi Gq Gt Ok7
open Go1 (hcode rhd hread_any HTold magicB)
attribute [local irreducible] HD.cells wpList Code.wp
theorem open_bad (l:List Int)(A:Option Addr)(n c:Nat)(w:World)(hb:Bytes w A l)(hL:l.length=n)(hn:n≤800000)(hc:n≤c)(hz:hcode l n≠0):
 Calls Tryz.prog 24 #[.slice A n c] w fun e w'=>e= .returned (.tuple #[.pointer none,.int .i64 (hcode l n)])∧Below w.heap.size w w':=by
 have HR:=yH (by have k:=hread_any A l n c w hb hL (by omega) hc;rw[show rhd l n=hd0 from if_neg hz]at k;exact k)
 unfold HTold at HR
 have d1:(hcode l n !=0)=true:=by simpa using hz
 generalize hcode l n=cd at*
 clear hb hL
 go_enter Tryz.func24,Tryz.ntmps24
 go_wp2_with(first
  |(go_at_call 19;((refine HR.out.mono ?_);rintro e w1 ⟨rfl,hb1⟩;have B1:=yH hb1;clear hb1))
  |((with_reducible apply at_store (.tmp 4) (.tmp 11));refine wpList_store_row rfl 39 (.tmp 4) (.tmp 11) rfl w1.heap.size (hd0.cells 21).toArray rfl rfl 39 Tryz.zeroCells39 (heap_alloc_new w1 _) (cells_info _) zeros_size (HD.one _ 21) ?_)
  |fail)
 have B2:=yH (show Below w.heap.size w ((w1.alloc (.cells Tryz.zeroCells39 39)).setRow w1.heap.size (hd0.cells 21).toArray)from below_setRow (B1.out.alloc B1.out.size _) B1.out.size _)
 go_ret2
 exact⟨rfl,B2.out⟩
theorem ropen_bad (l:List Int)(A:Option Addr)(n c:Nat)(w:World)(hb:Bytes w A l)(hL:l.length=n)(hn:n≤800000)(hc:n≤c)(hz:hcode l n≠0):
 Calls Tryz.prog 54 #[.slice A n c] w fun e w'=>e= .returned (.tuple #[.pointer none,.int .i64 (hcode l n)])∧Below w.heap.size w w':=by
 have HR:=yH (rreadHead_any A l n c w hb hL (by omega) hc)
 rw[if_neg hz,if_neg hz]at HR
 unfold RTold at HR
 have d1:(hcode l n !=0)=true:=by simpa using hz
 generalize hcode l n=cd at*
 clear hb hL
 go_enter Tryz.func54,Tryz.ntmps54
 go_wp2_with(first
  |(go_at_call 110;((refine HR.out.mono ?_);rintro e w1 ⟨rfl,hb1⟩;have B1:=yH hb1;clear hb1))
  |((with_reducible apply at_store (.tmp 4) (.tmp 12));refine wpList_store_row rfl 119 (.tmp 4) (.tmp 12) rfl w1.heap.size (hd0.cells 20).toArray rfl rfl 119 Tryz.zeroCells119 (heap_alloc_new w1 _) (rcells_info _) rzeros_size (HD.one _ 20) ?_)
  |fail)
 have B2:=yH (show Below w.heap.size w ((w1.alloc (.cells Tryz.zeroCells119 119)).setRow w1.heap.size (hd0.cells 20).toArray)from below_setRow (B1.out.alloc B1.out.size _) B1.out.size _)
 go_ret2
 exact⟨rfl,B2.out⟩
attribute [local go_sem ↓] bldRV_fold
end Vd
namespace Jh
open Bytes8 Ga Vd
open Go1 (hcode)
attribute [local irreducible] HD.cells wpList Code.wp
theorem jopen_bad (l:List Int)(A:Option Addr)(n c:Nat)(w:World)(hb:Bytes w A l)(hL:l.length=n)(hn:n≤800000)(hc:n≤c)(hz:hcode l n≠0):
 Calls Tryz.prog 30 #[.slice A n c] w fun e w'=>e= .returned (.tuple #[.pointer none,.int .i64 (hcode l n)])∧Below w.heap.size w w':=by
 have HO:=yH (open_bad l A n c w hb hL hn hc hz)
 have d1:(hcode l n !=0)=true:=by simpa using hz
 have d2:decide (hcode l n=0)=false:=by simpa using hz
 clear hb hL hz
 generalize hcode l n=cd at*
 go_enter Tryz.func30,Tryz.ntmps30
 go_wp2_with(first
  |(go_at_call 24;((refine HO.out.mono ?_);rintro e w1 ⟨rfl,hb1⟩;have B1:=yH hb1;clear hb1))
  |fail)
 go_ret2
 exact⟨rfl,B1.out⟩
end Jh
namespace Jj
open Bytes8 OwnE Ga Gb Na Np Rn Rr Vd
open Go1 (hcode)
open Nh (intE)
open Dc (wpList_append_elt_at)
open Yg (res_row)
attribute [local irreducible] HD.cells wpList Code.wp
theorem ropen15_bad (l:List Int)(A:Option Addr)(n c:Nat)(w:World)(hb:Bytes w A l)(hL:l.length=n)(hn:n≤800000)(hc:n≤c)(hz:hcode l n≠0):
 Calls Tryz.prog 38 #[.slice A n c] w fun e w'=>e= .returned (.tuple #[.pointer none,.int .i64 (hcode l n)])∧Below w.heap.size w w':=by
 have HO:=yH (ropen_bad l A n c w hb hL hn hc hz)
 have d1:(hcode l n !=0)=true:=by simpa using hz
 have d2:decide (hcode l n=0)=false:=by simpa using hz
 clear hb hL hz
 generalize hcode l n=cd at*
 go_enter Tryz.func38,Tryz.ntmps38
 go_wp2_with(first
  |(go_at_call 54;(refine HO.out.mono ?_);rintro e w1 ⟨rfl,hb1⟩;have B1:=yH hb1;clear hb1)
  |fail)
 go_ret2
 exact⟨rfl,B1.out⟩
end Jj
namespace Skf
open Bytes8 Blk8 OwnE Rows2 Ga Gb Kf Na Np Rc Rn Rr Va Pr8 Zj Jb Jh Jj Skc Skd
open Go1 (hcode)
open Yg (NewIn)
attribute [local irreducible] HD.cells wpList Code.wp
theorem open_bad (l:List Int)(A:Option Addr)(n c:Nat)(w:World)(hb:Bytes w A l)(hL:l.length=n)(hn:n≤800000)(hc:n≤c)(hz:hcode l n≠0):
 Calls Tryz.prog 37 #[.slice A n c] w fun e w'=>e= .returned (.tuple #[.pointer none,.slice none 0 0])∧Below w.heap.size w w':=by
 have HOp:=yH fun(W:World) (hW:Bytes W A l)=>jopen_bad l A n c W hW hL hn hc hz
 have HQ:=yH fun(W:World) (hW:Bytes W A l)=>ropen15_bad l A n c W hW hL hn hc hz
 have HB:=yH hb
 have d0:(hcode l n !=0)=true:=by simpa using hz
 have d00:decide (hcode l n=0)=false:=by simpa using hz
 clear hb hz
 generalize hcode l n=hcd at*
 go_enter Tryz.func37,Tryz.ntmps37
 go_upto_region 2 with(first
  |(go_at_call 30;((refine(HOp.out _ HB.out).mono ?_);rintro e w4 ⟨rfl,hb4⟩;have B4:=yH hb4;have HB4:=yH (HB.out.below hb4 (yR _));clear hb4))
  |fail)
 go_wp2_with(first
  |(go_at_call 38;((refine(HQ.out _ HB4.out).mono ?_);rintro e w5 ⟨rfl,hb5⟩;have B5:=yH (B4.out.trans (hb5.mono B4.out.size));clear hb5))
  |fail)
 go_ret2
 exact⟨rfl,B5.out⟩
end Skf
end Go.Proofs.YtiddkgcafpaekaaGreat
