/-
  Texts beneath the proof.
-/
import Derived.Test.YtiddkgcafpaekaaGreatQsSeekSaysb1
import Derived.Deep.Grids
set_option linter.unusedVariables false
set_option linter.unusedSimpArgs false
set_option maxRecDepth 100000
set_option maxHeartbeats 4000000
open Go.ChangeShapes Go.WideShapes Go.ChangeAt Go.RowKit
namespace Go.Proofs.YtiddkgcafpaekaaGreat
namespace Ta
open Bytes8
def pad (l:List Int)(n:Nat):List Int:=l++List.replicate (n-l.length) 0
def wr (now:List Int)(p:Nat)(b:List Int):List Int:=
 if b.length=0 then now else(pad now (p+b.length)).take p++(b++(pad now (p+b.length)).drop (p+b.length))
end Ta
namespace Do8
open Go.ChangeShapes Go.WideShapes Go.ChangeAt Go.RowKit Go.Deep
open Bytes8
section
variable {H : Type} {enc : TypeId × Value → H} {P : Program} {w : World} {base : Nat} {held : Bool}
structure DoV where
 kind:Int
 at_:Int
 n:Int
 A1:Option Addr
 L1:Nat
 C1:Nat
 Z1:List Int
 A2:Option Addr
 L2:Nat
 C2:Nat
 K:Nat→Bool
instance:Inhabited DoV:=⟨⟨0,0,0,none,0,0,[],none,0,0,fun _=>false⟩⟩
end
end Do8
namespace OwnS
end OwnS
namespace Sfa
end Sfa
namespace Sfb
end Sfb
namespace Sfc
end Sfc
namespace Sra
end Sra
namespace Sfd
end Sfd
namespace Srq
end Srq
namespace Srq
end Srq
namespace Vg
open Bytes8 Blk8 Own8 OwnE Rows2 Numb
theorem xor8 {x y:Int}(hx:0≤x∧x<256)(hy:0≤y∧y<256):0≤bits .xor .u8 x y∧bits .xor .u8 x y<256:=by
 obtain⟨a,rfl⟩: ∃a:Nat,x=(a:Int):=⟨x.toNat,by omega⟩
 obtain⟨b,rfl⟩: ∃b:Nat,y=(b:Int):=⟨y.toNat,by omega⟩
 rw[u8_xor_nat a b (by omega) (by omega)]
 have:=Nat.xor_lt_two_pow (n:=8) (x:=a) (y:=b) (by omega) (by omega)
 omega
theorem own_cell {w:World}{base g n c:Nat}{l:List Int}(h:Own8.Own w base (some ⟨g,0,none⟩) n c l)(i:Nat)(hi:i<n):w.cell? ⟨g,i,none⟩=some (.int .u8 (l.getD i 0)):=by
 obtain⟨b,off,e,_,hc⟩:=h.bytes.2 i (by rw[h.2.1];exact hi)
 injection e with e
 injection e with e1 e2
 subst e1 e2
 rw[Nat.zero_add]at hc
 exact hc
theorem own_fz {w:World}{base g n c:Nat}{l:List Int}(h:Own8.Own w base (some ⟨g,0,none⟩) n c l)(i:Nat)(hi:i<n):w.frozen? ⟨g,i,none⟩=false:=by
 rcases h.2.2.2.2 with⟨h1,h2⟩|⟨k,cap,cur,h1,h2,h3,h4⟩
 ·cases h1
 ·injection h1 with e1 e2 e3
  injection e1 with e1
  injection e1 with e1
  subst e1
  simp[World.frozen?,h3]
theorem own_set {w:World}{base g n c:Nat}{l:List Int}(h:Own8.Own w base (some ⟨g,0,none⟩) n c l)(i:Nat){x:Int}(h0:0≤x)(h1:x<256):Own8.Own (w.setCell ⟨g,i,none⟩ (.int .u8 x)) base (some ⟨g,0,none⟩) n c (l.set i x):=by
 refine⟨h.1.set i h0 h1,by rw[List.length_set];exact h.2.1,by simpa using h.2.2.1,?_⟩
 have:=(h.2.2.2.stored i (.int .u8 x)).1
 rw[List.map_set]
 exact this
def natOf:Value→Nat
 | .int _ z=>z.toNat
 |_=>0
attribute [local irreducible] wpList Code.wp
theorem spoil_any (A:Option Addr)(n c:Nat)(l:List Int)(P:Option Addr)(k kc:Nat)(f:Nat→Int)(y:Int)(w:World)(hb:Bytes w A l)(hL:l.length=n)(hn:n≤1000000)(hI:InInts .i64 w P k f)(hk:k≤1000)(hy:0≤y∧y<256):
 Calls Tryz.prog 12 #[.slice A n c,.slice P k kc,.int .u8 y] w fun e w'=> ∃A2 c2 l2,e= .returned (.slice A2 n c2)∧l2.length=n∧Own8.Own w' w.heap.size A2 n c2 l2∧Below w.heap.size w w':=by
 have HB:=yH (Cl8.bytes_any A l n c w hb hL hn)
 have HI:=yH hI
 clear hb hI
 go_enter Tryz.func12,Tryz.ntmps12
 go_upto_region 3 with(first
  |(go_at_call 23;(refine HB.out.mono ?_);rintro e w1 ⟨A2,c2,rfl,ho1,hb1⟩;have HO:=yH ho1;have B1:=yH hb1;clear ho1 hb1)
  |fail)
 clear HB
 go_loopw [8] (fun i wr=> ∃(j:Nat) (l2:List Int),j≤k∧i= .int .i64 (j:Int)∧Hid (l2.length=n)∧Hid (Own8.Own wr w.heap.size A2 n c2 l2)∧Hid (Below w.heap.size w wr)) (fun i _=>k-natOf i)
 case atStart=>exact⟨0,l,Nat.zero_le _,rfl,yH hL,HO,B1⟩
 case round=>
  obtain⟨j,l2,hj,rfl,HL2,HO2,HB2⟩:=hrel
  clear HO B1
  by_cases hlt:j<k
  ·have d1:decide ((j:Int)<(k:Int))=true:=by simp;omega
   by_cases h0:0<n
   ·have d2:decide ((n:Int)>0)=true:=by simp;omega
    have hIj:=(HI.out.below HB2.out) j hlt
    obtain⟨bI,oI,rfl,hbI,hcI,_⟩:=hIj
    obtain⟨q,hqn,hqb⟩:=below_nat (f j) (n:Int) (by omega)
    have HNum:=yH fun(W:World)=>number_nat (f j) (n:Int) q W (by omega) (by omega) hqn.out
    clear hqn
    have hq:q<n:=by omega
    generalize f j=fj at*
    obtain⟨g,rfl⟩: ∃g,A2=some ⟨g,0,none⟩:=by
     rcases HO2.out.2.2.2.2 with⟨h1,h2⟩|⟨g,cap,cur,h1,h2,h3,h4⟩
     ·injection h1 with e1 e2 e3;omega
     ·injection h1 with e1 e2 e3;exact⟨g,e1⟩
    have cq:=own_cell HO2.out q hq
    have fq:=own_fz HO2.out q hq
    have hx:0≤l2.getD q 0∧l2.getD q 0<256:=by
     rw[List.getD_eq_getElem?_getD,List.getElem?_eq_getElem (by rw[HL2.out];exact hq)]
     exact HO2.out.1 _ (List.getElem_mem _)
    have hxy:=xor8 hx hy
    have HS:=yH (own_set HO2.out q hxy.1 hxy.2)
    have hlt9:=(HO2.out.lt g rfl).1
    have HBs:=yH (HB2.out.setCell (p:=⟨g,q,none⟩) hlt9 (.int .u8 (bits .xor .u8 (l2.getD q 0) y)))
    have hwj:IntKind.i64.wrap ((j:Int)+1)=((j+1:Nat):Int):=by rw[IntKind.wrap_i64];omega
    have hj0:(0:Int)≤(j:Int):=by omega
    have hjk:(j:Int)<(k:Int):=by omega
    have hq0:(0:Int)≤(q:Int):=by omega
    have hqn:(q:Int)<(n:Int):=by omega
    clear hx hxy
    generalize l2.getD q 0=x2 at*
    go_wp2_with(first
     |(go_at_call 20;(refine(HNum.out _).mono ?_);rintro e w3 ⟨rfl,rfl⟩)
     |fail)
    go_roundw
    case rel=>exact⟨j+1,l2.set q (bits .xor .u8 x2 y),by omega,rfl,yH (by rw[List.length_set];exact HL2.out),HS,HBs⟩
    case measure=>simp[natOf];omega
   ·have d2:decide ((n:Int)>0)=false:=by simp;omega
    go_wp2
    go_ret
    exact⟨A2,c2,l2,rfl,HL2.out,HO2.out,HB2.out⟩
  ·have d1:decide ((j:Int)<(k:Int))=false:=by simp;omega
   go_wp2
   go_ret
   exact⟨A2,c2,l2,rfl,HL2.out,HO2.out,HB2.out⟩
end Vg
end Go.Proofs.YtiddkgcafpaekaaGreat
