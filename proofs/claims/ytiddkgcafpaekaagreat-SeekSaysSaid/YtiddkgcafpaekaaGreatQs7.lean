/-
  Texts beneath the proof.
-/
import Derived.Test.YtiddkgcafpaekaaGreatQs6
set_option linter.unusedVariables false
set_option linter.unusedSimpArgs false
set_option maxRecDepth 100000
set_option maxHeartbeats 4000000
open Go.ChangeShapes Go.WideShapes Go.ChangeAt Go.RowKit
namespace Go.Proofs.YtiddkgcafpaekaaGreat
namespace Sd
open Bytes8 Blk8 Hm Sa Sm Sc
def QuadAt (w0:World)(g:Nat)(f:Quad)(w:World):Prop:=Blk w g [.int .u64 f.p,.int .u64 f.q,.int .u64 f.r,.int .u64 f.s] 327∧Below w0.heap.size w0 w
theorem quad_step {w0 w:World}{g:Nat}{p q r s:Value}(h:Blk w g [p,q,r,s] 327)(hb:Below w0.heap.size w0 w)(hg:w0.heap.size≤g)(f:Quad):
 QuadAt w0 g f ((((w.setCell ⟨g,0,none⟩ (.int .u64 f.p)).setCell ⟨g,1,none⟩ (.int .u64 f.q)).setCell ⟨g,2,none⟩ (.int .u64 f.r)).setCell ⟨g,3,none⟩ (.int .u64 f.s)):=
 ⟨(((h.set_ 0 _).set_ 1 _).set_ 2 _).set_ 3 _,(((hb.setCell hg _).setCell hg _).setCell hg _).setCell hg _⟩
theorem sipEnd_four (f:Quad)(m:Int)(G:Quad)(hG:quadPlus f m=G):sipEnd f m=bits .xor .u64 (bits .xor .u64 (bits .xor .u64 (rounds ⟨G.p,G.q,bits .xor .u64 G.r 255,G.s⟩ 4).p (rounds ⟨G.p,G.q,bits .xor .u64 G.r 255,G.s⟩ 4).q) (rounds ⟨G.p,G.q,bits .xor .u64 G.r 255,G.s⟩ 4).r) (rounds ⟨G.p,G.q,bits .xor .u64 G.r 255,G.s⟩ 4).s:=by subst hG;rfl
theorem six_of {w:World}{g:Nat}{a b c d e f:Value}{T:TypeId}(h:Blk w g [a,b,c,d,e,f] T):
 w.cell? ⟨g,0,none⟩=some a∧w.cell? ⟨g,1,none⟩=some b∧w.cell? ⟨g,2,none⟩=some c∧w.cell? ⟨g,3,none⟩=some d∧w.cell? ⟨g,4,none⟩=some e∧w.cell? ⟨g,5,none⟩=some f:=
 ⟨h.cell (i:=0) rfl,h.cell (i:=1) rfl,h.cell (i:=2) rfl,h.cell (i:=3) rfl,h.cell (i:=4) rfl,h.cell (i:=5) rfl⟩
theorem four_far {w:World}{g b:Nat}{vs:List Value}{T:TypeId}(h:Blk w g vs T)(hg:g≠b)(p q r s:Value):
 Blk ((((w.setCell ⟨b,0,none⟩ p).setCell ⟨b,1,none⟩ q).setCell ⟨b,2,none⟩ r).setCell ⟨b,3,none⟩ s) g vs T:=
 (((h.far (p:=⟨b,0,none⟩) hg _).far (p:=⟨b,1,none⟩) hg _).far (p:=⟨b,2,none⟩) hg _).far (p:=⟨b,3,none⟩) hg _
theorem zero_blk {w w3:World}(hb3:Below (World.drew (World.alloc w (.cells #[.int .u64 0,.int .u64 0,.int .u64 0,.int .u64 0] 327))).heap.size (World.drew (World.alloc w (.cells #[.int .u64 0,.int .u64 0,.int .u64 0,.int .u64 0] 327))) w3):Blk w3 w.heap.size [.int .u64 0,.int .u64 0,.int .u64 0,.int .u64 0] 327:=(Blk.new_at w _ _ _ rfl).drew.below hb3 (by simp)
theorem zero_below {w w3:World}(hb3:Below (World.drew (World.alloc w (.cells #[.int .u64 0,.int .u64 0,.int .u64 0,.int .u64 0] 327))).heap.size (World.drew (World.alloc w (.cells #[.int .u64 0,.int .u64 0,.int .u64 0,.int .u64 0] 327))) w3):Below w.heap.size w w3:=((Below.refl _ _).alloc (yR _) _).drew.trans (hb3.mono (by simp))
theorem zero_cell {w w3:World}(hb3:Below (World.drew (World.alloc w (.cells #[.int .u64 0,.int .u64 0,.int .u64 0,.int .u64 0] 327))).heap.size (World.drew (World.alloc w (.cells #[.int .u64 0,.int .u64 0,.int .u64 0,.int .u64 0] 327))) w3)(i:Nat)(hi:i<4):w3.cell? ⟨w.heap.size,i,none⟩=some (.int .u64 0):=by
 have hB:Blk w3 w.heap.size [.int .u64 0,.int .u64 0,.int .u64 0,.int .u64 0] 327:=(Blk.new_at w _ _ _ rfl).drew.below hb3 (by simp)
 match i,hi with
 |0,_=>exact hB.cell rfl
 |1,_=>exact hB.cell rfl
 |2,_=>exact hB.cell rfl
 |3,_=>exact hB.cell rfl
theorem zero_frozen {w w3:World}(hb3:Below (World.drew (World.alloc w (.cells #[.int .u64 0,.int .u64 0,.int .u64 0,.int .u64 0] 327))).heap.size (World.drew (World.alloc w (.cells #[.int .u64 0,.int .u64 0,.int .u64 0,.int .u64 0] 327))) w3)(i:Nat):w3.frozen? ⟨w.heap.size,i,none⟩=false:=by
 have hB:Blk w3 w.heap.size [.int .u64 0,.int .u64 0,.int .u64 0,.int .u64 0] 327:=(Blk.new_at w _ _ _ rfl).drew.below hb3 (by simp)
 exact hB.frozen i
set_option maxRecDepth 100000 in
theorem value_any (K:Nat→Int)(g:Nat)(l:List Int)(w:World)(hs:SumAt w g (idL K) l):
 Calls Tryz.prog 173 #[.pointer (some ⟨g,0,none⟩)] w fun e w'=>e= .returned (.int .u64 (sipS (idL K) l))∧Below w.heap.size w w':=by
 obtain⟨hA,hB⟩:=hs
 obtain⟨z,hz⟩: ∃z,(l.length:Int)%256=z:=⟨_,rfl⟩
 obtain⟨M,hM⟩: ∃M,last8 l=M:=⟨_,rfl⟩
 obtain⟨G,hG⟩: ∃G,quadPlus (quadAt (idL K) l (l.length/8)) M=G:=⟨_,rfl⟩
 have hE:=sipEnd_four _ _ _ hG
 have hS:sipS (idL K) l=sipEnd (quadAt (idL K) l (l.length/8)) M:=by unfold sipS;rw[hM]
 have HE:=yH (hS.trans hE)
 rw[last8_left,hz]at hM
 rw[hz]at hB
 have z0:0≤z:=by omega
 have z1:z≤255:=by omega
 have hM2:bits .or .u64 (left8 l) (IntKind.u64.wrap (z*72057594037927936))=M:=by rw[IntKind.wrap_u64,show z*72057594037927936%18446744073709551616=z*72057594037927936 by omega];exact hM
 have hwz:IntKind.u64.wrap z=z:=by rw[IntKind.wrap_u64];omega
 have hp:=fun w=>qplus_q (quadAt (idL K) l (l.length/8)) M w (quadAt_ok _ _ _)
 rw[hG]at hp
 have HP:=yH hp
 clear hp
 have HO:Hid G.ok:=by rw[←hG];exact yH (quadPlus_ok _ _)
 generalize quadAt (idL K) l (l.length/8)=F at*
 generalize left8 l=L at*
 clear hz hG hE hS hA
 have g0:=hB.cell (i:=0) rfl
 have g1:=hB.cell (i:=1) rfl
 have g2:=hB.cell (i:=2) rfl
 have g3:=hB.cell (i:=3) rfl
 have g4:=hB.cell (i:=4) rfl
 have g5:=hB.cell (i:=5) rfl
 have R:=yH hB
 have hgl:=hB.lt
 have hgne:g≠w.heap.size:=by omega
 clear hB
 go_enter Tryz.func173,Tryz.ntmps173
 go_wp2
 go_cut [3]from 4 to 19 (fun f wx=> ∃gq,f= .pointer (some ⟨gq,0,none⟩)∧w.heap.size≤gq∧Hid (QuadAt w gq G wx))
 case first=>
  go_region_held3 (fun w'=>w'.cell? ⟨g,0,none⟩=some (.int .u64 F.p)∧w'.cell? ⟨g,1,none⟩=some (.int .u64 F.q)∧w'.cell? ⟨g,2,none⟩=some (.int .u64 F.r)∧w'.cell? ⟨g,3,none⟩=some (.int .u64 F.s)∧w'.cell? ⟨g,4,none⟩=some (.int .u64 L)∧w'.cell? ⟨g,5,none⟩=some (.int .u8 z)) (first|(with_reducible exact⟨g0,g1,g2,g3,g4,g5⟩)|(with_reducible exact r3)|(with_reducible exact six_of (four_far R3 hgne _ _ _ _))|(with_reducible exact six_of (R3.alloc _))|go_keep)
   (first|(go_at_call 214;(with_reducible refine(HP.out _).mono ?_);rintro e w3 ⟨rfl,hb3⟩;first|((with_reducible replace hb3:Below (World.drew (World.alloc w (.cells #[.int .u64 0,.int .u64 0,.int .u64 0,.int .u64 0] 327))).heap.size (World.drew (World.alloc w (.cells #[.int .u64 0,.int .u64 0,.int .u64 0,.int .u64 0] 327))) w3:=hb3);have hB3:=zero_below hb3;have R3:=R.out.below hB3 hgl;have hg3:=R3.lt;have r3:=six_of R3;have q0:=zero_cell hb3 0 (by decide);have y0:=zero_frozen hb3 0;have q1:=zero_cell hb3 1 (by decide);have y1:=zero_frozen hb3 1;have q2:=zero_cell hb3 2 (by decide);have y2:=zero_frozen hb3 2;have q3:=zero_cell hb3 3 (by decide);have y3:=zero_frozen hb3 3)|(have hB3:=(Below.refl _ w).drew.trans hb3;have R3:=R.out.below hB3 hgl;have hg3:=R3.lt;have r3:=six_of R3)))
  all_goals
   go_wp2_with fail
   go_meet
   case rel=>
    first
     |exact⟨_,rfl,hB3.size,yH ⟨Blk.new_at w3 _ _ _ rfl,hB3.alloc hB3.size _⟩⟩
     |exact⟨_,rfl,yR _,yH (quad_step (zero_blk hb3) hB3 (yR _) G)⟩
 case rest=>
  obtain⟨gq,rfl,hgq,hq⟩:=hcut
  have Q1:=yH hq.out.1
  have Q2:=yH hq.out.2
  have v0:=Q1.out.cell (i:=2) rfl
  have v1:=Q1.out.frozen 2
  clear hM hM2 hwz g0 g1 g2 g3 g4 g5 hgl hgne hq
  have HRn:=yH fun k=>rounds_ok ⟨G.p,G.q,bits .xor .u64 G.r 255,G.s⟩ ⟨HO.out.1,HO.out.2.1,b64 .xor _ _,HO.out.2.2.2⟩ k
  go_wp2
  clear v0 v1
  have Q3:QuadAt w gq ⟨G.p,G.q,bits .xor .u64 G.r 255,G.s⟩ (wc.setCell ⟨gq,2,none⟩ (.int .u64 (bits .xor .u64 G.r 255))):=⟨Q1.out.set_ 2 _,Q2.out.setCell hgq _⟩
  generalize wc.setCell ⟨gq,2,none⟩ (.int .u64 (bits .xor .u64 G.r 255))=w5 at Q3⊢
  have Q3:=yH Q3
  generalize (⟨G.p,G.q,bits .xor .u64 G.r 255,G.s⟩:Quad)=Y at*
  go_loopw [24] (fun i wr=> ∃k:Nat,k≤4∧i= .int .i64 k∧Hid (QuadAt w gq (rounds Y k) wr)) (fun i _=>4-(intOf i).toNat)
  case atStart=>exact⟨0,by omega,rfl,Q3⟩
  case round=>
   obtain⟨k,hk,rfl,hr⟩:=hrel
   have P1:=yH hr.out.1
   have P2:=yH hr.out.2
   have g0:=P1.out.cell (i:=0) rfl
   have g1:=P1.out.cell (i:=1) rfl
   have g2:=P1.out.cell (i:=2) rfl
   have g3:=P1.out.cell (i:=3) rfl
   have hz:=P1.out.lt
   by_cases hlt:k<4
   ·have hd:decide (k<4)=true:=by simpa using hlt
    have HR:=yH fun W=>round_q (rounds Y k) W (HRn.out k)
    have HN:rounds Y (k+1)=round (rounds Y k):=rfl
    have HN:=yH HN
    go_wp2_with(go_at_call 215;(with_reducible refine(HR.out _).mono ?_);rintro e w6 ⟨rfl,hb6⟩;have R6:=yH (P1.out.below hb6 hz);have a0:=R6.out.cell (i:=0) rfl;have a1:=R6.out.cell (i:=1) rfl;have a2:=R6.out.cell (i:=2) rfl;have a3:=R6.out.cell (i:=3) rfl;have b0:=R6.out.frozen 0;have b1:=R6.out.frozen 1;have b2:=R6.out.frozen 2;have b3:=R6.out.frozen 3)
    go_roundw
    case rel=>exact⟨k+1,by omega,by go_num,yH (quad_step R6.out (P2.out.trans (hb6.mono P2.out.size)) hgq (round (rounds Y k)))⟩
    case measure=>simp[intOf];omega
   ·obtain rfl:k=4:=by omega
    have hd:decide (4<4)=false:=rfl
    go_wp2
    go_ret
    exact⟨ret_int HE.out.symm,P2.out⟩
end Sd
namespace Se
open Bytes8 Blk8 Own8 Hm Sc Sd
theorem new_at (K:Nat→Int)(w:World)(n:Nat)(hn:w.heap.size+1=n)(hk:IdOk K):
 Calls Tryz.prog 171 #[idV K] w fun e w'=>e= .returned (.pointer (some ⟨n,0,none⟩))∧SumAt w' n (idL K) []∧Below w.heap.size w w':=by
 subst hn;exact new_any K w hk
theorem bytes_spot {w:World}{A:Option Addr}{l:List Int}(h:Bytes w A l){B:Nat}(hB:w.heap.size≤B):0<l.length→ ∀b off,A=some ⟨b,off,none⟩→b≠B:=by
 intro hp b off e
 obtain⟨b',off',e',hlt,_⟩:=h.spot hp
 rw[e]at e';simp at e';obtain⟨rfl,rfl⟩:=e';omega
set_option maxRecDepth 100000 in
theorem sip_any (K:Nat→Int)(A:Option Addr)(l:List Int)(len cap:Nat)(w:World)(hk:IdOk K)(hb:Bytes w A l)(hL:l.length=len)(hmax:len≤800000):
 Calls Tryz.prog 135 #[idV K,.slice A len cap] w fun e w'=>e= .returned (.int .u64 (sipS (idL K) l))∧Below w.heap.size w w':=by
 have HNew:=yH (new_at K (w.alloc (idC 37 K)) (w.heap.size+1+1) (by simp) hk)
 have HB:=yH hb
 have HL:=yH hL
 have HSp:=yH (bytes_spot hb (B:=w.heap.size+1+1) (by omega))
 clear hb hL
 go_enter Tryz.func135,Tryz.ntmps135
 go_wp2_with(first|(go_at_call 171;(with_reducible refine HNew.out.mono ?_);rintro e w1 ⟨rfl,hs1,hb1⟩;have HS1:=yH hs1;clear hs1;have k1:=((Below.refl w.heap.size w).alloc (yR _) (idC 37 K)).trans (hb1.mono (by simp));have HAdd:=yH (add_any K _ A [] l len cap w1 HS1.out (HB.out.below k1 (yR _)) HL.out (by omega) (by rw[←HL.out];exact HSp.out)))|(go_at_call 172;(with_reducible refine HAdd.out.mono ?_);rintro e w2 ⟨rfl,hs2,hg2⟩;rw[List.nil_append]at hs2;have HV:=yH (value_any K _ l w2 hs2);clear hs2)|(go_at_call 173;(with_reducible refine HV.out.mono ?_);rintro e w3 ⟨rfl,hb3⟩))
 go_ret
 have k2:=k1.grown hg2 k1.size (fun k h=>by injection h with h;omega)
 exact⟨rfl,k2.trans (hb3.mono k2.size)⟩
end Se
namespace Sf
end Sf
namespace Sg
open Bytes8 Blk8 Own8 Se
theorem of_any (t:Bool)(K:Nat→Int)(A:Option Addr)(l:List Int)(len cap:Nat)(w:World)(hk:IdOk K)(hb:Bytes w A l)(hL:l.length=len)(hmax:len≤800000)(hcap:len≤cap)(hcap2:cap≤maxLen):
 Calls Tryz.prog 73 #[.bool t,idV K,.slice A len cap] w fun e w'=>e= .returned (.int .u64 (ofS t (idL K) l))∧Below w.heap.size w w':=by
 have HB:=yH hb
 cases t with
 |true=>
  have HC:=yH (sip_any K A l len cap (w.alloc (idC 37 K)) hk (hb.below ((Below.refl _ _).alloc (yR _) _) (yR _)) hL hmax)
  clear hb
  go_enter Tryz.func73,Tryz.ntmps73
  go_wp2_with(go_at_call 135;(with_reducible refine HC.out.mono ?_);rintro e w1 ⟨rfl,hb1⟩)
  go_ret
  exact⟨rfl,((Below.refl w.heap.size w).alloc (yR _) _).trans (hb1.mono (by simp))⟩
 |false=>
  have HC:=yH (look_all A l len cap (w.alloc (idC 37 K)) (hb.below ((Below.refl _ _).alloc (yR _) _) (yR _)) hL hmax hcap hcap2)
  clear hb hcap2
  go_enter Tryz.func73,Tryz.ntmps73
  go_wp2_with(go_at_call 136;(with_reducible refine HC.out.mono ?_);rintro e w1 ⟨rfl,hb1⟩)
  go_ret
  exact⟨rfl,((Below.refl w.heap.size w).alloc (yR _) _).trans (hb1.mono (by simp))⟩
end Sg
end Go.Proofs.YtiddkgcafpaekaaGreat
