/-
  Texts beneath the proof.
-/
import Derived.Test.YtiddkgcafpaekaaGreatJq10
set_option linter.unusedVariables false
set_option linter.unusedSimpArgs false
set_option maxRecDepth 100000
set_option maxHeartbeats 8000000
open Go.ChangeShapes Go.WideShapes Go.ChangeAt Go.RowKit
namespace Go.Proofs.YtiddkgcafpaekaaGreat
namespace Gq
open Bytes8 Blk8 Own8 OwnE LeA RefA Ob Oc Ga Gb Gi Gj Gp
def stR (p v:Value):Sem Unit:=Instr.storeAt 119 p v
theorem st_fold (p v:Value):Instr.storeAt 119 p v=stR p v:=rfl
def bldR (parts:Array (Nat×Value)):Sem Value:=Instr.build 119 parts
theorem bld_fold (parts:Array (Nat×Value)):Instr.build 119 parts=bldR parts:=rfl
theorem rcells_info (h:HD):(Tryz.prog.info? 119).map (·.size)=some (h.cells 20).toArray.size:=by rw[rheadInfo];simp[HD.len]
theorem rcells_len (h:HD):(Tryz.prog.info? 119).map (·.size)=some (h.cells 20).length:=by rw[rheadInfo];simp[HD.len]
theorem rzeros_size {h:HD}:Tryz.zeroCells119.size=(h.cells 20).toArray.size:=by rw[show Tryz.zeroCells119.size=90 by kernel_rfl];simp[HD.len]
theorem store_head (w:World)(g:Nat)(old cs:Array Value)(h:w.heap[g]? =some (.cells old 119 (0,0)))(ho:old.size=cs.size)(hi:(Tryz.prog.info? 119).map (·.size)=some cs.size)(h1:cs.all (·.oneCell')=true):
 (stR (.pointer (some ⟨g,0,none⟩)) (.agg cs)).run Tryz.prog w= .ok () (w.setRow g cs):=by
 unfold stR
 simp only[Instr.storeAt,Instr.sureAddr,Sem.run_bind,Sem.run_pure,Result.andThen_ok]
 exact run_storeVar_row w g 119 119 old cs h hi ho h1
theorem rhd_built (h:HD)(st:Int):Tryz.prog.built 119 [(2,.int .i64 st),(3,.agg (idc h 0).toArray),(4,.agg (idc h 1).toArray),(5,.agg (idc h 2).toArray),(6,.agg (idc h 3).toArray)]=some ((⟨0,0,st,h.I,fun _=>0,0,0,0⟩:HD).cells 20).toArray:=by kernel_rfl
theorem build_head (w:World)(h:HD)(st:Int):(bldR #[(2,.int .i64 st),(3,.agg (idc h 0).toArray),(4,.agg (idc h 1).toArray),(5,.agg (idc h 2).toArray),(6,.agg (idc h 3).toArray)]).run Tryz.prog w= .ok (.agg ((⟨0,0,st,h.I,fun _=>0,0,0,0⟩:HD).cells 20).toArray) w:=by
 unfold bldR
 exact run_build w _ _ _ (rhd_built h st)
theorem lt_of_heap {w:World}{g:Nat}{o:Obj}(h:w.heap[g]? =some o):g<w.heap.size:=(Array.getElem?_eq_some_iff.1 h).1
attribute [local irreducible] HD.cells idc wpList Code.wp
attribute [local go_sem ↓] st_fold bld_fold
def Raw1 (bb off:Nat)(s16:Int)(cs:List Value)(w1 W:World)(g:Nat):Prop:=Blk (W.setRow g cs.toArray) g cs 119∧Below w1.heap.size w1 (W.setRow g cs.toArray)∧(W.setRow g cs.toArray).cell? ⟨bb,off+16,none⟩=some (.int .u8 s16)
theorem raw_any (A:Option Addr)(l:List Int)(n c:Nat)(w:World)(hb:Bytes w A l)(hL:l.length=n)(h272:272≤n)(hn:n≤1000000):
 Calls Tryz.prog 165 #[.slice A n c] w fun e w'=>e= .returned (.tuple #[.agg ((hdOf l).cells 20).toArray,.int .u64 (Ob.u8 l 248)])∧Below w.heap.size w w':=by
 have HI24:=yH fun(W:World) (hW:Bytes W A l)=>show Calls Tryz.prog 213 #[.slice A n c,.int .i64 24] W fun e w'=>e= .returned (.agg (idc (hdOf l) 0).toArray)∧Below W.heap.size W w' by
  rw[←id16_idc l 0]
  exact rid_any A l n c 24 W hW hL hn (by omega)
 have HI40:=yH fun(W:World) (hW:Bytes W A l)=>show Calls Tryz.prog 213 #[.slice A n c,.int .i64 40] W fun e w'=>e= .returned (.agg (idc (hdOf l) 1).toArray)∧Below W.heap.size W w' by
  rw[←id16_idc l 1]
  exact rid_any A l n c 40 W hW hL hn (by omega)
 have HI56:=yH fun(W:World) (hW:Bytes W A l)=>show Calls Tryz.prog 213 #[.slice A n c,.int .i64 56] W fun e w'=>e= .returned (.agg (idc (hdOf l) 2).toArray)∧Below W.heap.size W w' by
  rw[←id16_idc l 2]
  exact rid_any A l n c 56 W hW hL hn (by omega)
 have HI72:=yH fun(W:World) (hW:Bytes W A l)=>show Calls Tryz.prog 213 #[.slice A n c,.int .i64 72] W fun e w'=>e= .returned (.agg (idc (hdOf l) 3).toArray)∧Below W.heap.size W w' by
  rw[←id16_idc l 3]
  exact rid_any A l n c 72 W hW hL hn (by omega)
 have U16:=hb.1.at_ 16
 have K16:IntKind.i64.wrap (l.getD 16 0)=l.getD 16 0:=by rw[IntKind.wrap_i64];omega
 obtain⟨bb,off,rfl,hblt,hcell⟩:=hb.spot (by omega)
 have HB:=yH hb
 have HCell:=yH (hcell 16 (by omega))
 have HLt:=yH hblt
 clear hcell hblt
 go_enter Tryz.func165,Tryz.ntmps165
 go_upto_region 1 with fail
 have b1:=yH ((Below.refl w.heap.size w).alloc (yR _) (.cells Tryz.zeroCells119 119))
 have Z1:=yH (heap_alloc_new w (.cells Tryz.zeroCells119 119))
 have s1:=yH (show(w.alloc (.cells Tryz.zeroCells119 119)).heap.size=w.heap.size+1 by simp)
 generalize w.alloc (.cells Tryz.zeroCells119 119)=w1 at*
 have hst16:(hdOf l).st=l.getD 16 0:=rfl
 generalize l.getD 16 0=s16 at*
 have HS16:=yH hst16
 clear hst16 U16
 have hlt1:=yH (yL HLt.out b1.out.size)
 have HQ:=yH fun(W:World) (hW:Below w1.heap.size w1 W)=>show W.cell? ⟨bb,off+16,none⟩=some (.int .u8 s16)from(hW.cell (p:=⟨bb,off+16,none⟩) hlt1.out).trans ((b1.out.cell (p:=⟨bb,off+16,none⟩) HLt.out).trans HCell.out)
 have HSt:=yH fun(W:World) (g:Nat) (hg:w1.heap.size≤g) (hZ:W.heap[g]? =some (.cells Tryz.zeroCells119 119 (0,0)))=>store_head W g _ ((⟨0,0,s16,(hdOf l).I,fun _=>0,0,0,0⟩:HD).cells 20).toArray hZ rzeros_size (rcells_info _) (HD.one _ 20)
 have HQ2:=yH fun(W:World) (g:Nat) (hg:w1.heap.size≤g) (hW:Below w1.heap.size w1 W) (hZ:W.heap[g]? =some (.cells Tryz.zeroCells119 119 (0,0)))=>show Raw1 bb off s16 ((⟨0,0,s16,(hdOf l).I,fun _=>0,0,0,0⟩:HD).cells 20) w1 W g from⟨setRow_heap _ _ _ _ _ (0,0) hZ,below_setRow hW hg _,HQ.out _ (below_setRow hW hg _)⟩
 have hbld:=fun W:World=>build_head W (hdOf l) s16
 have d16:(16:Int)<(n:Int):=by omega
 have P0n:=yH (show Bytes w1.drew (some ⟨bb,off,none⟩) l from(HB.out.below b1.out (yR _)).drew)
 have K0n:=yH (show Below w1.heap.size w1 w1.drew from(Below.refl w1.heap.size w1).drew)
 have K0a:=yH (show Below w1.heap.size w1 (w1.alloc (.cells Tryz.zeroCells119 119)).drew from((Below.refl w1.heap.size w1).alloc (yR _) _).drew)
 have P0a:=yH (show Bytes (w1.alloc (.cells Tryz.zeroCells119 119)).drew (some ⟨bb,off,none⟩) l from(HB.out.below b1.out (yR _)).below K0a.out (yR _))
 have Z0a:=yH (show(w1.alloc (.cells Tryz.zeroCells119 119)).drew.heap[w1.heap.size]? =some (.cells Tryz.zeroCells119 119 (0,0))from heap_alloc_new w1 _)
 have q0n:=HQ.out _ K0n.out
 have q0a:=HQ.out _ K0a.out
 have y0a:=HSt.out _ w1.heap.size (yR _) Z0a.out
 have Y0a:=yH (HQ2.out _ w1.heap.size (yR _) K0a.out Z0a.out)
 have r0a:=Y0a.out.2.2
 go_cut [4]from 14 to 27 (fun z wx=> ∃g,z= .pointer (some ⟨g,0,none⟩)∧Blk wx g ((⟨0,0,s16,(hdOf l).I,fun _=>0,0,0,0⟩:HD).cells 20) 119∧Below w1.heap.size w1 wx∧Hid (w1.heap.size≤g))
 case first=>
  go_region_held3 (fun W=>W.cell? ⟨bb,off+16,none⟩=some (.int .u8 s16)) (first|(with_reducible exact q0n)|(with_reducible exact q0a)|(with_reducible exact r0a)|(with_reducible exact q1n)|(with_reducible exact q1nA)|(with_reducible exact r1nA)|(with_reducible exact q1a0)|(with_reducible exact r1a0)|(with_reducible exact q2n)|(with_reducible exact q2nA)|(with_reducible exact r2nA)|(with_reducible exact q2a1)|(with_reducible exact r2a1)|(with_reducible exact q2a0)|(with_reducible exact r2a0)|(with_reducible exact q3n)|(with_reducible exact q3nA)|(with_reducible exact r3nA)|(with_reducible exact q3a2)|(with_reducible exact r3a2)|(with_reducible exact q3a0)|(with_reducible exact r3a0)|(with_reducible exact q3a1)|(with_reducible exact r3a1)|(with_reducible exact q4n)|(with_reducible exact q4nA)|(with_reducible exact r4nA)|(with_reducible exact q4a3)|(with_reducible exact r4a3)|(with_reducible exact q4a0)|(with_reducible exact r4a0)|(with_reducible exact q4a1)|(with_reducible exact r4a1)|(with_reducible exact q4a2)|(with_reducible exact r4a2)|go_keep) (first
   |(go_simp;go_at_call 213;(with_reducible refine(HI24.out _ P0n.out).mono ?_);rintro e n1 ⟨rfl,hb1n⟩;have K1n:=yH (K0n.out.trans (hb1n.mono K0n.out.size));have P1n:=yH ((HB.out.below b1.out (yR _)).below K1n.out (yR _));have q1n:=HQ.out _ K1n.out;have K1nA:=yH (show Below w1.heap.size w1 (n1.alloc (.cells Tryz.zeroCells119 119))from K1n.out.alloc K1n.out.size _);have P1nA:=yH ((HB.out.below b1.out (yR _)).below K1nA.out (yR _));have q1nA:=HQ.out _ K1nA.out;have Z1nA:=yH (show(n1.alloc (.cells Tryz.zeroCells119 119)).heap[n1.heap.size]? =some (.cells Tryz.zeroCells119 119 (0,0))from heap_alloc_new n1 _);have y1nA:=HSt.out _ _ K1n.out.size Z1nA.out;have Y1nA:=yH (HQ2.out _ _ K1n.out.size K1nA.out Z1nA.out);have r1nA:=Y1nA.out.2.2;clear hb1n)
   |(go_simp;go_at_call 213;(with_reducible refine(HI24.out _ P0a.out).mono ?_);rintro e a1_0 ⟨rfl,hb1a0⟩;have K1a0:=yH (K0a.out.trans (hb1a0.mono K0a.out.size));have P1a0:=yH ((HB.out.below b1.out (yR _)).below K1a0.out (yR _));have q1a0:=HQ.out _ K1a0.out;have Z1a0:=yH ((hb1a0.block _ (lt_of_heap Z0a.out)).trans Z0a.out);have y1a0:=HSt.out _ _ (yR _) Z1a0.out;have Y1a0:=yH (HQ2.out _ _ (yR _) K1a0.out Z1a0.out);have r1a0:=Y1a0.out.2.2;clear hb1a0)
   |(go_simp;go_at_call 213;(with_reducible refine(HI40.out _ P1n.out).mono ?_);rintro e n2 ⟨rfl,hb2n⟩;have K2n:=yH (K1n.out.trans (hb2n.mono K1n.out.size));have P2n:=yH ((HB.out.below b1.out (yR _)).below K2n.out (yR _));have q2n:=HQ.out _ K2n.out;have K2nA:=yH (show Below w1.heap.size w1 (n2.alloc (.cells Tryz.zeroCells119 119))from K2n.out.alloc K2n.out.size _);have P2nA:=yH ((HB.out.below b1.out (yR _)).below K2nA.out (yR _));have q2nA:=HQ.out _ K2nA.out;have Z2nA:=yH (show(n2.alloc (.cells Tryz.zeroCells119 119)).heap[n2.heap.size]? =some (.cells Tryz.zeroCells119 119 (0,0))from heap_alloc_new n2 _);have y2nA:=HSt.out _ _ K2n.out.size Z2nA.out;have Y2nA:=yH (HQ2.out _ _ K2n.out.size K2nA.out Z2nA.out);have r2nA:=Y2nA.out.2.2;clear hb2n)
   |(go_simp;go_at_call 213;(with_reducible refine(HI40.out _ P1nA.out).mono ?_);rintro e a2_1 ⟨rfl,hb2a1⟩;have K2a1:=yH (K1nA.out.trans (hb2a1.mono K1nA.out.size));have P2a1:=yH ((HB.out.below b1.out (yR _)).below K2a1.out (yR _));have q2a1:=HQ.out _ K2a1.out;have Z2a1:=yH ((hb2a1.block _ (lt_of_heap Z1nA.out)).trans Z1nA.out);have y2a1:=HSt.out _ _ (K1n.out.size) Z2a1.out;have Y2a1:=yH (HQ2.out _ _ (K1n.out.size) K2a1.out Z2a1.out);have r2a1:=Y2a1.out.2.2;clear hb2a1)
   |(go_simp;go_at_call 213;(with_reducible refine(HI40.out _ P1a0.out).mono ?_);rintro e a2_0 ⟨rfl,hb2a0⟩;have K2a0:=yH (K1a0.out.trans (hb2a0.mono K1a0.out.size));have P2a0:=yH ((HB.out.below b1.out (yR _)).below K2a0.out (yR _));have q2a0:=HQ.out _ K2a0.out;have Z2a0:=yH ((hb2a0.block _ (lt_of_heap Z1a0.out)).trans Z1a0.out);have y2a0:=HSt.out _ _ (yR _) Z2a0.out;have Y2a0:=yH (HQ2.out _ _ (yR _) K2a0.out Z2a0.out);have r2a0:=Y2a0.out.2.2;clear hb2a0)
   |(go_simp;go_at_call 213;(with_reducible refine(HI56.out _ P2n.out).mono ?_);rintro e n3 ⟨rfl,hb3n⟩;have K3n:=yH (K2n.out.trans (hb3n.mono K2n.out.size));have P3n:=yH ((HB.out.below b1.out (yR _)).below K3n.out (yR _));have q3n:=HQ.out _ K3n.out;have K3nA:=yH (show Below w1.heap.size w1 (n3.alloc (.cells Tryz.zeroCells119 119))from K3n.out.alloc K3n.out.size _);have P3nA:=yH ((HB.out.below b1.out (yR _)).below K3nA.out (yR _));have q3nA:=HQ.out _ K3nA.out;have Z3nA:=yH (show(n3.alloc (.cells Tryz.zeroCells119 119)).heap[n3.heap.size]? =some (.cells Tryz.zeroCells119 119 (0,0))from heap_alloc_new n3 _);have y3nA:=HSt.out _ _ K3n.out.size Z3nA.out;have Y3nA:=yH (HQ2.out _ _ K3n.out.size K3nA.out Z3nA.out);have r3nA:=Y3nA.out.2.2;clear hb3n)
   |(go_simp;go_at_call 213;(with_reducible refine(HI56.out _ P2nA.out).mono ?_);rintro e a3_2 ⟨rfl,hb3a2⟩;have K3a2:=yH (K2nA.out.trans (hb3a2.mono K2nA.out.size));have P3a2:=yH ((HB.out.below b1.out (yR _)).below K3a2.out (yR _));have q3a2:=HQ.out _ K3a2.out;have Z3a2:=yH ((hb3a2.block _ (lt_of_heap Z2nA.out)).trans Z2nA.out);have y3a2:=HSt.out _ _ (K2n.out.size) Z3a2.out;have Y3a2:=yH (HQ2.out _ _ (K2n.out.size) K3a2.out Z3a2.out);have r3a2:=Y3a2.out.2.2;clear hb3a2)
   |(go_simp;go_at_call 213;(with_reducible refine(HI56.out _ P2a0.out).mono ?_);rintro e a3_0 ⟨rfl,hb3a0⟩;have K3a0:=yH (K2a0.out.trans (hb3a0.mono K2a0.out.size));have P3a0:=yH ((HB.out.below b1.out (yR _)).below K3a0.out (yR _));have q3a0:=HQ.out _ K3a0.out;have Z3a0:=yH ((hb3a0.block _ (lt_of_heap Z2a0.out)).trans Z2a0.out);have y3a0:=HSt.out _ _ (yR _) Z3a0.out;have Y3a0:=yH (HQ2.out _ _ (yR _) K3a0.out Z3a0.out);have r3a0:=Y3a0.out.2.2;clear hb3a0)
   |(go_simp;go_at_call 213;(with_reducible refine(HI56.out _ P2a1.out).mono ?_);rintro e a3_1 ⟨rfl,hb3a1⟩;have K3a1:=yH (K2a1.out.trans (hb3a1.mono K2a1.out.size));have P3a1:=yH ((HB.out.below b1.out (yR _)).below K3a1.out (yR _));have q3a1:=HQ.out _ K3a1.out;have Z3a1:=yH ((hb3a1.block _ (lt_of_heap Z2a1.out)).trans Z2a1.out);have y3a1:=HSt.out _ _ (K1n.out.size) Z3a1.out;have Y3a1:=yH (HQ2.out _ _ (K1n.out.size) K3a1.out Z3a1.out);have r3a1:=Y3a1.out.2.2;clear hb3a1)
   |(go_simp;go_at_call 213;(with_reducible refine(HI72.out _ P3n.out).mono ?_);rintro e n4 ⟨rfl,hb4n⟩;have K4n:=yH (K3n.out.trans (hb4n.mono K3n.out.size));have P4n:=yH ((HB.out.below b1.out (yR _)).below K4n.out (yR _));have q4n:=HQ.out _ K4n.out;have K4nA:=yH (show Below w1.heap.size w1 (n4.alloc (.cells Tryz.zeroCells119 119))from K4n.out.alloc K4n.out.size _);have P4nA:=yH ((HB.out.below b1.out (yR _)).below K4nA.out (yR _));have q4nA:=HQ.out _ K4nA.out;have Z4nA:=yH (show(n4.alloc (.cells Tryz.zeroCells119 119)).heap[n4.heap.size]? =some (.cells Tryz.zeroCells119 119 (0,0))from heap_alloc_new n4 _);have y4nA:=HSt.out _ _ K4n.out.size Z4nA.out;have Y4nA:=yH (HQ2.out _ _ K4n.out.size K4nA.out Z4nA.out);have r4nA:=Y4nA.out.2.2;clear hb4n)
   |(go_simp;go_at_call 213;(with_reducible refine(HI72.out _ P3nA.out).mono ?_);rintro e a4_3 ⟨rfl,hb4a3⟩;have K4a3:=yH (K3nA.out.trans (hb4a3.mono K3nA.out.size));have P4a3:=yH ((HB.out.below b1.out (yR _)).below K4a3.out (yR _));have q4a3:=HQ.out _ K4a3.out;have Z4a3:=yH ((hb4a3.block _ (lt_of_heap Z3nA.out)).trans Z3nA.out);have y4a3:=HSt.out _ _ (K3n.out.size) Z4a3.out;have Y4a3:=yH (HQ2.out _ _ (K3n.out.size) K4a3.out Z4a3.out);have r4a3:=Y4a3.out.2.2;clear hb4a3)
   |(go_simp;go_at_call 213;(with_reducible refine(HI72.out _ P3a0.out).mono ?_);rintro e a4_0 ⟨rfl,hb4a0⟩;have K4a0:=yH (K3a0.out.trans (hb4a0.mono K3a0.out.size));have P4a0:=yH ((HB.out.below b1.out (yR _)).below K4a0.out (yR _));have q4a0:=HQ.out _ K4a0.out;have Z4a0:=yH ((hb4a0.block _ (lt_of_heap Z3a0.out)).trans Z3a0.out);have y4a0:=HSt.out _ _ (yR _) Z4a0.out;have Y4a0:=yH (HQ2.out _ _ (yR _) K4a0.out Z4a0.out);have r4a0:=Y4a0.out.2.2;clear hb4a0)
   |(go_simp;go_at_call 213;(with_reducible refine(HI72.out _ P3a1.out).mono ?_);rintro e a4_1 ⟨rfl,hb4a1⟩;have K4a1:=yH (K3a1.out.trans (hb4a1.mono K3a1.out.size));have P4a1:=yH ((HB.out.below b1.out (yR _)).below K4a1.out (yR _));have q4a1:=HQ.out _ K4a1.out;have Z4a1:=yH ((hb4a1.block _ (lt_of_heap Z3a1.out)).trans Z3a1.out);have y4a1:=HSt.out _ _ (K1n.out.size) Z4a1.out;have Y4a1:=yH (HQ2.out _ _ (K1n.out.size) K4a1.out Z4a1.out);have r4a1:=Y4a1.out.2.2;clear hb4a1)
   |(go_simp;go_at_call 213;(with_reducible refine(HI72.out _ P3a2.out).mono ?_);rintro e a4_2 ⟨rfl,hb4a2⟩;have K4a2:=yH (K3a2.out.trans (hb4a2.mono K3a2.out.size));have P4a2:=yH ((HB.out.below b1.out (yR _)).below K4a2.out (yR _));have q4a2:=HQ.out _ K4a2.out;have Z4a2:=yH ((hb4a2.block _ (lt_of_heap Z3a2.out)).trans Z3a2.out);have y4a2:=HSt.out _ _ (K2n.out.size) Z4a2.out;have Y4a2:=yH (HQ2.out _ _ (K2n.out.size) K4a2.out Z4a2.out);have r4a2:=Y4a2.out.2.2;clear hb4a2)
   |fail)
  all_goals
   go_wp2_with fail
   go_meet
   case rel=>first|exact⟨_,rfl,Y4a2.out.1,Y4a2.out.2.1,yH (K2n.out.size)⟩|exact⟨_,rfl,Y4a1.out.1,Y4a1.out.2.1,yH (K1n.out.size)⟩|exact⟨_,rfl,Y4a0.out.1,Y4a0.out.2.1,yH (yR _)⟩|exact⟨_,rfl,Y4a3.out.1,Y4a3.out.2.1,yH (K3n.out.size)⟩|exact⟨_,rfl,Y4nA.out.1,Y4nA.out.2.1,yH (K4n.out.size)⟩|exact⟨_,rfl,Y3a1.out.1,Y3a1.out.2.1,yH (K1n.out.size)⟩|exact⟨_,rfl,Y3a0.out.1,Y3a0.out.2.1,yH (yR _)⟩|exact⟨_,rfl,Y3a2.out.1,Y3a2.out.2.1,yH (K2n.out.size)⟩|exact⟨_,rfl,Y3nA.out.1,Y3nA.out.2.1,yH (K3n.out.size)⟩|exact⟨_,rfl,Y2a0.out.1,Y2a0.out.2.1,yH (yR _)⟩|exact⟨_,rfl,Y2a1.out.1,Y2a1.out.2.1,yH (K1n.out.size)⟩|exact⟨_,rfl,Y2nA.out.1,Y2nA.out.2.1,yH (K2n.out.size)⟩|exact⟨_,rfl,Y1a0.out.1,Y1a0.out.2.1,yH (yR _)⟩|exact⟨_,rfl,Y1nA.out.1,Y1nA.out.2.1,yH (K1n.out.size)⟩|exact⟨_,rfl,Y0a.out.1,Y0a.out.2.1,yH (yR _)⟩
 case rest=>
  obtain⟨g,rfl,hR,hB,hg⟩:=hcut
  have R2:=yH hR
  have B2:=yH hB
  have G4:=yH fun(p:Nat) (hp:p+4≤n) (W:World) (hW:Bytes W (some ⟨bb,off,none⟩) l)=>show Calls Tryz.prog 150 #[.slice (some ⟨bb,off,none⟩) n c,.int .i64 (p:Int),.int .i64 4] W fun e w'=>e= .returned (.tuple #[.int .u64 (u4 l p),.bool true])∧W=w' by
   subst hL
   exact rget_yes _ l c p 4 W (by omega) (by unfold fits isW;simp;omega) hW
  have hBc:=yH ((HB.out.below b1.out (yR _)).below hB (yR _))
  have HB1:=yH (HB.out.below b1.out (yR _))
  clear hR hB HI24 HI40 HI56 HI72 HQ HSt HQ2 hbld K16 P0n K0n K0a P0a Z0a q0n q0a y0a Y0a r0a HCell
  have G8a:=yH (show Calls Tryz.prog 150 #[.slice (some ⟨bb,off,none⟩) n c,.int .i64 8,.int .i64 4] wc _ from G4.out 8 (by omega) wc hBc.out)
  have G12a:=yH (show Calls Tryz.prog 150 #[.slice (some ⟨bb,off,none⟩) n c,.int .i64 12,.int .i64 4] wc _ from G4.out 12 (by omega) wc hBc.out)
  have U8:=u4_bd hb.1 8
  have U12:=u4_bd hb.1 12
  have x0:wc.cell? ⟨g,0,none⟩=some (.int .u32 0):=R2.out.cell (HD.get _ 20 0 (by decide))
  have x1:wc.cell? ⟨g,1,none⟩=some (.int .u32 0):=R2.out.cell (HD.get _ 20 1 (by decide))
  have f0:=R2.out.frozen 0
  have f1:=R2.out.frozen 1
  have HRa:=yH (show((((⟨0,0,s16,(hdOf l).I,fun _=>0,0,0,0⟩:HD).cells 20).set 0 (.int .u32 (u4 l 8))).set 1 (.int .u32 (u4 l 12)))=((⟨u4 l 8,u4 l 12,s16,(hdOf l).I,fun _=>0,0,0,0⟩:HD).cells 20)by
   rw[set_cp _ 20 0 _ rfl,set_ic _ 20 1 _ rfl])
  generalize hc4:u4 l 8=cp at*
  generalize hc12:u4 l 12=ic at*
  have HCp:=yH hc4
  have HIc:=yH hc12
  clear hc4 hc12
  go_upto_region 5 with(first
   |(go_at_call 150;((with_reducible refine G8a.out.mono ?_);rintro e w' ⟨rfl,rfl⟩))
   |(go_at_call 150;((with_reducible refine G12a.out.mono ?_);rintro e w' ⟨rfl,rfl⟩))
   |fail)
  have R5:=yH (show Blk ((wc.setCell ⟨g,0,none⟩ (.int .u32 cp)).setCell ⟨g,1,none⟩ (.int .u32 ic)) g ((⟨cp,ic,s16,(hdOf l).I,fun _=>0,0,0,0⟩:HD).cells 20) 119 by rw[←HRa.out];exact(R2.out.set_ 0 _).set_ 1 _)
  have B5:=yH (show Below w1.heap.size w1 ((wc.setCell ⟨g,0,none⟩ (.int .u32 cp)).setCell ⟨g,1,none⟩ (.int .u32 ic))from(B2.out.setCell hg.out _).setCell hg.out _)
  clear G8a G12a x0 x1 f0 f1 HRa R2 B2 hBc
  generalize (wc.setCell ⟨g,0,none⟩ (.int .u32 cp)).setCell ⟨g,1,none⟩ (.int .u32 ic)=w5 at*
  go_wp2_with fail
  have HS:=yH fun(k:Nat) (hk:k<20)=>show((⟨cp,ic,s16,(hdOf l).I,fun i=>if i<k then Ob.u8 l (88+8*i)else 0,0,0,0⟩:HD).cells 20).set (67+k) (.int .u64 (Ob.u8 l (88+8*k)))=((⟨cp,ic,s16,(hdOf l).I,fun i=>if i<k+1 then Ob.u8 l (88+8*i)else 0,0,0,0⟩:HD).cells 20)from
   cells_set _ _ 20 (67+k) _ (by omega) (by unfold HD.at_;rw[if_neg (by omega),if_neg (by omega),if_pos (by omega),show 67+k-67=k by omega];simp) (fun i hi hne=>by
    unfold HD.at_
    by_cases h3:i<3
    ·rw[if_pos h3,if_pos h3]
    rw[if_neg h3,if_neg h3]
    by_cases h4:i<67
    ·rw[if_pos h4,if_pos h4]
    rw[if_neg h4,if_neg h4]
    by_cases h5:i<67+20
    ·rw[if_pos h5,if_pos h5]
     dsimp only
     by_cases h6:i-67<k
     ·rw[if_pos h6,if_pos (by omega)]
     ·rw[if_neg h6,if_neg (by omega)]
    ·rw[if_neg h5,if_neg h5])
  have HU:=yH fun(k:Nat) (hk:k≤22) (W:World) (hW:Bytes W (some ⟨bb,off,none⟩) l)=>show Calls Tryz.prog 114 #[.slice (some ⟨bb,off,none⟩) n c,.int .u64 (88+8*(k:Int))] W fun e w'=>e= .returned (.int .u64 (Ob.u8 l (88+8*k)))∧W=w' by
   rw[show(88+8*(k:Int))=((88+8*k:Nat):Int)by omega]
   exact ru_any _ l n c (88+8*k) W hW hL hn (by omega)
  go_loopw [9] (fun i wr=> ∃k:Nat,k≤20∧i= .int .i64 (k:Int)∧Hid (Blk wr g ((⟨cp,ic,s16,(hdOf l).I,fun i=>if i<k then Ob.u8 l (88+8*i)else 0,0,0,0⟩:HD).cells 20) 119)∧Hid (Below w1.heap.size w1 wr)) (fun i _=>20-(intOf i).toNat)
  case atStart=>exact⟨0,Nat.zero_le _,rfl,by simpa using R5,B5⟩
  case round=>
   obtain⟨k,hk,rfl,hR,hB⟩:=hrel
   by_cases hlt:k<20
   ·have hst:=yH (HS.out k hlt)
    have HBr:=yH (HB1.out.below hB.out (yR _))
    have HUk:=yH (HU.out k (by omega) wr HBr.out)
    have ck:=HD.nums_at hR.out k hlt
    have fk:=hR.out.frozen (67+k)
    generalize Ob.u8 l (88+8*k)=x at*
    go_wp2_with(go_at_call 114;((with_reducible refine HUk.out.mono ?_);rintro e w' ⟨rfl,rfl⟩))
    go_roundw
    case rel=>exact⟨k+1,by omega,by go_num,yH (by rw[←hst.out];exact hR.out.set_ (67+k) _),yH (hB.out.setCell hg.out _)⟩
    case measure=>simp[intOf];omega
   ·obtain rfl:k=20:=by omega
    rename World=>w6
    have HB6:=yH (HB1.out.below hB.out (yR _))
    have G256:=yH (show Calls Tryz.prog 150 #[.slice (some ⟨bb,off,none⟩) n c,.int .i64 256,.int .i64 4] w6 _ from G4.out 256 (by omega) w6 HB6.out)
    have G260:=yH (show Calls Tryz.prog 150 #[.slice (some ⟨bb,off,none⟩) n c,.int .i64 260,.int .i64 4] w6 _ from G4.out 260 (by omega) w6 HB6.out)
    have U264:=yH (show Calls Tryz.prog 114 #[.slice (some ⟨bb,off,none⟩) n c,.int .u64 264] w6 _ from HU.out 22 (by decide) w6 HB6.out)
    have U256:=u4_bd hb.1 256
    have U260:=u4_bd hb.1 260
    have x87:w6.cell? ⟨g,87,none⟩=some (.int .u32 0):=hR.out.cell (HD.get_ta _ 20)
    have x88:w6.cell? ⟨g,88,none⟩=some (.int .u32 0):=hR.out.cell (HD.get_ti _ 20)
    have x89:w6.cell? ⟨g,89,none⟩=some (.int .u64 0):=hR.out.cell (HD.get_te _ 20)
    have f87:=hR.out.frozen 87
    have f88:=hR.out.frozen 88
    have f89:=hR.out.frozen 89
    have HFin:=yH (show(((((⟨cp,ic,s16,(hdOf l).I,fun i=>if i<20 then Ob.u8 l (88+8*i)else 0,0,0,0⟩:HD).cells 20).set 87 (.int .u32 (u4 l 256))).set 88 (.int .u32 (u4 l 260))).set 89 (.int .u64 (Ob.u8 l (88+8*22))))=(hdOf l).cells 20 by
     rw[set_ta _ 20 87 _ rfl,set_ti _ 20 88 _ rfl,set_te _ 20 89 _ rfl]
     apply at_cong
     intro i hi
     unfold HD.at_
     by_cases h3:i<3
     ·rw[if_pos h3,if_pos h3,←HCp.out,←HIc.out,←HS16.out];rfl
     rw[if_neg h3,if_neg h3]
     by_cases h4:i<67
     ·rw[if_pos h4,if_pos h4]
     rw[if_neg h4,if_neg h4]
     by_cases h5:i<67+20
     ·rw[if_pos h5,if_pos h5]
      show Value.int .u64 (if i-67<20 then _ else 0)=_
      rw[if_pos (by omega)];rfl
     rw[if_neg h5,if_neg h5]
     rfl)
    generalize u4 l 256=ta at*
    generalize u4 l 260=ti at*
    generalize Ob.u8 l (88+8*22)=te at*
    clear R5 B5 HS
    go_upto_region 12 with(first
     |(go_at_call 150;((with_reducible refine G256.out.mono ?_);rintro e w' ⟨rfl,rfl⟩))
     |(go_at_call 150;((with_reducible refine G260.out.mono ?_);rintro e w' ⟨rfl,rfl⟩))
     |(go_at_call 114;((with_reducible refine U264.out.mono ?_);rintro e w' ⟨rfl,rfl⟩))
     |fail)
    have R9:=yH (show Blk (((w6.setCell ⟨g,87,none⟩ (.int .u32 ta)).setCell ⟨g,88,none⟩ (.int .u32 ti)).setCell ⟨g,89,none⟩ (.int .u64 te)) g ((hdOf l).cells 20) 119 by rw[←HFin.out];exact((hR.out.set_ 87 _).set_ 88 _).set_ 89 _)
    have B9:=yH (show Below w1.heap.size w1 (((w6.setCell ⟨g,87,none⟩ (.int .u32 ta)).setCell ⟨g,88,none⟩ (.int .u32 ti)).setCell ⟨g,89,none⟩ (.int .u64 te))from((hB.out.setCell hg.out _).setCell hg.out _).setCell hg.out _)
    clear x87 x88 x89 f87 f88 f89 HFin hR hB G256 G260 U264 HB6
    generalize ((w6.setCell ⟨g,87,none⟩ (.int .u32 ta)).setCell ⟨g,88,none⟩ (.int .u32 ti)).setCell ⟨g,89,none⟩ (.int .u64 te)=w9 at*
    have HB9:=yH (HB1.out.below B9.out (yR _))
    have HUz:=yH (show ∀W:World,Bytes W (some ⟨bb,off,none⟩) l→Calls Tryz.prog 114 #[.slice (some ⟨bb,off,none⟩) n c,.int .u64 248] W fun e w'=>e= .returned (.int .u64 (Ob.u8 l 248))∧W=w' from fun W hW=>HU.out 20 (by decide) W hW)
    have Z9:=yH ((B9.out.block w.heap.size (by rw[s1.out];exact Nat.lt_succ_self _)).trans Z1.out)
    have hsto:=store_head w9.drew w.heap.size _ ((hdOf l).cells 20).toArray Z9.out rzeros_size (rcells_info _) (HD.one _ 20)
    have hne:g≠w.heap.size:=by have:=hg.out;rw[s1.out]at this;omega
    have q9:=(show World.rangeAt w9.drew g 0 ((hdOf l).cells 20)from fun j v hj=>by rw[Nat.zero_add];exact R9.out.cell hj)
    have B10:=yH (show Below w.heap.size w (w9.drew.setRow w.heap.size ((hdOf l).cells 20).toArray)from below_setRow ((b1.out.trans (B9.out.mono (by rw[s1.out];exact Nat.le_succ _))).drew) (yR _) _)
    have q10:=(show World.rangeAt (w9.drew.setRow w.heap.size ((hdOf l).cells 20).toArray) g 0 ((hdOf l).cells 20)from fun j v hj=>by rw[Nat.zero_add,cell_setRow_other _ _ _ _ hne];exact R9.out.cell hj)
    have HBd:=yH (show Bytes w9.drew (some ⟨bb,off,none⟩) l from HB9.out.drew)
    have hbb:bb≠w.heap.size:=Nat.ne_of_lt HLt.out
    have HBe:=yH (show Bytes (w9.drew.setRow w.heap.size ((hdOf l).cells 20).toArray) (some ⟨bb,off,none⟩) l from⟨hb.1,fun i hi=>by
     obtain⟨b3,o3,e3,h3,h4⟩:=HBd.out.2 i hi
     refine⟨b3,o3,e3,by rw[setRow_size];exact h3,?_⟩
     injection e3 with e3
     injection e3 with e3 e4
     subst e3
     rw[cell_setRow_other _ _ _ _ hbb]
     exact h4⟩)
    have R10:=yH (show(w9.drew.setRow w.heap.size ((hdOf l).cells 20).toArray).heap[w.heap.size]? =some (.cells ((hdOf l).cells 20).toArray 119 (0,0))from setRow_heap _ w.heap.size _ _ _ (0,0) Z9.out)
    generalize hdp:Ob.u8 l 248=dp at*
    have HDp:=yH hdp
    clear hdp
    refine wp_region_noPanic ?_
    refine wp_region_held_drew (S:=fun W:World=>W.rangeAt g 0 ((hdOf l).cells 20)) (by kernel_rfl) (by exact q9) (fun hHeld=>?_)
    refine tk (i:=0) (oi:=⟨some 75,_,_,_,_,_⟩) rfl (yieldsIf_load_mid (by rfl) _ _ rfl _ _ rfl _ _ (fun _ h=>h) Tryz.underlying119 rfl (rcells_len _)) ?_
    try simp only[Act.put,sA,sZ,sS]
    refine tk (i:=1) (oi:=⟨some 76,_,_,_,_,_⟩) (v:=?_) rfl (Or.inl ⟨by rfl,?_⟩) ?_
    rotate_left
    ·intro W hSw;go_simp;try (with_reducible rfl)
    try simp only[Act.put,sA,sZ,sS]
    refine wpAnyH_ready (rs:=[2]) (by kernel_rfl) (by simp) ?_
    refine AllReadyH.cons (o:=⟨some 77,_,_,_,_,_⟩) rfl (fun K hK=>?_) AllReadyH.nil
    go_simp
    ((with_reducible refine(HUz.out _ HBd.out).mono ?_);rintro e w' ⟨rfl,rfl⟩)
    try go_wp2_with fail
    refine hK.out _ _ (by exact q9) (fun hHeld=>?_)
    clear hK K
    try simp only[Act.put,sA,sZ,sS]
    refine wpAnyH_ready (rs:=[3]) (by kernel_rfl) (by simp) ?_
    refine AllReadyH.cons (o:=⟨none,_,_,_,_,_⟩) rfl (fun K hK=>?_) AllReadyH.nil
    go_simp
    skip
    try go_wp2_with fail
    refine hK.out _ _ (by exact q10) (fun hHeld=>?_)
    clear hK K
    try simp only[Act.put,sA,sZ,sS]
    refine tk (i:=4) (oi:=⟨some 3,_,_,_,_,_⟩) (v:=?_) rfl (Or.inl ⟨by rfl,?_⟩) ?_
    rotate_left
    ·intro W hSw;go_simp;try (with_reducible rfl)
    try simp only[Act.put,sA,sZ,sS]
    refine wpAnyH_done (by kernel_rfl) ?_ _
    refine NoPanic.normal ?_
    go_wp2_with fail
    refine bodyPost_ret (v:= .tuple #[.agg ((hdOf l).cells 20).toArray,.int .u64 dp]) (by exact res_rowG Tryz.results165 _ _ w.heap.size 119 _ (0,0) _ _ rfl rfl R10.out Tryz.underlying119 rfl (rcells_info _)) rfl ?_
    exact⟨by rw[HDp.out],B10.out⟩
end Gq
namespace Ge
open Bytes8 Blk8 Own8 LeNum RefB Ob Od Oe Ga Gb Ff Rows2
open Gn (ints rnums_in)
theorem wpList_append_full {w:World}{ops:Array Oper}{rest:List Oper}{o:Oper}{a:Act}{Q:Exit→Act→World→Prop}(hgd:o.guard=none)(s x:Operand)
 (hop:o.op= .call {callee:= .builtin .append,args:= #[s,x],argTypes:= #[24,24]})
 (base:Nat)(hbase:base≤w.heap.size)(b n:Nat)(l:List Int)(hs:a.eval s= .slice (some ⟨b,0,none⟩) n n)(h0:Bytes w (some ⟨b,0,none⟩) l)(hl:l.length=n)(A2:Option Addr)(m c2:Nat)(ys:List Int)(hx:a.eval x= .slice A2 m c2)(hb:Bytes w A2 ys)(hm:ys.length=m)(hm0:0<m)(hsz:n+m≤70368744177664)
 (h: ∀A' c' w',Own w' base A' (n+m) c' (l++ys)→Below base w w'→wpList Tryz.prog ops Q rest (a.put o.dst (.slice A' (n+m) c')) w'):wpList Tryz.prog ops Q (o::rest) a w:=by
 obtain⟨i,hi,hzz⟩:=Option.map_eq_some_iff.1 info8
 simp only[Prod.mk.injEq]at hzz
 obtain⟨hz,hs1,hby⟩:=hzz
 obtain⟨ad,rfl,hsrc⟩:=hb.source w (Below.refl _ _) (by omega)
 have hold: ∀j u,(l.map (Value.int .u8))[j]? =some u→w.cell? ((⟨b,0,none⟩:Addr).add j)=some u:=fun j u hu=>by
  rw[List.getElem?_map]at hu
  obtain⟨y,hy,rfl⟩:=Option.map_eq_some_iff.1 hu
  obtain⟨ad2,e2,h2⟩:=h0.source w (Below.refl _ _) (by have:=(List.getElem?_eq_some_iff.1 hy).1;omega)
  injection e2 with e2
  rw[e2]
  exact h2 j y hy
 have hr:=run_append_grow (P:=Tryz.prog) w 24 o.type 5 i (.int .u8 0) Tryz.underlying24 hi hz ⟨b,0,none⟩ n n (l.map (Value.int .u8)) (by simp[hl,hs1]) hold ad m c2 (ys.map (Value.int .u8)) (by simp[hm,hs1])
  (fun j u hu=>by
    rw[List.getElem?_map]at hu
    obtain⟨y,hy,rfl⟩:=Option.map_eq_some_iff.1 hu
    exact hsrc j y hy) (by omega) (by omega) (growslice_fits (by omega) (by rw[hby];omega))
 have hge:=grownCap_ge w (n+m) n 5
 have hcm:grownCap w (n+m) n 5≤maxLen:=grownCap_le_maxLen w (n+m) n 5 (by unfold maxLen;omega)
 refine wpList_plain hgd fun K hK=>?_
 unfold Oper.wp execOp
 simp only[hop,resolve,invoke,builtin,Sem.run_bind,Sem.run_pure,Result.andThen_ok,List.map_toArray,List.map_cons,List.map_nil,hs,hx,hr]
 refine hK _ _ (h _ _ _ ⟨h0.1.app hb.1,by rw[List.length_append,hl,hm],by simp;omega,by simp[hl,hm],.inr ⟨w.heap.size,_,_,rfl,hbase,heap_alloc_new w.drew _,hge,hcm,?_,?_⟩⟩ (((Below.refl base w).drew).alloc hbase _))
 ·simp only[Array.size_append,List.size_toArray,List.length_map,size_zeroCells,Value.cells,hl,hm]
  simp
  omega
 ·simp only[Array.toList_append,List.map_append]
  rw[List.take_append_of_le_length (by simp[hl,hm]),List.take_of_length_le (by simp[hl,hm])]
theorem low_byte (v:Int)(h0:0≤v)(h1:v<256):lowB v 8=[v,0,0,0,0,0,0,0]:=by
 have e: ∀k:Nat,1≤k→v/256^k%256=0:=fun k hk=>by
  have:(256:Int)^k=256*256^(k-1):=by rw[←Int.pow_succ',show k-1+1=k by omega]
  have h2:v<256^k:=by
   have h3:(0:Int)<256^(k-1):=Int.pow_pos (by decide)
   rw[this];omega
  rw[Int.ediv_eq_zero_of_lt h0 h2];rfl
 have e0:v/256^0%256=v:=by simp;omega
 simp only[lowB,show List.range 8=[0,1,2,3,4,5,6,7]from rfl,List.map_cons,List.map_nil,e0,e 1 (by decide),e 2 (by decide),e 3 (by decide),e 4 (by decide),e 5 (by decide),e 6 (by decide),e 7 (by decide)]
attribute [local irreducible] HD.cells wpList Code.wp
theorem rbytes_any (h:HD)(ok:h.Ok 20)(d:Int)(hd:0≤d∧d≤18446744073709551615)(w:World):
 Calls Tryz.prog 80 #[.agg (h.cells 20).toArray,.int .u64 d] w (Owned ((HD.plus h d).bytes 21) 272 w):=by
 have b0:=yH ((Below.refl w.heap.size w).alloc (yR _) (.cells (h.cells 20).toArray 119))
 have R0:=yH (show Blk (w.alloc (.cells (h.cells 20).toArray 119)) w.heap.size (h.cells 20) 119 from Blk.new w _ _)
 have S0:=yH (show(w.alloc (.cells (h.cells 20).toArray 119)).heap.size=w.heap.size+1 by simp)
 go_enter Tryz.func80,Tryz.ntmps80
 go_upto_region 1 with fail
 generalize w.alloc (.cells (h.cells 20).toArray 119)=w0 at*
 have kc:=fun(w:World) (C:Array Value) (n c:Nat)=>Lib.run_convert_bytes_const (P:=Tryz.prog) w 24 5 C n c Tryz.underlying24 Tryz.underlying5
 have M1:=yH (show Bytes (w0.alloc (.cells #[.int .u8 76,.int .u8 80,.int .u8 75,.int .u8 83,.int .u8 72,.int .u8 72,.int .u8 82,.int .u8 72] 5 (8,9))) (some ⟨w0.heap.size,0,none⟩) magicL from const_bytes magicL magic_all w0 (8,9))
 have a1:=yH ((Below.refl w0.heap.size w0).alloc (yR _) (.cells #[.int .u8 76,.int .u8 80,.int .u8 75,.int .u8 83,.int .u8 72,.int .u8 72,.int .u8 82,.int .u8 72] 5 (8,9)))
 have R1:=yH (R0.out.below a1.out R0.out.lt)
 have HL:=yH R0.out.lt
 have L4:=yH fun(v:Int) (h0:0≤v) (h1:v≤4294967295) (W:World)=>rlow_at v 4 4 W h0 (by omega) (by decide) rfl
 have c0:(w0.alloc (.cells #[.int .u8 76,.int .u8 80,.int .u8 75,.int .u8 83,.int .u8 72,.int .u8 72,.int .u8 82,.int .u8 72] 5 (8,9))).cell? ⟨w.heap.size,0,none⟩=some (.int .u32 h.cp):=R1.out.cell (h.get 20 0 (by decide))
 have hcp:=ok.cp
 have D1:=yH (show magicL.length=8 from rfl)
 have E4:=yH fun(v:Int)=>lowB_len v 4
 go_upto_region 2 with(first
  |(go_at_call 138;((with_reducible refine(L4.out _ hcp.1 hcp.2 _).mono ?_);rintro e w2 ⟨A2,c2,rfl,ho2,hb2⟩;have O2:=yH ho2;have B2:=yH hb2;clear ho2 hb2))
  |((with_reducible apply at_slot 12);refine wpList_append_full rfl (.tmp 7) (.tmp 11) rfl w0.heap.size (Nat.le_trans a1.out.size B2.out.size) w0.heap.size 8 magicL rfl (M1.out.below B2.out (yR _)) D1.out A2 4 c2 _ rfl O2.out.bytes (E4.out _) (by decide) (by decide) ?_;intro A3 c3 w3 ho3 hb3;have O3:=yH ho3;have B3:=yH (a1.out.trans ((B2.out.mono a1.out.size).trans hb3));clear ho3 hb3))
 have R3:=yH (R0.out.below B3.out HL.out)
 have c1:w3.cell? ⟨w.heap.size,1,none⟩=some (.int .u32 h.ic):=R3.out.cell (h.get 20 1 (by decide))
 have hic:=ok.ic
 clear c0 kc M1 a1 R1 O2 B2 D1
 go_upto_region 3 with(first
  |(go_at_call 138;((with_reducible refine(L4.out _ hic.1 hic.2 _).mono ?_);rintro e w4 ⟨A4,c4,rfl,ho4,hb4⟩;have O4:=yH ho4;have B4:=yH hb4;clear ho4 hb4))
  |((with_reducible apply at_slot 18);refine wpList_append_bytes rfl (.tmp 13) (.tmp 17) rfl w0.heap.size A3 12 c3 _ rfl (O3.out.kept B4.out (yR _)) A4 4 c4 _ rfl O4.out.bytes (E4.out _) (by decide) ?_;intro A5 c5 w5 ho5 hb5;have O5:=yH ho5;have B5:=yH ((B3.out.trans (B4.out.mono B3.out.size)).trans hb5);clear ho5 hb5))
 have R5:=yH (R0.out.below B5.out HL.out)
 have c2':w5.cell? ⟨w.heap.size,2,none⟩=some (.int .i64 h.st):=R5.out.cell (h.get 20 2 (by decide))
 have hst:IntKind.u8.wrap h.st=h.st%256:=by simp[IntKind.wrap,IntKind.signed,IntKind.bits]
 have hm0:0≤h.st%256∧h.st%256<256:=by omega
 have Hl8:=yH (show lowB (h.st%256) 8=[h.st%256,0,0,0,0,0,0,0]from low_byte _ hm0.1 hm0.2)
 have HF8:=yH (show h.front=magicL++lowB h.cp 4++lowB h.ic 4++lowB (h.st%256) 8 from rfl)
 generalize h.st%256=st8 at*
 have HA8:=yH (show AllB [st8,0,0,0,0,0,0,0]by rw[←Hl8.out];exact lowB_all _ _)
 have HB8:=yH (show Bytes (w5.alloc (.cells #[.int .u8 st8,.int .u8 0,.int .u8 0,.int .u8 0,.int .u8 0,.int .u8 0,.int .u8 0,.int .u8 0] 5)) (some ⟨w5.heap.size,0,none⟩) [st8,0,0,0,0,0,0,0]from(Row.new w5 [st8,0,0,0,0,0,0,0]).bytes HA8.out)
 clear c1 O3 O4 B4 R3
 go_upto_region 4 with((with_reducible apply at_slot 24);refine wpList_append_bytes rfl (.tmp 19) (.tmp 23) rfl w0.heap.size A5 16 c5 _ rfl (O5.out.alloc _) (some ⟨w5.heap.size,0,none⟩) 8 8 _ rfl HB8.out rfl (by decide) ?_;intro A6 c6 w6 ho6 hb6;have O6:=yH ho6;have B6:=yH ((B5.out.alloc B5.out.size _).trans hb6);clear ho6 hb6)
 rw[←Hl8.out]at O6
 clear c2' hst hm0 O5 B5 R5 HA8 HB8 Hl8
 go_region_held3 (fun W=>True) (first|(with_reducible exact trivial)) (first
  |(refine step_append_bytes (o:=⟨some 28,_,_,_,_,_⟩) rfl (.tmp 25) (.tmp 27) rfl w0.heap.size A6 24 c6 _ rfl O6.out.drew (some ⟨w.heap.size,3,none⟩) 16 16 (h.id 0) rfl (HD.id_at (R0.out.below B6.out HL.out) ok 0 (by decide)).drew (h.id_len 0) (by decide) ?_;intro A7 c7 w7 ho7 hb7;have O7:=yH ho7;have B7:=yH (B6.out.drew.trans hb7);clear ho7 hb7)
  |(refine step_append_bytes (o:=⟨some 31,_,_,_,_,_⟩) rfl (.tmp 28) (.tmp 30) rfl w0.heap.size A7 40 c7 _ rfl O7.out (some ⟨w.heap.size,19,none⟩) 16 16 (h.id 1) rfl (HD.id_at (R0.out.below B7.out HL.out) ok 1 (by decide)) (h.id_len 1) (by decide) ?_;intro A8 c8 w8 ho8 hb8;have O8:=yH ho8;have B8:=yH (B7.out.trans hb8);clear ho8 hb8)
  |(refine step_append_bytes (o:=⟨some 34,_,_,_,_,_⟩) rfl (.tmp 31) (.tmp 33) rfl w0.heap.size A8 56 c8 _ rfl O8.out (some ⟨w.heap.size,35,none⟩) 16 16 (h.id 2) rfl (HD.id_at (R0.out.below B8.out HL.out) ok 2 (by decide)) (h.id_len 2) (by decide) ?_;intro A9 c9 w9 ho9 hb9;have O9:=yH ho9;have B9:=yH (B8.out.trans hb9);clear ho9 hb9)
  |(refine step_append_bytes (o:=⟨some 37,_,_,_,_,_⟩) rfl (.tmp 34) (.tmp 36) rfl w0.heap.size A9 72 c9 _ rfl O9.out (some ⟨w.heap.size,51,none⟩) 16 16 (h.id 3) rfl (HD.id_at (R0.out.below B9.out HL.out) ok 3 (by decide)) (h.id_len 3) (by decide) ?_;intro A10 c10 w10 ho10 hb10;have O10:=yH ho10;have B10:=yH (B9.out.trans hb10);clear ho10 hb10))
 have HI4:=yH (show h.ids 4=h.id 0++h.id 1++h.id 2++h.id 3 by rw[show(4:Nat)=3+1 from rfl,h.ids_succ,show(3:Nat)=2+1 from rfl,h.ids_succ,show(2:Nat)=1+1 from rfl,h.ids_succ,show(1:Nat)=0+1 from rfl,h.ids_succ];rfl)
 have OA:=yH (show Own w10 w0.heap.size A10 88 c10 (h.front++h.ids 4)by rw[HF8.out,HI4.out];simpa only[List.append_assoc]using O10.out)
 have R10:=yH (R0.out.below B10.out HL.out)
 have HNi:=yH (show InInts .u64 w10 (some ⟨w.heap.size,67,none⟩) 20 h.N from fun i hi=>⟨w.heap.size,67,rfl,R10.out.lt,HD.nums_at R10.out i hi,by have:=ok.N i;simp[Lit.wf,IntKind.min,IntKind.max,IntKind.signed,IntKind.bits];omega⟩)
 have HN1:=yH (rnums_in (some ⟨w.heap.size,67,none⟩) 20 20 h.N w10 HNi.out (by decide))
 have HN2:=yH fun(W:World) (g:Nat) (hg:W.heap.size=g)=>rnums1 d W g hd hg
 have E160:=yH (show(Ob.nums (ints h.N 20)).length=160 by rw[nums_len,Gn.ints_len])
 have E8:=yH (lowB_len d 8)
 clear O6 O7 O8 O9 B6 B7 B8 B9 O10 hcp hic HI4 HF8
 go_upto_region 6 with(first
  |(go_at_call 139;((with_reducible refine HN1.out.mono ?_);rintro e w11 ⟨X1,x1,rfl,ho11,hb11⟩;have O11:=yH ho11;have B11:=yH hb11;clear ho11 hb11))
  |((with_reducible apply at_slot 42);refine wpList_append_bytes rfl (.tmp 38) (.tmp 41) rfl w0.heap.size A10 88 c10 _ rfl (OA.out.kept B11.out (yR _)) X1 160 x1 _ rfl O11.out.bytes E160.out (by decide) ?_;intro A12 c12 w12 ho12 hb12;have O12:=yH ho12;have B12:=yH ((B10.out.trans (B11.out.mono B10.out.size)).trans hb12);clear ho12 hb12)
  |(go_at_call 139;((with_reducible refine(HN2.out _ _ rfl).mono ?_);rintro e w13 ⟨X2,x2,rfl,ho13,hb13⟩;have O13:=yH ho13;have B13:=yH hb13;clear ho13 hb13))
  |((with_reducible apply at_slot 46);refine wpList_append_bytes rfl (.tmp 42) (.tmp 45) rfl w0.heap.size A12 248 c12 _ rfl (O12.out.kept B13.out (yR _)) X2 8 x2 _ rfl O13.out.bytes E8.out (by decide) ?_;intro A14 c14 w14 ho14 hb14;have O14:=yH ho14;have B14:=yH ((B12.out.trans (B13.out.mono B12.out.size)).trans hb14);clear ho14 hb14))
 have HNq:=yH (show Ob.nums (ints h.N 20)++lowB d 8=Ob.nums ((HD.plus h d).nums 21)by
  rw[←nums_snoc]
  congr 1)
 have OB:=yH (show Own w14 w0.heap.size A14 256 c14 (h.front++h.ids 4++Ob.nums ((HD.plus h d).nums 21))by rw[←HNq.out,←List.append_assoc];exact O14.out)
 clear O11 O12 O13 B11 B12 B13 O14 HN1 HN2 HNi E160 E8 OA B10 R10 HNq
 have HC:=yH fun(W:World) (hW:Below w0.heap.size w0 W)=>show W.cell? ⟨w.heap.size,87,none⟩=some (.int .u32 h.ta)∧W.cell? ⟨w.heap.size,88,none⟩=some (.int .u32 h.ti)from⟨(R0.out.below hW HL.out).cell (h.get_ta 20),(R0.out.below hW HL.out).cell (h.get_ti 20)⟩
 have hta:=ok.ta
 have hti:=ok.ti
 have LA:=yH fun(W:World)=>show Calls Tryz.prog 138 #[.int .u64 (IntKind.u64.wrap h.ta),.int .i64 4] W fun e w'=> ∃A c,e= .returned (.slice A 4 c)∧Own w' W.heap.size A 4 c (lowB h.ta 4)∧Below W.heap.size W w' by
  rw[show IntKind.u64.wrap h.ta=h.ta by rw[IntKind.wrap_u64];omega]
  exact L4.out h.ta hta.1 hta.2 W
 have LB:=yH fun(W:World)=>show Calls Tryz.prog 138 #[.int .u64 (IntKind.u64.wrap h.ti),.int .i64 4] W fun e w'=> ∃A c,e= .returned (.slice A 4 c)∧Own w' W.heap.size A 4 c (lowB h.ti 4)∧Below W.heap.size W w' by
  rw[show IntKind.u64.wrap h.ti=h.ti by rw[IntKind.wrap_u64];omega]
  exact L4.out h.ti hti.1 hti.2 W
 have EA:=yH (lowB_len h.ta 4)
 have EB:=yH (lowB_len h.ti 4)
 have q0:=HC.out _ B14.out.drew
 have S14:=yH (yR w14.heap.size)
 go_cut [5]from 47 to 58 (fun z wx=> ∃A1 c1,z= .slice A1 264 c1∧Hid (Own wx w0.heap.size A1 264 c1 (h.front++h.ids 4++Ob.nums ((HD.plus h d).nums 21)++lowB h.ta 4++lowB h.ti 4))∧Hid (Below w0.heap.size w0 wx))
 case first=>
  go_region_held3 (fun W=>W.cell? ⟨w.heap.size,87,none⟩=some (.int .u32 h.ta)∧W.cell? ⟨w.heap.size,88,none⟩=some (.int .u32 h.ti)) (first|(with_reducible exact q0)|(with_reducible exact qa)|(with_reducible exact qg)|(with_reducible exact qz)|(with_reducible exact qy)) (first
   |(go_simp;go_at_call 138;(with_reducible refine(LA.out w14.drew).mono ?_);rintro e wa ⟨Aa,ca,rfl,hoa,hba⟩;have Oa:=yH hoa;have Fa:=yH (B14.out.drew.trans (hba.mono B14.out.drew.size));have Pa:=yH (OB.out.drew.kept hba (yR _));have Sa:=yH hba.size;have qa:=HC.out _ Fa.out;clear hoa hba)
   |(refine step_append_bytes (o:=⟨some 52,_,_,_,_,_⟩) rfl (.tmp 47) (.tmp 51) rfl w0.heap.size A14 256 c14 _ rfl Pa.out Aa 4 ca _ rfl Oa.out.bytes EA.out (by decide) ?_;intro Ag cg wg hog hbg;have Og:=yH hog;have Fg:=yH (Fa.out.trans hbg);have qg:=HC.out _ Fg.out;clear hog hbg)
   |(go_simp;go_at_call 138;(with_reducible refine(LB.out wg).mono ?_);rintro e wh ⟨Ah,ch,rfl,hoh,hbh⟩;have Oh:=yH hoh;have Fh:=yH (Fg.out.trans (hbh.mono Fg.out.size));have Ph:=yH (Og.out.kept hbh (yR _));have qz:=HC.out _ Fh.out;clear hoh hbh)
   |(refine step_append_bytes (o:=⟨some 57,_,_,_,_,_⟩) rfl (.tmp 52) (.tmp 56) rfl w0.heap.size Ag 260 cg _ rfl Ph.out Ah 4 ch _ rfl Oh.out.bytes EB.out (by decide) ?_;intro Az cz wz hoz hbz;have Oz:=yH hoz;have Fz:=yH (Fh.out.trans hbz);have qy:=HC.out _ Fz.out;clear hoz hbz))
  all_goals
   go_wp2_with fail
   go_meet
   case rel=>exact⟨Az,cz,rfl,Oz,Fz⟩
 case rest=>
  obtain⟨A1,c1,rfl,ho1,hb1⟩:=hcut
  have Rz:=yH (R0.out.below hb1.out HL.out)
  have cz:wc.cell? ⟨w.heap.size,89,none⟩=some (.int .u64 h.te):=Rz.out.cell (h.get_te 20)
  have HN3:=yH fun(W:World) (g:Nat) (hg:W.heap.size=g)=>rnums1 h.te W g ok.te hg
  have E8:=yH (lowB_len h.te 8)
  have E:=yH (show(HD.plus h d).bytes 21=h.front++h.ids 4++Ob.nums ((HD.plus h d).nums 21)++lowB h.ta 4++lowB h.ti 4++lowB h.te 8 from rfl)
  clear q0 LA LB HC L4
  go_wp2_with(first
   |(go_at_call 139;((with_reducible refine(HN3.out _ _ rfl).mono ?_);rintro e w15 ⟨X3,x3,rfl,ho15,hb15⟩;have O15:=yH ho15;have B15:=yH hb15;clear ho15 hb15))
   |((with_reducible apply at_slot 63);refine wpList_append_bytes rfl (.tmp 58) (.tmp 62) rfl w0.heap.size A1 264 c1 _ rfl (ho1.out.kept B15.out (yR _)) X3 8 x3 _ rfl O15.out.bytes E8.out (by decide) ?_;intro A16 c16 w16 ho16 hb16;have O16:=yH ho16;have B16:=yH ((hb1.out.trans (B15.out.mono hb1.out.size)).trans hb16);clear ho16 hb16))
  go_ret
  exact⟨A16,c16,rfl,by rw[E.out];exact Od.Own.base (b2:=w.heap.size) O16.out (Nat.le_of_lt HL.out),b0.out.trans (B16.out.mono (Nat.le_of_lt HL.out))⟩
end Ge
end Go.Proofs.YtiddkgcafpaekaaGreat
