/-
  Texts beneath the proof.
-/
import Derived.StillTailTactics
import Derived.Test.YtiddkgcafpaekaaGreatJq6
set_option linter.unusedVariables false
set_option linter.unusedSimpArgs false
set_option maxRecDepth 100000
set_option maxHeartbeats 4000000
open Go.ChangeShapes Go.WideShapes Go.ChangeAt Go.RowKit
namespace Go.Proofs.YtiddkgcafpaekaaGreat
namespace Ok7
open Bytes8 Blk8 Own8 OwnM OwnE Ob Oc Od Oi Oj
theorem number_any (A:Option Addr)(l:List Int)(n cap i:Nat)(w:World)(hb:Bytes w A l)(hL:l.length=n)(hn:n≤1000000)(hi:8*i+8≤n):
 Calls Tryz.prog 82 #[.slice A n cap,.int .i64 (i:Int)] w fun e w'=>e= .returned (.int .u64 (u8 l (8*i)))∧w=w':=by
 have HG:=yH fun(z:Int) (hz:z=((8*i:Nat):Int))=>get8 A l n cap (8*i) z w hz hL hn hb (by omega)
 generalize u8 l (8*i)=x at*
 clear hb hL
 go_enter Tryz.func82,Tryz.ntmps82
 go_wp2_with(go_at_call 69;(with_reducible refine(HG.out _ (by omega)).mono ?_);rintro e w' ⟨rfl,rfl⟩)
 go_ret
 exact⟨rfl,rfl⟩
theorem bytes_far {w:World}{A:Option Addr}{l:List Int}{g:Nat}(h:Bytes w A l)(hA: ∀b off,A=some ⟨b,off,none⟩→b≠g)(i:Nat)(v:Value):Bytes (w.setCell ⟨g,i,none⟩ v) A l:=by
 refine⟨h.1,fun j hj=>?_⟩
 obtain⟨b,off,e,h1,h2⟩:=h.2 j hj
 refine⟨b,off,e,by simpa using h1,?_⟩
 rw[World.cell?_of_block (Below.heap_setCell w ⟨g,i,none⟩ v b (hA b off e))]
 exact h2
def Cap (B:Nat)(A:Option Addr)(m c:Nat):Prop:=m≤1000000∧m≤c∧c≤maxLen∧ ∀b off,A=some ⟨b,off,none⟩→B≤b
theorem Cap.mono {B C:Nat}{A:Option Addr}{m c:Nat}(h:Cap B A m c)(hc:C≤B):Cap C A m c:=⟨h.1,h.2.1,h.2.2.1,fun b off e=>Nat.le_trans hc (h.2.2.2 b off e)⟩
theorem clone_cap (A:Option Addr)(l:List Int)(len cap:Nat)(w:World)(hb:Bytes w A l)(hL:l.length=len)(hmax:len≤1000000):
 Calls Tryz.prog 72 #[.slice A len cap] w fun e w'=> ∃A2 c2,e= .returned (.slice A2 len c2)∧Bytes w' A2 l∧Below w.heap.size w w'∧Cap w.heap.size A2 len c2:=by
 have q22: ∀(w:World) (a:Option Addr) (n c n' c':Nat),(binOp .eql 24 (.slice a n c) (.slice none n' c')).run Tryz.prog w= .ok (.bool a.isNone) w:=fun w a n c n' c'=>Lib.run_eql_slice_nil w _ _ a n c n' c' Tryz.underlying24
 cases A with
 |none=>
  have h0:l=[]:=by
   rcases l with _|⟨x,r⟩
   ·rfl
   ·obtain⟨b,off,e,_⟩:=hb.2 0 (by simp)
    cases e
  subst h0
  obtain rfl:len=0:=by simpa using hL.symm
  clear hb hL
  go_enter Tryz.func72,Tryz.ntmps72
  go_wp2
  go_ret
  exact⟨none,0,rfl,Bytes.nil _ _,Below.refl _ _,by decide,by decide,by decide,fun b off h=>by cases h⟩
 |some a=>
  have HB:=yH (hb.below ((Below.refl w.heap.size w).alloc (yR _) (.cells #[] 5)) (yR _))
  have HL:=yH hL
  clear hb hL
  go_enter Tryz.func72,Tryz.ntmps72
  go_wp2_with(at_builtin;refine wpList_append_bytes rfl (.tmp 5) (.tmp 6) rfl w.heap.size _ 0 0 [] rfl (Own.made w _ (yR _)) (some a) len cap l rfl HB.out HL.out (by omega) ?_;intro A2 c2 w2 ho2 hbel2;rw[Nat.zero_add,List.nil_append]at ho2;rw[Nat.zero_add];have HO2:=yH ho2;clear ho2)
  go_ret
  refine⟨A2,c2,rfl,HO2.out.bytes,((Below.refl _ _).alloc (yR _) _).trans hbel2,hmax,(own_cap HO2.out).1,(own_cap HO2.out).2,fun b off h=>?_⟩
  subst h
  exact(HO2.out.lt b rfl).1
def DataTold2 (l:List Int)(a:Nat)(w:World)(e:Ending)(w':World):Prop:=
 ∃A m c,e= .returned (.tuple #[dataV (bnum l a 1 6 0) (bnum l a 1 6 1) (bnum l a 1 6 2) (bnum l a 1 6 3) (bnum l a 1 6 4) (bnum l a 1 6 5) A m c,.int .i64 (bcode l a 1 6)])∧Below w.heap.size w w'∧Bytes w' A (bpay l a 1 6)∧(bpay l a 1 6).length=m∧Cap w.heap.size A m c
theorem readData_n (A:Option Addr)(l:List Int)(n cap a:Nat)(w:World)(hb:Bytes w A l)(hL:l.length=n)(hn:n≤1000000)(hc:n≤cap)(hcm:cap≤maxLen)(ha:a≤18446744073709551615):
 Calls Tryz.prog 29 #[.slice A n cap,.int .u64 (a:Int)] w (DataTold2 l a w):=by
 have b0:=yH ((Below.refl w.heap.size w).alloc (yR _) (.cells #[.int .u64 0,.int .u64 0,.int .u64 0,.int .u64 0,.int .u64 0,.int .u64 0,.slice none 0 0] 65))
 have R0:=yH (Blk.new w [.int .u64 0,.int .u64 0,.int .u64 0,.int .u64 0,.int .u64 0,.int .u64 0,.slice none 0 0] 65)
 have HBo:=yH (bodyOf_at A l n cap a 6 1 6 (w.alloc (.cells #[.int .u64 0,.int .u64 0,.int .u64 0,.int .u64 0,.int .u64 0,.int .u64 0,.slice none 0 0] 65)) (hb.below b0.out (yR _)) hL hn hc hcm ha (by decide) rfl)
 unfold Bodied at HBo
 have hbn: ∀i,bnum l a 1 6 i=if bcode l a 1 6=0 then u8 (bodyL l a) (8*i)else 0:=fun i=>rfl
 have hbp:bpay l a 1 6=if bcode l a 1 6=0 then(bodyL l a).drop (8*6)else []:=rfl
 unfold DataTold2
 by_cases h1:bcode l a 1 6≠0
 ·rw[if_neg h1]at hbp
  have hn0: ∀i,bnum l a 1 6 i=0:=fun i=>(hbn i).trans (if_neg h1)
  rw[hbp,hn0 0,hn0 1,hn0 2,hn0 3,hn0 4,hn0 5]
  clear hbp hbn hn0 hb hL
  generalize bcode l a 1 6=cd at*
  generalize bodyL l a=bd at*
  go_enter Tryz.func29,Tryz.ntmps29
  go_wp2_with(go_at_call 81;(with_reducible refine HBo.out.mono ?_);rintro e w2 ⟨B,m,cb,rfl,hbel,_⟩;have R2:=yH (R0.out.below hbel R0.out.lt);have ca0:=R2.out.cell (i:=0) rfl;have ca1:=R2.out.cell (i:=1) rfl;have ca2:=R2.out.cell (i:=2) rfl;have ca3:=R2.out.cell (i:=3) rfl;have ca4:=R2.out.cell (i:=4) rfl;have ca5:=R2.out.cell (i:=5) rfl;have ca6:=R2.out.cell (i:=6) rfl;have fa0:=R2.out.frozen 0;have fa1:=R2.out.frozen 1;have fa2:=R2.out.frozen 2;have fa3:=R2.out.frozen 3;have fa4:=R2.out.frozen 4;have fa5:=R2.out.frozen 5;have fa6:=R2.out.frozen 6;have HB2:=yH (b0.out.trans (hbel.mono b0.out.size));clear hbel)
  refine bodyPost_ret (v:= .tuple #[dataV 0 0 0 0 0 0 none 0 0,.int .i64 cd]) (by simp[results_cell_tmp Tryz.results29,go_sem,ca0,fa0,ca1,fa1,ca2,fa2,ca3,fa3,ca4,fa4,ca5,fa5,ca6,fa6,Result.andThen]) rfl ⟨none,0,0,rfl,?_,Bytes.nil _ _,rfl,by decide,by decide,by decide,fun b off h=>by cases h⟩
  (repeat (first|(with_reducible exact HB2.out)|refine Below.setCell ?_ (by simp) _|refine Below.alloc ?_ (by simp) _|refine Below.drew ?_|refine below_drewN ?_ _))
 ·have h0:bcode l a 1 6=0:=by omega
  rw[if_pos h0]at hbp
  have hn0: ∀i,bnum l a 1 6 i=u8 (bodyL l a) (8*i):=fun i=>(hbn i).trans (if_pos h0)
  rw[h0]at HBo⊢
  rw[hbp]
  have HNu:=yH fun(i:Nat) (z:Int) (B:Option Addr) (m cb:Nat) (W:World) (hB:Bytes W B (bodyL l a)) (hm:(bodyL l a).length=m) (hm2:m≤1000000) (hz:z=(i:Int)) (hi:8*i+8≤m)=>hz▸(hn0 i).symm▸number_any B (bodyL l a) m cb i W hB hm hm2 hi
  have HDr:=yH fun(m:Nat) (hm:(bodyL l a).length=m)=>show((bodyL l a).drop (8*6)).length=m-48 by rw[List.length_drop,hm]
  clear hbp hbn hn0 hb hL h1 h0
  go_enter Tryz.func29,Tryz.ntmps29
  go_upto_region 4 with(go_at_call 81;(with_reducible refine HBo.out.mono ?_);rintro e w2 ⟨B,m,cb,rfl,hbel,hbd⟩)
  have R2:=yH (R0.out.below hbel R0.out.lt)
  have ca0:=R2.out.cell (i:=0) rfl
  have ca1:=R2.out.cell (i:=1) rfl
  have ca2:=R2.out.cell (i:=2) rfl
  have ca3:=R2.out.cell (i:=3) rfl
  have ca4:=R2.out.cell (i:=4) rfl
  have ca5:=R2.out.cell (i:=5) rfl
  have ca6:=R2.out.cell (i:=6) rfl
  have fa0:=R2.out.frozen 0
  have fa1:=R2.out.frozen 1
  have fa2:=R2.out.frozen 2
  have fa3:=R2.out.frozen 3
  have fa4:=R2.out.frozen 4
  have fa5:=R2.out.frozen 5
  have fa6:=R2.out.frozen 6
  have HB2:=yH (b0.out.trans (hbel.mono b0.out.size))
  obtain⟨d1,d2,d3,d4,d5,d6⟩:=hbd (by first|rfl|trivial)
  have D1:=yH d1
  have D2:=yH d2
  clear d1 d2 hbel hbd
  have hm8:48<m:=by omega
  have hmc:48≤m:=by omega
  have hcut: ∀W:World,(Instr.slice 24 (.slice B m cb) (some (.int .i64 48)) none none).run Tryz.prog W= .ok (.slice (cutA B cb 48) (m-48) (cb-48)) W:=fun W:World=>cut_l B m cb 48 (by omega) W
  have HC:=yH (Bytes.cut D1.out cb 48 (m-48) (by rw[D2.out];omega))
  rw[List.take_of_length_le (Nat.le_of_eq (by rw[List.length_drop,D2.out]))]at HC
  generalize cutA B cb 48=C at*
  go_region_held3 (fun w'=>True) (first|(with_reducible exact trivial)) (first
   |(go_at_call 82;(first|(with_reducible refine(HNu.out 0 0 _ _ _ _ D1.out.drew D2.out (by omega) rfl (by omega)).mono ?_)|(with_reducible refine(HNu.out 1 1 _ _ _ _ D1.out.drew D2.out (by omega) rfl (by omega)).mono ?_)|(with_reducible refine(HNu.out 2 2 _ _ _ _ D1.out.drew D2.out (by omega) rfl (by omega)).mono ?_)|(with_reducible refine(HNu.out 3 3 _ _ _ _ D1.out.drew D2.out (by omega) rfl (by omega)).mono ?_)|(with_reducible refine(HNu.out 4 4 _ _ _ _ D1.out.drew D2.out (by omega) rfl (by omega)).mono ?_)|(with_reducible refine(HNu.out 5 5 _ _ _ _ D1.out.drew D2.out (by omega) rfl (by omega)).mono ?_));rintro e w' ⟨rfl,rfl⟩)
   |(go_at_call 72;(with_reducible refine(clone_cap C _ (m-48) (cb-48) _ HC.out.drew (by rw[List.length_drop,D2.out]) (by omega)).mono ?_);rintro e w3 ⟨A3,c3,rfl,hb3,hbel3,hcp3⟩;have ho3:=hcp3.2.2.2;have HCP3:=yH (hcp3.mono HB2.out.size);have HB3:=yH hb3;have HO3:=yH (show ∀b off,A3=some ⟨b,off,none⟩→b≠w.heap.size from fun b off e hh=>by have h1:=ho3 b off e;have h2:=R2.out.lt;have h3:w2.drew.heap.size=w2.heap.size:=rfl;omega);have HBel3:=yH (HB2.out.drew.trans (hbel3.mono HB2.out.size));have R3:=yH (R2.out.drew.below hbel3 R2.out.lt);have cb0:=R3.out.cell (i:=0) rfl;have cb1:=R3.out.cell (i:=1) rfl;have cb2:=R3.out.cell (i:=2) rfl;have cb3:=R3.out.cell (i:=3) rfl;have cb4:=R3.out.cell (i:=4) rfl;have cb5:=R3.out.cell (i:=5) rfl;have cb6:=R3.out.cell (i:=6) rfl;have fb0:=R3.out.frozen 0;have fb1:=R3.out.frozen 1;have fb2:=R3.out.frozen 2;have fb3:=R3.out.frozen 3;have fb4:=R3.out.frozen 4;have fb5:=R3.out.frozen 5;have fb6:=R3.out.frozen 6;clear hcp3 hb3 hbel3))
  obtain⟨W4,hW4⟩: ∃x,x=(((((((w3.setCell ⟨w.heap.size,0,none⟩ (.int .u64 (bnum l a 1 6 0))).setCell ⟨w.heap.size,1,none⟩ (.int .u64 (bnum l a 1 6 1))).setCell ⟨w.heap.size,2,none⟩ (.int .u64 (bnum l a 1 6 2))).setCell ⟨w.heap.size,3,none⟩ (.int .u64 (bnum l a 1 6 3))).setCell ⟨w.heap.size,4,none⟩ (.int .u64 (bnum l a 1 6 4))).setCell ⟨w.heap.size,5,none⟩ (.int .u64 (bnum l a 1 6 5))).setCell ⟨w.heap.size,6,none⟩ (.slice A3 (m-48) c3)):=⟨_,rfl⟩
  have R4:Hid (Blk W4 w.heap.size [.int .u64 (bnum l a 1 6 0),.int .u64 (bnum l a 1 6 1),.int .u64 (bnum l a 1 6 2),.int .u64 (bnum l a 1 6 3),.int .u64 (bnum l a 1 6 4),.int .u64 (bnum l a 1 6 5),.slice A3 (m-48) c3] 65):=yH (hW4▸(((((((R3.out.set_ 0 _).set_ 1 _).set_ 2 _).set_ 3 _).set_ 4 _).set_ 5 _).set_ 6 _))
  have HB4:Hid (Below w.heap.size w W4):=yH (hW4▸(Below.setCell (Below.setCell (Below.setCell (Below.setCell (Below.setCell (Below.setCell (Below.setCell HBel3.out (yR _) _) (yR _) _) (yR _) _) (yR _) _) (yR _) _) (yR _) _) (yR _) _))
  have HY4:Hid (Bytes W4 A3 _):=yH (hW4▸(bytes_far (bytes_far (bytes_far (bytes_far (bytes_far (bytes_far (bytes_far HB3.out HO3.out _ _) HO3.out _ _) HO3.out _ _) HO3.out _ _) HO3.out _ _) HO3.out _ _) HO3.out _ _))
  rw[←hW4]
  have e0:=R4.out.cell (i:=0) rfl;have e1:=R4.out.cell (i:=1) rfl;have e2:=R4.out.cell (i:=2) rfl;have e3:=R4.out.cell (i:=3) rfl;have e4:=R4.out.cell (i:=4) rfl;have e5:=R4.out.cell (i:=5) rfl;have e6:=R4.out.cell (i:=6) rfl
  clear hW4
  go_wp2
  refine bodyPost_ret (v:= .tuple #[dataV (bnum l a 1 6 0) (bnum l a 1 6 1) (bnum l a 1 6 2) (bnum l a 1 6 3) (bnum l a 1 6 4) (bnum l a 1 6 5) A3 (m-48) c3,.int .i64 0]) (by simp[results_cell_tmp Tryz.results29,go_sem,e0,e1,e2,e3,e4,e5,e6,Result.andThen]) rfl ⟨A3,m-48,c3,rfl,HB4.out,HY4.out,by rw[List.length_drop,D2.out],HCP3.out⟩
end Ok7
namespace Ol7
end Ol7
namespace Gc
open Bytes8 Blk8 Own8 Ob Ga Gb
abbrev idsV (g:Nat):Value:= .agg #[.pointer (some ⟨g,3,none⟩),.pointer (some ⟨g,19,none⟩),.pointer (some ⟨g,35,none⟩),.pointer (some ⟨g,51,none⟩)]
abbrev numsV (g:Nat):Value:= .agg #[.pointer (some ⟨g,67,none⟩),.pointer (some ⟨g,68,none⟩),.pointer (some ⟨g,69,none⟩),.pointer (some ⟨g,70,none⟩),.pointer (some ⟨g,71,none⟩),.pointer (some ⟨g,72,none⟩),.pointer (some ⟨g,73,none⟩),.pointer (some ⟨g,74,none⟩),.pointer (some ⟨g,75,none⟩),.pointer (some ⟨g,76,none⟩),.pointer (some ⟨g,77,none⟩),.pointer (some ⟨g,78,none⟩),.pointer (some ⟨g,79,none⟩),.pointer (some ⟨g,80,none⟩),.pointer (some ⟨g,81,none⟩),.pointer (some ⟨g,82,none⟩),.pointer (some ⟨g,83,none⟩),.pointer (some ⟨g,84,none⟩),.pointer (some ⟨g,85,none⟩),.pointer (some ⟨g,86,none⟩),.pointer (some ⟨g,87,none⟩)]
theorem nums_one (g:Nat):(#[.pointer (some ⟨g,67,none⟩),.pointer (some ⟨g,68,none⟩),.pointer (some ⟨g,69,none⟩),.pointer (some ⟨g,70,none⟩),.pointer (some ⟨g,71,none⟩),.pointer (some ⟨g,72,none⟩),.pointer (some ⟨g,73,none⟩),.pointer (some ⟨g,74,none⟩),.pointer (some ⟨g,75,none⟩),.pointer (some ⟨g,76,none⟩),.pointer (some ⟨g,77,none⟩),.pointer (some ⟨g,78,none⟩),.pointer (some ⟨g,79,none⟩),.pointer (some ⟨g,80,none⟩),.pointer (some ⟨g,81,none⟩),.pointer (some ⟨g,82,none⟩),.pointer (some ⟨g,83,none⟩),.pointer (some ⟨g,84,none⟩),.pointer (some ⟨g,85,none⟩),.pointer (some ⟨g,86,none⟩),.pointer (some ⟨g,87,none⟩)]:Array Value).all (·.oneCell')=true:=by simp[Value.oneCell']
theorem p4Info:(Tryz.prog.info? 149).map (·.size)=some 4:=by kernel_rfl
theorem p21Info:(Tryz.prog.info? 153).map (·.size)=some 21:=by kernel_rfl
theorem ids_any (g:Nat)(w:World):
 Calls Tryz.prog 67 #[.pointer (some ⟨g,0,none⟩)] w fun e w'=>e= .returned (idsV g)∧Below w.heap.size w w':=by
 go_enter Tryz.func67,Tryz.ntmps67
 go_wp2
 go_region
 all_goals
  go_wp2
  refine bodyPost_ret (v:=idsV g) (by exact results_cell_row Tryz.results67 _ _ w.heap.size 149 _ (0,0) _ rfl (heap_alloc_new w _) Tryz.underlying149 rfl p4Info) rfl ?_
  exact⟨rfl,((Below.refl w.heap.size w).alloc (yR _) _).drew⟩
theorem hnums_any (g:Nat)(w:World):
 Calls Tryz.prog 68 #[.pointer (some ⟨g,0,none⟩)] w fun e w'=>e= .returned (numsV g)∧Below w.heap.size w w':=by
 go_enter Tryz.func68,Tryz.ntmps68
 go_wp2
 have Z0:=yH (heap_alloc_new w (.cells #[.pointer none,.pointer none,.pointer none,.pointer none,.pointer none,.pointer none,.pointer none,.pointer none,.pointer none,.pointer none,.pointer none,.pointer none,.pointer none,.pointer none,.pointer none,.pointer none,.pointer none,.pointer none,.pointer none,.pointer none,.pointer none] 153))
 have B0:=yH ((Below.refl w.heap.size w).alloc (yR _) (.cells #[.pointer none,.pointer none,.pointer none,.pointer none,.pointer none,.pointer none,.pointer none,.pointer none,.pointer none,.pointer none,.pointer none,.pointer none,.pointer none,.pointer none,.pointer none,.pointer none,.pointer none,.pointer none,.pointer none,.pointer none,.pointer none] 153))
 generalize w.alloc (.cells #[.pointer none,.pointer none,.pointer none,.pointer none,.pointer none,.pointer none,.pointer none,.pointer none,.pointer none,.pointer none,.pointer none,.pointer none,.pointer none,.pointer none,.pointer none,.pointer none,.pointer none,.pointer none,.pointer none,.pointer none,.pointer none] 153)=w1 at*
 refine wp_region_still_tail 63 (by kernel_rfl) (by kernel_rfl) ?_
 simp only[List.append_eq,List.cons_append,List.nil_append,List.take_succ_cons,List.take_zero,List.drop_succ_cons,List.drop_zero]
 repeat still_step
 try refine wpStill_nil ?_
 change wpList _ _ _ _ _ w1.drew
 go_wp2_with(first
  |((with_reducible apply at_slot 66);refine wpList_build_as rfl 153 _ rfl #[.pointer (some ⟨g,67,none⟩),.pointer (some ⟨g,68,none⟩),.pointer (some ⟨g,69,none⟩),.pointer (some ⟨g,70,none⟩),.pointer (some ⟨g,71,none⟩),.pointer (some ⟨g,72,none⟩),.pointer (some ⟨g,73,none⟩),.pointer (some ⟨g,74,none⟩),.pointer (some ⟨g,75,none⟩),.pointer (some ⟨g,76,none⟩),.pointer (some ⟨g,77,none⟩),.pointer (some ⟨g,78,none⟩),.pointer (some ⟨g,79,none⟩),.pointer (some ⟨g,80,none⟩),.pointer (some ⟨g,81,none⟩),.pointer (some ⟨g,82,none⟩),.pointer (some ⟨g,83,none⟩),.pointer (some ⟨g,84,none⟩),.pointer (some ⟨g,85,none⟩),.pointer (some ⟨g,86,none⟩),.pointer (some ⟨g,87,none⟩)] (by kernel_rfl) ?_)
  |((with_reducible apply at_store (.tmp 2) (.tmp 66));refine wpList_store_row rfl 153 (.tmp 2) (.tmp 66) rfl w.heap.size #[.pointer (some ⟨g,67,none⟩),.pointer (some ⟨g,68,none⟩),.pointer (some ⟨g,69,none⟩),.pointer (some ⟨g,70,none⟩),.pointer (some ⟨g,71,none⟩),.pointer (some ⟨g,72,none⟩),.pointer (some ⟨g,73,none⟩),.pointer (some ⟨g,74,none⟩),.pointer (some ⟨g,75,none⟩),.pointer (some ⟨g,76,none⟩),.pointer (some ⟨g,77,none⟩),.pointer (some ⟨g,78,none⟩),.pointer (some ⟨g,79,none⟩),.pointer (some ⟨g,80,none⟩),.pointer (some ⟨g,81,none⟩),.pointer (some ⟨g,82,none⟩),.pointer (some ⟨g,83,none⟩),.pointer (some ⟨g,84,none⟩),.pointer (some ⟨g,85,none⟩),.pointer (some ⟨g,86,none⟩),.pointer (some ⟨g,87,none⟩)] rfl rfl 153 #[.pointer none,.pointer none,.pointer none,.pointer none,.pointer none,.pointer none,.pointer none,.pointer none,.pointer none,.pointer none,.pointer none,.pointer none,.pointer none,.pointer none,.pointer none,.pointer none,.pointer none,.pointer none,.pointer none,.pointer none,.pointer none] Z0.out p21Info rfl (nums_one g) ?_))
 refine bodyPost_ret (v:=numsV g) (by exact results_cell_row Tryz.results68 _ _ w.heap.size 153 _ (0,0) _ rfl (setRow_heap _ w.heap.size _ _ _ (0,0) Z0.out) Tryz.underlying153 rfl p21Info) rfl ?_
 exact⟨rfl,below_setRow B0.out.drew (yR _) _⟩
end Gc
end Go.Proofs.YtiddkgcafpaekaaGreat
