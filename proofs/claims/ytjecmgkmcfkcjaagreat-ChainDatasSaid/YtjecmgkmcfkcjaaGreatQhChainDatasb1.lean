/-
  Texts beneath the proof.
-/
import Derived.Test.YtjecmgkmcfkcjaaGreatQh43
import Derived.Test.YtjecmgkmcfkcjaaGreatQh41
set_option linter.unusedVariables false
set_option linter.unusedSimpArgs false
set_option maxRecDepth 100000
set_option maxHeartbeats 4000000
open Go.ChangeShapes Go.WideShapes Go.ChangeAt Go.RowKit
namespace Go.Proofs.YtjecmgkmcfkcjaaGreat
namespace Yp
open Ob
def taN (bd:List Int):Nat:=bd.length/16
def taA (bd:List Int)(i:Nat):Int:=u8 bd (16*i)
def taB (bd:List Int)(i:Nat):Int:=u8 bd (16*i+8)
def isTab (k:Int):Bool:=k==4||k==5
def tabC (l:List Int)(a:Nat)(k:Int):Int:=if isTab k then ecode l a k 0 16 else 1
end Yp
namespace Ok7
open Bytes8 Blk8 Own8 OwnE Ob Oi Oj
theorem clone_new (A:Option Addr)(l:List Int)(len cap:Nat)(w:World)(hb:Bytes w A l)(hL:l.length=len)(hmax:len≤1000000):
 Calls Tryz.prog 68 #[.slice A len cap] w fun e w'=> ∃A2 c2,e= .returned (.slice A2 len c2)∧Bytes w' A2 l∧Below w.heap.size w w'∧ ∀b off,A2=some ⟨b,off,none⟩→w.heap.size≤b:=by
 refine(clone_cap A l len cap w hb hL hmax).mono ?_
 rintro e w' ⟨A2,c2,rfl,h1,h2,h3⟩
 exact⟨A2,c2,rfl,h1,h2,h3.2.2.2⟩
def FieldTold (l:List Int)(a:Nat)(w:World)(e:Ending)(w':World):Prop:=
 ∃A m c,e= .returned (.tuple #[fieldV (bnum l a 2 3 0) (bnum l a 2 3 1) (bnum l a 2 3 2) A m c,.int .i64 (bcode l a 2 3)])∧Below w.heap.size w w'∧Bytes w' A (bpay l a 2 3)∧(bpay l a 2 3).length=m∧m≤1000000
theorem readField_any (A:Option Addr)(l:List Int)(n cap a:Nat)(w:World)(hb:Bytes w A l)(hL:l.length=n)(hn:n≤1000000)(hc:n≤cap)(hcm:cap≤maxLen)(ha:a≤18446744073709551615):
 Calls Tryz.prog 92 #[.slice A n cap,.int .u64 (a:Int)] w (FieldTold l a w):=by
 have b0:=Lib.hid ((Below.refl w.heap.size w).alloc (Nat.le_refl _) (.cells #[.int .u64 0,.int .u64 0,.int .u64 0,.slice none 0 0] 71))
 have R0:=Lib.hid (Blk.new w [.int .u64 0,.int .u64 0,.int .u64 0,.slice none 0 0] 71)
 have HBo:=Lib.hid (bodyOf_at A l n cap a 3 2 3 (w.alloc (.cells #[.int .u64 0,.int .u64 0,.int .u64 0,.slice none 0 0] 71)) (hb.below b0.out (Nat.le_refl _)) hL hn hc hcm ha (by decide) rfl)
 unfold Bodied at HBo
 have hbn: ∀i,bnum l a 2 3 i=if bcode l a 2 3=0 then u8 (bodyL l a) (8*i)else 0:=fun i=>rfl
 have hbp:bpay l a 2 3=if bcode l a 2 3=0 then(bodyL l a).drop (8*3)else []:=rfl
 unfold FieldTold
 by_cases h1:bcode l a 2 3≠0
 ·rw[if_neg h1]at hbp
  have hn0: ∀i,bnum l a 2 3 i=0:=fun i=>(hbn i).trans (if_neg h1)
  rw[hbp,hn0 0,hn0 1,hn0 2]
  clear hbp hbn hn0 hb hL
  generalize bcode l a 2 3=cd at*
  generalize bodyL l a=bd at*
  go_enter Tryz.func92,Tryz.ntmps92
  go_wp2_with(go_at_call 119;(with_reducible refine HBo.out.mono ?_);rintro e w2 ⟨B,m,cb,rfl,hbel,_⟩;have R2:=Lib.hid (R0.out.below hbel R0.out.lt);have ca0:=R2.out.cell (i:=0) rfl;have ca1:=R2.out.cell (i:=1) rfl;have ca2:=R2.out.cell (i:=2) rfl;have ca3:=R2.out.cell (i:=3) rfl;have fa0:=R2.out.frozen 0;have fa1:=R2.out.frozen 1;have fa2:=R2.out.frozen 2;have fa3:=R2.out.frozen 3;have HB2:=Lib.hid (b0.out.trans (hbel.mono b0.out.size));clear hbel)
  refine bodyPost_ret (v:= .tuple #[fieldV 0 0 0 none 0 0,.int .i64 cd]) (by simp[results_cell_tmp Tryz.results92,go_sem,ca0,fa0,ca1,fa1,ca2,fa2,ca3,fa3,Result.andThen]) rfl ⟨none,0,0,rfl,?_,Bytes.nil _ _,rfl,by omega⟩
  (repeat (first|(with_reducible exact HB2.out)|refine Below.setCell ?_ (by simp) _|refine Below.alloc ?_ (by simp) _|refine Below.drew ?_|refine below_drewN ?_ _))
 ·have h0:bcode l a 2 3=0:=by omega
  rw[if_pos h0]at hbp
  have hn0: ∀i,bnum l a 2 3 i=u8 (bodyL l a) (8*i):=fun i=>(hbn i).trans (if_pos h0)
  rw[h0]at HBo⊢
  rw[hbp]
  have HNu:=Lib.hid fun(i:Nat) (z:Int) (B:Option Addr) (m cb:Nat) (W:World) (hB:Bytes W B (bodyL l a)) (hm:(bodyL l a).length=m) (hm2:m≤1000000) (hz:z=(i:Int)) (hi:8*i+8≤m)=>hz▸(hn0 i).symm▸number_any B (bodyL l a) m cb i W hB hm hm2 hi
  have HDr:=Lib.hid fun(m:Nat) (hm:(bodyL l a).length=m)=>show((bodyL l a).drop (8*3)).length=m-24 by rw[List.length_drop,hm]
  clear hbp hbn hn0 hb hL h1 h0
  go_enter Tryz.func92,Tryz.ntmps92
  go_upto_region 4 with(go_at_call 119;(with_reducible refine HBo.out.mono ?_);rintro e w2 ⟨B,m,cb,rfl,hbel,hbd⟩)
  have R2:=Lib.hid (R0.out.below hbel R0.out.lt)
  have ca0:=R2.out.cell (i:=0) rfl
  have ca1:=R2.out.cell (i:=1) rfl
  have ca2:=R2.out.cell (i:=2) rfl
  have ca3:=R2.out.cell (i:=3) rfl
  have fa0:=R2.out.frozen 0
  have fa1:=R2.out.frozen 1
  have fa2:=R2.out.frozen 2
  have fa3:=R2.out.frozen 3
  have HB2:=Lib.hid (b0.out.trans (hbel.mono b0.out.size))
  obtain⟨d1,d2,d3,d4,d5,d6⟩:=hbd (by first|rfl|trivial)
  have D1:=Lib.hid d1
  have D2:=Lib.hid d2
  clear d1 d2 hbel hbd
  have hm8:24<m:=by omega
  have hmc:24≤m:=by omega
  have hcut: ∀W:World,(Instr.slice 23 (.slice B m cb) (some (.int .i64 24)) none none).run Tryz.prog W= .ok (.slice (cutA B cb 24) (m-24) (cb-24)) W:=fun W:World=>cut_l B m cb 24 (by omega) W
  have HC:=Lib.hid (Bytes.cut D1.out cb 24 (m-24) (by rw[D2.out];omega))
  rw[List.take_of_length_le (Nat.le_of_eq (by rw[List.length_drop,D2.out]))]at HC
  generalize cutA B cb 24=C at*
  go_region_held3 (fun w'=>True) (first|(with_reducible exact trivial)) (first
   |(go_at_call 120;(first|(with_reducible refine(HNu.out 0 0 _ _ _ _ D1.out.drew D2.out (by omega) rfl (by omega)).mono ?_)|(with_reducible refine(HNu.out 1 1 _ _ _ _ D1.out.drew D2.out (by omega) rfl (by omega)).mono ?_)|(with_reducible refine(HNu.out 2 2 _ _ _ _ D1.out.drew D2.out (by omega) rfl (by omega)).mono ?_));rintro e w' ⟨rfl,rfl⟩)
   |(go_at_call 68;(with_reducible refine(clone_new C _ (m-24) (cb-24) _ HC.out.drew (by rw[List.length_drop,D2.out]) (by omega)).mono ?_);rintro e w3 ⟨A3,c3,rfl,hb3,hbel3,ho3⟩;have HB3:=Lib.hid hb3;have HO3:=Lib.hid (show ∀b off,A3=some ⟨b,off,none⟩→b≠w.heap.size from fun b off e hh=>by have h1:=ho3 b off e;have h2:=R2.out.lt;have h3:w2.drew.heap.size=w2.heap.size:=rfl;omega);have HBel3:=Lib.hid (HB2.out.drew.trans (hbel3.mono HB2.out.size));have R3:=Lib.hid (R2.out.drew.below hbel3 R2.out.lt);have cb0:=R3.out.cell (i:=0) rfl;have cb1:=R3.out.cell (i:=1) rfl;have cb2:=R3.out.cell (i:=2) rfl;have cb3:=R3.out.cell (i:=3) rfl;have fb0:=R3.out.frozen 0;have fb1:=R3.out.frozen 1;have fb2:=R3.out.frozen 2;have fb3:=R3.out.frozen 3;clear hb3 hbel3))
  obtain⟨W4,hW4⟩: ∃x,x=((((w3.setCell ⟨w.heap.size,0,none⟩ (.int .u64 (bnum l a 2 3 0))).setCell ⟨w.heap.size,1,none⟩ (.int .u64 (bnum l a 2 3 1))).setCell ⟨w.heap.size,2,none⟩ (.int .u64 (bnum l a 2 3 2))).setCell ⟨w.heap.size,3,none⟩ (.slice A3 (m-24) c3)):=⟨_,rfl⟩
  have R4:Hid (Blk W4 w.heap.size [.int .u64 (bnum l a 2 3 0),.int .u64 (bnum l a 2 3 1),.int .u64 (bnum l a 2 3 2),.slice A3 (m-24) c3] 71):=Lib.hid (hW4▸((((R3.out.set_ 0 _).set_ 1 _).set_ 2 _).set_ 3 _))
  have HB4:Hid (Below w.heap.size w W4):=Lib.hid (hW4▸(Below.setCell (Below.setCell (Below.setCell (Below.setCell HBel3.out (Nat.le_refl _) _) (Nat.le_refl _) _) (Nat.le_refl _) _) (Nat.le_refl _) _))
  have HY4:Hid (Bytes W4 A3 _):=Lib.hid (hW4▸(bytes_far (bytes_far (bytes_far (bytes_far HB3.out HO3.out _ _) HO3.out _ _) HO3.out _ _) HO3.out _ _))
  rw[←hW4]
  have e0:=R4.out.cell (i:=0) rfl;have e1:=R4.out.cell (i:=1) rfl;have e2:=R4.out.cell (i:=2) rfl;have e3:=R4.out.cell (i:=3) rfl
  clear hW4
  go_wp2
  refine bodyPost_ret (v:= .tuple #[fieldV (bnum l a 2 3 0) (bnum l a 2 3 1) (bnum l a 2 3 2) A3 (m-24) c3,.int .i64 0]) (by simp[results_cell_tmp Tryz.results92,go_sem,e0,e1,e2,e3,Result.andThen]) rfl ⟨A3,m-24,c3,rfl,HB4.out,HY4.out,by rw[List.length_drop,D2.out],by omega⟩
end Ok7
namespace Yd
open Bytes8 Yp
theorem isTable_any (k:Int)(w:World):Calls Tryz.prog 210 #[.int .i64 k] w fun e w'=>e= .returned (.bool (isTab k))∧w=w':=by
 have h2:isTab k=(k==4||k==5):=rfl
 by_cases h:k=4
 ·subst h
  go_enter Tryz.func210,Tryz.ntmps210
  go_wp2
  go_ret
  exact⟨ret_bool h2.symm,rfl⟩
 ·go_enter Tryz.func210,Tryz.ntmps210
  go_wp2
  go_ret
  exact⟨ret_bool h2.symm,rfl⟩
end Yd
namespace Ye
open Bytes8 Blk8 Own8 OwnE Kf Yc
def Part2 (w:World)(g m k:Nat)(f h:Nat→Int)(T:TypeId):Prop:=
 ∃vs:List Value,Blk w g vs T∧vs.length=m*2∧ ∀i,i<k→vs[i*2]? =some (.int .u64 (f i))∧vs[i*2+1]? =some (.int .u64 (h i))
theorem Part2.new (w:World)(m:Nat)(f h:Nat→Int)(T:TypeId):Part2 (w.alloc (.cells (Array.replicate (m*2) (Value.int .u64 0)) T)) w.heap.size m 0 f h T:=
 ⟨List.replicate (m*2) (.int .u64 0),by have:=Blk.new w (List.replicate (m*2) (.int .u64 0)) T;simpa using this,by simp,fun i hi=>absurd hi (by omega)⟩
theorem Part2.cells {w:World}{g m k:Nat}{f h:Nat→Int}{T:TypeId}(hp:Part2 w g m k f h T)(hk:k<m):(∃u v,w.cell? ⟨g,k*2,none⟩=some u∧w.cell? ⟨g,k*2+1,none⟩=some v)∧w.frozen? ⟨g,k*2,none⟩=false∧w.frozen? ⟨g,k*2+1,none⟩=false:=by
 obtain⟨vs,hb,hl,_⟩:=hp
 exact⟨⟨vs[k*2],vs[k*2+1],hb.cell (List.getElem?_eq_getElem (by omega)),hb.cell (List.getElem?_eq_getElem (by omega))⟩,hb.frozen _,hb.frozen _⟩
theorem Part2.step {w:World}{g m k:Nat}{f h:Nat→Int}{T:TypeId}(hp:Part2 w g m k f h T)(hk:k<m):Part2 ((w.setCell ⟨g,k*2,none⟩ (.int .u64 (f k))).setCell ⟨g,k*2+1,none⟩ (.int .u64 (h k))) g m (k+1) f h T:=by
 obtain⟨vs,hb,hl,hv⟩:=hp
 refine⟨_,(hb.set_ (k*2) _).set_ (k*2+1) _,by simp[hl],fun i hi=>?_⟩
 rcases Nat.lt_or_ge i k with h1|h1
 ·obtain⟨e1,e2⟩:=hv i h1
  rw[List.getElem?_set,List.getElem?_set,List.getElem?_set,List.getElem?_set,if_neg (by omega),if_neg (by omega),if_neg (by omega),if_neg (by omega)]
  exact⟨e1,e2⟩
 ·obtain rfl:i=k:=by omega
  rw[List.getElem?_set,List.getElem?_set,List.getElem?_set,if_neg (by omega),if_pos rfl,if_pos (by omega),if_pos rfl,if_pos (by simp;omega)]
  exact⟨rfl,rfl⟩
theorem Part2.in2 {w:World}{g m:Nat}{f h:Nat→Int}{T:TypeId}(hp:Part2 w g m m f h T)(hf: ∀i,0≤f i∧f i≤18446744073709551615)(hh: ∀i,0≤h i∧h i≤18446744073709551615):In2 w (some ⟨g,0,none⟩) m f h:=fun i hi=>by
 obtain⟨vs,hb,hl,hv⟩:=hp
 obtain⟨e1,e2⟩:=hv i hi
 exact⟨g,0,rfl,hb.lt,by rw[Nat.zero_add];exact hb.cell e1,by rw[Nat.zero_add];exact hb.cell e2,hf i,hh i⟩
theorem slotInfo:(Tryz.prog.info? 140).map (fun i=>(i.zero,i.size,i.bytes))=some (some (.agg #[.int .u64 0,.int .u64 0]),2,16):=by kernel_rfl
theorem made_two (p:Nat):madeCells #[Value.int .u64 0,Value.int .u64 0] (p*2)=Array.replicate (p*2) (Value.int .u64 0):=by
 apply Array.ext
 ·simp[madeCells]
 ·intro i h1 h2
  simp only[madeCells,Array.getElem_map,Array.getElem_range,Array.getElem_replicate]
  have:i%2=0∨i%2=1:=by omega
  rcases this with h|h<;>simp[h]
theorem make_two (S T:TypeId)(ht:Tryz.prog.underlying S=some (.slice T))(hinfo:(Tryz.prog.info? T).map (fun i=>(i.zero,i.size,i.bytes))=some (some (.agg #[.int .u64 0,.int .u64 0]),2,16))(p:Nat)(z:Int)(hz:z=(p:Int))(hp:p≤1000000)(w:World):
 (Instr.makeSlice S (.int .i64 z) (.int .i64 z)).run Tryz.prog w= .ok (.slice (some ⟨w.heap.size,0,none⟩) p p) (w.alloc (.cells (Array.replicate (p*2) (Value.int .u64 0)) T)):=by
 subst hz
 obtain⟨i,hi,hzz⟩:=Option.map_eq_some_iff.1 hinfo
 simp only[Prod.mk.injEq]at hzz
 obtain⟨hz,hs,hb⟩:=hzz
 have h:=run_make (P:=Tryz.prog) w S T i _ ht hi hz .i64 .i64 (p:Int) (p:Int) (by omega) (Int.le_refl _) (by rw[hb];omega) (by omega)
 rw[hs,Int.toNat_natCast]at h
 rw[h]
 show Result.ok _ (w.alloc (.cells (madeCells #[Value.int .u64 0,Value.int .u64 0] (p*2)) T))=_
 rw[made_two]
end Ye
namespace Yg
open Yc
theorem in2_none (w:World)(A:Option Addr)(f h:Nat→Int):In2 w A 0 f h:=fun i hi=>absurd hi (by omega)
attribute [local go_sem ↓] st_fold
end Yg
namespace Yh
open Bytes8 Blk8 Own8 OwnE Ob Rows2 Kf Yc Yp Yd Ye Yg
def taNum (l:List Int)(a:Nat)(k:Int):Nat:=if tabC l a k=0 then taN (bodyL l a)else 0
def TabTold (l:List Int)(a:Nat)(k:Int)(w:World)(e:Ending)(w':World):Prop:=
 ∃A c,e= .returned (.tuple #[.slice A (taNum l a k) c,.int .i64 (tabC l a k)])∧Below w.heap.size w w'∧In2 w' A (taNum l a k) (taA (bodyL l a)) (taB (bodyL l a))
theorem readTable_e (A:Option Addr)(l:List Int)(n cap a:Nat)(kd:Int)(w:World)(hb:Bytes w A l)(hL:l.length=n)(hn:n≤1000000)(hc:n≤cap)(hcm:cap≤maxLen)(ha:a≤18446744073709551615):
 Calls Tryz.prog 184 #[.slice A n cap,.int .u64 (a:Int),.int .i64 kd] w (TabTold l a kd w):=by
 have HT:=Lib.hid fun W=>isTable_any kd W
 have HBo:=Lib.hid (bodyOf_z A l n cap a 0 16 kd 0 16 w hb hL hn hc hcm ha (by decide) (by decide) (by decide) (by decide) rfl rfl)
 unfold Bodied2 at HBo
 have HAb:=Lib.hid (body_all (a:=a) hb.1)
 have hcd:tabC l a kd=if isTab kd then ecode l a kd 0 16 else 1:=rfl
 have hno:tabC l a kd≠0→taNum l a kd=0:=fun h=>if_neg h
 have hyes:tabC l a kd=0→taNum l a kd=taN (bodyL l a):=fun h=>if_pos h
 cases hk:isTab kd with
 |false=>
  rw[hk]at hcd HT
  have HCe:=Lib.hid (show tabC l a kd=1 from hcd)
  have HF:=Lib.hid (hno (by rw[HCe.out];decide))
  clear hcd hno hyes hk hb hL
  go_enter Tryz.func184,Tryz.ntmps184
  go_wp2_with(go_at_call 210;(with_reducible refine(HT.out _).mono ?_);rintro e w' ⟨rfl,rfl⟩)
  refine bodyPost_ret (v:= .tuple #[.slice none 0 0,.int .i64 1]) (by simp[results,Tryz.results184,go_sem,Result.andThen]) rfl ?_
  unfold TabTold
  rw[HCe.out,HF.out]
  exact⟨none,0,rfl,Below.refl _ _,in2_none _ _ _ _⟩
 |true=>
  rw[hk]at hcd HT
  have hcd':tabC l a kd=ecode l a kd 0 16:=hcd
  by_cases h1:ecode l a kd 0 16≠0
  ·have HCe:=Lib.hid hcd'
   have HF:=Lib.hid (hno (by rw[hcd'];exact h1))
   have HX:=Lib.hid h1
   clear hcd hcd' hno hyes hk hb hL
   generalize ecode l a kd 0 16=cd at*
   go_enter Tryz.func184,Tryz.ntmps184
   go_wp2_with(first
    |(go_at_call 210;(with_reducible refine(HT.out _).mono ?_);rintro e w' ⟨rfl,rfl⟩)
    |(go_at_call 211;(with_reducible refine HBo.out.mono ?_);rintro e w2 ⟨B,m,cb,rfl,hbel,_⟩;have HB2:=Lib.hid hbel;clear hbel))
   refine bodyPost_ret (v:= .tuple #[.slice none 0 0,.int .i64 cd]) (by simp[results,Tryz.results184,go_sem,Result.andThen]) rfl ?_
   unfold TabTold
   rw[HCe.out,HF.out]
   exact⟨none,0,rfl,HB2.out,in2_none _ _ _ _⟩
  ·have h0:ecode l a kd 0 16=0:=by omega
   obtain⟨_,_,hlen,hmod,hln⟩:=ecode_there hL h0
   rw[h0]at HBo hcd'
   have HCe:=Lib.hid hcd'
   have HF:=Lib.hid (hyes hcd')
   have HNu:=Lib.hid fun(i:Nat) (z:Int) (B:Option Addr) (m cb:Nat) (W:World) (hB:Bytes W B (bodyL l a)) (hm:(bodyL l a).length=m) (hz:z=(i:Int)) (hi:i+8≤m)=>number_e B (bodyL l a) m cb i z W hB hm (by omega) hi hz
   have HM:=Lib.hid fun(m:Nat) (hm:(bodyL l a).length=m)=>show 16≤m∧m≤1000000∧taN (bodyL l a)=m/16 from⟨by omega,by omega,by unfold taN;rw[hm]⟩
   clear hcd hcd' hno hyes hk hb hL h1 h0 hlen hmod hln
   generalize hbd0:bodyL l a=bd at*
   have HBD:=Lib.hid hbd0
   clear hbd0
   go_enter Tryz.func184,Tryz.ntmps184
   go_upto_region 6 with(first
    |(go_at_call 210;(with_reducible refine(HT.out _).mono ?_);rintro e w' ⟨rfl,rfl⟩)
    |(go_at_call 211;(with_reducible refine HBo.out.mono ?_);rintro e w2 ⟨B,m,cb,rfl,hbel,hbd⟩))
   obtain⟨d1,d2,d3,d4,d5⟩:=hbd (by first|rfl|trivial)
   have HB2:=Lib.hid hbel
   have D1:=Lib.hid d1
   have D2:=Lib.hid d2
   obtain⟨hm16,hmx,htn⟩:=HM.out m d2
   obtain⟨t,ht⟩: ∃t,t=m/16:=⟨_,rfl⟩
   rw[←ht]at htn
   have hq:(m:Int).tdiv 16=(t:Int):=by rw[Int.tdiv_eq_ediv_of_nonneg (by omega)];omega
   have hq2:(m:Int)/16=(t:Int):=by omega
   have hmk:=make_two 132 140 Tryz.underlying132 slotInfo t (t:Int) rfl (by omega)
   have P0:=Lib.hid (Part2.new w2 t (taA bd) (taB bd) 140)
   have B0:=Lib.hid ((Below.refl w2.heap.size w2).alloc (Nat.le_refl _) (.cells (Array.replicate (t*2) (Value.int .u64 0)) 140))
   have HTN:=Lib.hid htn
   have h16:16*t≤m:=by omega
   clear d1 d2 hbel hbd htn ht
   go_wp2_with fail
   go_loopw [31] (fun i wr=> ∃k:Nat,k≤t∧i= .int .i64 (k:Int)∧Hid (Part2 wr w2.heap.size t k (taA bd) (taB bd) 140)∧Hid (Below w2.heap.size w2 wr)) (fun i _=>t-(intOf i).toNat)
   case atStart=>exact⟨0,Nat.zero_le _,rfl,P0,B0⟩
   case round=>
    obtain⟨k,hk,rfl,hp,hb⟩:=hrel
    by_cases hlt:k<t
    ·obtain⟨⟨v1,v2,c1,c2⟩,f1,f2⟩:=hp.out.cells hlt
     have HS:=Lib.hid (hp.out.step hlt)
     have hp1:taA bd k=u8 bd (16*k):=rfl
     have hp2:taB bd k=u8 bd (16*k+8):=rfl
     rw[hp1,hp2]at HS
     have Dr:=Lib.hid (D1.out.below hb.out (Nat.le_refl _))
     go_wp2_with(first
      |(go_at_call 212;(with_reducible refine(HNu.out (16*k) _ _ _ _ _ Dr.out D2.out (by omega) (by omega)).mono ?_);rintro e w' ⟨rfl,rfl⟩)
      |(go_at_call 212;(with_reducible refine(HNu.out (16*k+8) _ _ _ _ _ Dr.out D2.out (by omega) (by omega)).mono ?_);rintro e w' ⟨rfl,rfl⟩))
     go_roundw
     case rel=>exact⟨k+1,by omega,by go_num,HS,Lib.hid ((hb.out.setCell (Nat.le_refl _) _).setCell (Nat.le_refl _) _)⟩
     case measure=>simp[intOf];omega
    ·obtain rfl:k=t:=by omega
     have HI:=Lib.hid (hp.out.in2 (fun i=>u8_bd HAb.out _) (fun i=>u8_bd HAb.out _))
     go_wp2
     refine bodyPost_ret (v:= .tuple #[.slice (some ⟨w2.heap.size,0,none⟩) k k,.int .i64 0]) (by simp[results,Tryz.results184,go_sem,Result.andThen]) rfl ?_
     unfold TabTold
     rw[HCe.out,HF.out,HTN.out,HBD.out]
     exact⟨_,k,rfl,HB2.out.trans (hb.out.mono HB2.out.size),HI.out⟩
end Yh
namespace Zj
open Bytes8 Ya Ga Ma Mb Mg Na Nb Nc Nh Nl Np Ns Nt Nu Fa Yd Yc Za Zb Zc Zd Ze Zg Pr8 Pl8
theorem kept_recs {m:Mk}{rs:List RR}(h:Nu.Reach m rs): ∃os hs mi es,Kept m rs.length os hs mi es∧Recs m rs es:=by
 induction h with
 |mk h after ha=>
  refine⟨_,_,_,_,⟨hold_mk h after,new_good h after ha,rfl,rfl,rfl,List.Pairwise.nil,(fun x hx=>absurd hx List.not_mem_nil),rfl⟩,⟨rfl,rfl,fun i hi=>?_,?_,?_,(fun x hx=>absurd hx List.not_mem_nil),fun i hi=>absurd hi (Nat.not_lt_zero i)⟩⟩
  ·show hdI3 _ i=_
   unfold hdI3
   rw[if_pos hi]
   rfl
  ·show((0:Nat):Int)≤(hdN _ after).N 9
   rw[show(hdN _ after).N 9=after from setN_same _ _ _]
   exact ha.1
  ·show(hdN _ after).N 9≤_
   rw[show(hdN _ after).N 9=after from setN_same _ _ _]
   exact ha.2
 |step h L hP real mono K hr hm hK h0 ih=>
  rename_i m rs
  obtain⟨os,hs,mi,es,k,q⟩:=ih
  have ga:=after_good k.good hP real mono K hr hm hK
  have h1:listE L=0:=by
   unfold Mk.acode at h0
   by_cases h1:listE L=0
   ·exact h1
   ·rw[if_pos h1]at h0;exact absurd h0 h1
  have h9:m.h.N 9≠18446744073709551615:=fun h9=>by
   unfold Mk.acode at h0
   rw[if_neg (by simpa using h1),if_pos h9]at h0
   cases h0
  have ok:=prOk_list hP h1
  have hml:=k.good.img.len
  have hbl:m.b.length≤900000:=by omega
  obtain⟨wd1,wp1,ws1⟩:=who_all k.hold k.good.img.inv (listL L) ok hbl (list_nodup h1) (listL L).length (Nat.le_refl _)
  obtain⟨i1,i2,i3,i4,i5⟩:=inv_dataAll k.good.img.inv (listL L) ok.all (listL L).length (Nat.le_refl _)
  rw[List.take_length]at wd1 wp1 ws1 i3
  obtain⟨o2,H,h11,hle,hlt⟩:=hold_grown k.hold k.good.img.inv (by rw[k.n8,k.len]) ok k.good.img.len real mono K hK
  have e8:=entered_n8 k.good.img.inv k.good.img.hg (listL L) ok.all ok.len k.good.img.len real mono K hr hm hK h9
  have hA:Mk.after m L real mono K=Mk.entered m (listL L) real mono K:=by unfold Mk.after;rw[if_pos h0]
  rw[hA]at ga⊢
  have hb:(Mk.entered m (listL L) real mono K).b=(Mk.grown m (listL L) real mono K).b:=rfl
  have hbd: ∀x∈mi++ [(Mk.dataAll m (listL L)).1.b.length],304≤x∧x<(Mk.grown m (listL L) real mono K).b.length:=fun x hx=>by
   rcases List.mem_append.1 hx with h2|h2
   ·have:=k.bd x h2;omega
   ·rw[List.mem_singleton]at h2
    have:=k.good.img.inv.len
    omega
  have H2:=hold_told H (m.h.N 8).toNat (m.h.N 9+1) real mono K (Mk.dataAll m (listL L)).1.b.length
  have dgA:DG (Mk.dataAll m (listL L)).1 (Mk.entered m (listL L) real mono K):=
   ((dg_object _ _).trans (dg_linked _ _ _)).trans ((dg_markAll _ _ _).trans (dg_told _ _ _ _ _ _ _))
  have dgM:DG m (Mk.entered m (listL L) real mono K):=wd1.trans dgA
  have hN9:(Mk.entered m (listL L) real mono K).h.N 9=m.h.N 9+1:=by
   show(Mk.told _ _ _ _ _ _ _).h.N 9=_
   rw[told_N _ _ _ _ _ _ _ _ (by decide),if_neg (by decide),if_neg (by decide),if_pos rfl]
  have hqb:=q.base
  have hqt:=q.top
  refine⟨o2,_,_,_,⟨H2,ga,?_,?_,?_,?_,hbd,?_⟩,⟨?_,?_,fun i hi=>?_,?_,?_,?_,?_⟩⟩
  ·rw[e8,k.n8,List.length_append];rfl
  ·rw[List.length_append,List.length_append,k.len];rfl
  ·show(Mk.told _ _ _ _ _ _ _).h.N 11=((Mk.told _ _ _ _ _ _ _).main.headD 0:Nat)
   rw[told_N _ _ _ _ _ _ _ _ (by decide),if_neg (by decide),if_neg (by decide),if_neg (by decide),if_neg (by omega),if_neg (by omega)]
   exact h11
  ·rw[List.pairwise_append]
   refine⟨k.rise,by simp,fun a ha2 b hb2=>?_⟩
   rw[List.mem_singleton]at hb2
   have:=k.bd a ha2
   omega
  ·rw[List.map_append,k.ent];rfl
  ·rw[List.length_append,List.length_append,q.len];rfl
  ·rw[dgM.ic,dgM.C];exact q.ic
  ·rw[dgM.I i hi,dgM.C];exact q.I i hi
  ·rw[hN9,List.length_append,List.length_singleton];push_cast;omega
  ·rw[hN9];omega
  ·intro r hr2
   rcases List.mem_append.1 hr2 with h2|h2
   ·exact q.ok r h2
   ·rw[List.mem_singleton]at h2
    subst h2
    exact⟨h1,hP,hr,hm,hK⟩
  ·intro i hi hi2
   rw[hN9,List.length_append,List.length_singleton]
   by_cases hlast:i<rs.length
   ·rw[List.getElem_append_left hlast,List.getElem_append_left (by have:=q.len;omega)]
    have h3:=(q.ent i hlast (by have:=q.len;omega)).dg dgM
    rw[show m.h.N 9+1-((rs.length+1:Nat):Int)+(i:Int)+1=m.h.N 9-(rs.length:Int)+(i:Int)+1 by push_cast;omega]
    exact h3
   ·have hi3:i=rs.length:=by rw[List.length_append,List.length_singleton]at hi;omega
    subst hi3
    have hl:=q.len
    rw[List.getElem_append_right (Nat.le_refl _),List.getElem_append_right (by omega)]
    have h4:EntR (Mk.dataAll m (listL L)).1 (m.h.N 9+1) (L,real,mono,K) (entB (m.h.N 9+1) real mono K ((xr ((listL L).map fun q=>pay q.1 q.2):Nat):Int) (prs (fun i=>((Mk.kn (Mk.dataAll m (listL L)).1 ((Mk.dataAll m (listL L)).2.getD i 0)).at_:Int)) (fun i=>Mk.sum (Mk.dataAll m (listL L)).1 (Mk.kn (Mk.dataAll m (listL L)).1 ((Mk.dataAll m (listL L)).2.getD i 0)).text) (Mk.dataAll m (listL L)).2.length)):=
     ⟨_,i3,ws1,wp1,rfl⟩
    have h5:=h4.dg dgA
    rw[show m.h.N 9+1-((rs.length+1:Nat):Int)+(rs.length:Int)+1=m.h.N 9+1 by push_cast;omega]
    simpa using h5
end Zj
namespace Rf
open Bytes8 Blk8 Own8 OwnE Rows2 Ob Ga Gb Gi Oj Ok7 Rc Rd
open Re (bytes_code res_row_cell load_code)
theorem caught_idle (g3:Nat)(w:World):CallsD Tryz.prog 147 #[.pointer (some ⟨g3,0,none⟩)] .returning w fun e u' w'=>e= .returned (.tuple #[])∧u'= .returning∧w'=w:=by
 refine callsD_of_wpS Tryz.func147 rfl fun c₀ cs hu=>?_
 apply wpS_seq
 apply wpS_region
 simp[wpOpsS,go_sem,recoverD,hu,Tryz.ntmps147,Exit.thenS]
 refine wpS_of_wp ?_
 go_wp2
 cases c₀
 simp_all[bodyPostS,results,Tryz.results147]
theorem caught_halt (g3:Nat)(c y:Int)(older:List PanicEntry)(w:World)(h:Blk w g3 [.int .i64 y] 3):CallsD Tryz.prog 147 #[.pointer (some ⟨g3,0,none⟩)] (.panicking ({v:= .iface 230 (.int .i64 c),recovered:=false}::older)) w fun e u' w'=>e= .returned (.tuple #[])∧u'= .panicking ({v:= .iface 230 (.int .i64 c),recovered:=true}::older)∧w'=w.setCell ⟨g3,0,none⟩ (.int .i64 c):=by
 have c0:=h.cell (i:=0) rfl
 have z0:=h.frozen 0
 have hta: ∀w:World,(Instr.typeAssert (.iface 230 (.int .i64 c)) 20 230 true).run Tryz.prog w= .ok (.tuple #[.int .i64 c,.bool true]) w:=fun _=>by kernel_rfl
 refine callsD_of_wpS Tryz.func147 rfl fun c₀ cs hu=>?_
 apply wpS_seq
 apply wpS_region
 simp[wpOpsS,go_sem,recoverD,hu,Tryz.ntmps147,Exit.thenS]
 refine wpS_of_wp ?_
 go_wp2
 cases c₀
 simp_all[bodyPostS,results,Tryz.results147]
abbrev fz:Array Value:= #[.int .u64 0,.int .u64 0,.int .u64 0,.slice none 0 0]
theorem bytes_apart {w:World}{A:Option Addr}{l:List Int}{s:Nat}(h:Bytes w A l)(hs:w.heap[s]? =some (.cells fz 71 (0,0)))(cs:Array Value):Bytes (w.setRow s cs) A l:=by
 refine⟨h.1,fun i hi=>?_⟩
 obtain⟨b,off,e,hb,hc⟩:=h.2 i hi
 have hne:b≠s:=by
  intro he
  subst he
  rw[World.cell?,hs]at hc
  dsimp only at hc
  have hk:fz[off+i]? =some (.int .u8 (l.getD i 0)):=by simpa using hc
  have hlt:off+i<4:=by
   rcases Nat.lt_or_ge (off+i) 4 with h1|h1
   ·exact h1
   ·rw[Array.getElem?_eq_none (by simpa using h1)]at hk;cases hk
  generalize off+i=k at*
  rcases k with _|_|_|_|_|_|_|k
  all_goals first|(simp at hk)|omega
 exact⟨b,off,e,by simpa using hb,(World.cell?_of_block (setRow_other w s b cs hne)).trans hc⟩
attribute [local irreducible] wpList Code.wp
theorem got_no (a b c:Int)(A:Option Addr)(n k:Nat)(cd:Int)(h0:cd≠0)(w:World):Calls Tryz.prog 91 #[fieldV a b c A n k,.int .i64 cd] w fun e w'=>e= .panicked [haltE cd]∧Below w.heap.size w w':=by
 have HN:=Lib.hid (need_no cd)
 have d0:(cd==0)=false:=by simpa using h0
 have b2:=Lib.hid (((Below.refl w.heap.size w).alloc (Nat.le_refl _) (.cells #[.int .u64 a,.int .u64 b,.int .u64 c,.slice A n k] 71)).alloc (by simp) (.cells fz 71))
 go_enter Tryz.func91,Tryz.ntmps91
 go_wp2_with(first
  |(go_at_call 148;(refine(HN.out _).mono ?_);rintro e w1 ⟨rfl,rfl⟩)
  |fail)
 exact⟨rfl,rfl,b2.out⟩
theorem got_yes (a b c:Int)(A:Option Addr)(n k:Nat)(w:World):Calls Tryz.prog 91 #[fieldV a b c A n k,.int .i64 0] w fun e' w'=>e'= .returned (fieldV a b c A n k)∧Below w.heap.size w w':=by
 have HN:=Lib.hid (need_yes 0)
 go_enter Tryz.func91,Tryz.ntmps91
 go_wp2_with(first
  |(go_at_call 148;(refine(HN.out _).mono ?_);rintro e w1 ⟨rfl,rfl⟩)
  |fail)
 refine bodyPost_ret (v:=fieldV a b c A n k) (by exact results_cell_row Tryz.results91 _ _ (w.heap.size+1) 71 _ (0,0) _ rfl (heap_alloc2_new w _ _) Tryz.underlying71 rfl (by kernel_rfl)) rfl ?_
 exact⟨rfl,((Below.refl w.heap.size w).alloc (Nat.le_refl _) _).alloc (by simp) _⟩
def fcode (h:HD)(l:List Int)(n a:Nat):Int:=if h.N 0≤(a:Int)∧a<n then bcode l a 2 3 else 2
def ReadF (l:List Int)(a:Nat)(cd:Int)(e:Ending)(w':World):Prop:=
 (cd≠0∧e= .panicked [haltE cd])∨(cd=0∧ ∃A' m' c',e= .returned (fieldV (bnum l a 2 3 0) (bnum l a 2 3 1) (bnum l a 2 3 2) A' m' c')∧Bytes w' A' (bpay l a 2 3)∧(bpay l a 2 3).length=m'∧m'≤1000000)
theorem bytes_off {w:World}{A:Option Addr}{l:List Int}{g:Nat}{vs:List Value}{T:TypeId}(h:Bytes w A l)(hg:Blk w g vs T)(hv: ∀(k:Nat) (x:Int),vs[k]? ≠some (.int .u8 x))(i:Nat)(v:Value):Bytes (w.setCell ⟨g,i,none⟩ v) A l:=by
 refine⟨h.1,fun j hj=>?_⟩
 obtain⟨b,off,e,hb,hc⟩:=h.2 j hj
 have hne:b≠g:=by
  intro he
  subst he
  have hgg:w.heap[b]? =some (.cells vs.toArray T (0,0)):=hg
  rw[World.cell?,hgg]at hc
  dsimp only at hc
  exact hv (off+j) _ (by simpa using hc)
 exact⟨b,off,e,by simpa using hb,(World.cell?_of_block (Below.heap_setCell w ⟨g,i,none⟩ v b hne)).trans hc⟩
theorem no_u8 (x0 x1 x2:Value)(h0: ∃y,x0= .int .u64 y)(h1: ∃y,x1= .int .u64 y)(h2: ∃y,x2= .int .u64 y)(B:Option Addr)(m c:Nat)(k:Nat)(x:Int): [x0,x1,x2,.slice B m c][k]? ≠some (.int .u8 x):=by
 obtain⟨y0,rfl⟩:=h0;obtain⟨y1,rfl⟩:=h1;obtain⟨y2,rfl⟩:=h2
 rcases k with _|_|_|_|k<;>simp
theorem vfield_cl {gv:Nat}{h:HD}{A:Option Addr}{n c:Nat}{l:List Int}(a:Nat)(g2 g3:Nat)(w:World)(v:ViewAt w gv h A n c l)(hcm:c≤maxLen)(H2:Blk w g2 [.pointer (some ⟨gv,0,none⟩)] 27)(H3:Blk w g3 [.int .u64 (a:Int)] 40):
 Calls Tryz.prog 90 #[.pointer (some ⟨g2,0,none⟩),.pointer (some ⟨g3,0,none⟩)] w fun e w'=>Below w.heap.size w w'∧ReadF l a (fcode h l n a) e w':=by
 have b1:=Lib.hid ((Below.refl w.heap.size w).alloc (Nat.le_refl _) (.cells fz 71))
 have v1:=v.below b1.out
 have v1d:ViewAt (w.alloc (.cells fz 71)).drew gv h A n c l:=⟨v1.blk,v1.by_,v1.len,v1.cap,v1.big,v1.ok⟩
 have b1d:=Lib.hid b1.out.drew
 have G2:=Lib.hid (H2.alloc (.cells fz 71))
 have G3:=Lib.hid (H3.alloc (.cells fz 71))
 have s2:=Lib.hid G2.out.lt
 have s3:=Lib.hid G3.out.lt
 have Z1:=Lib.hid (heap_alloc_new w (.cells fz 71))
 have s1:=Lib.hid (show w.heap.size<(w.alloc (.cells fz 71)).heap.size by simp)
 have l2:=Lib.hid (Nat.ne_of_lt H2.lt)
 have l3:=Lib.hid (Nat.ne_of_lt H3.lt)
 by_cases hin:h.N 0≤(a:Int)∧a<n
 ·have HF:=Lib.hid (from_yes (a:Int) _ v1d hin.1 (by omega))
  have HR:=Lib.hid (readField_any A l n c a _ v1d.by_ v1.len v1.big v1.cap hcm (by have:=v1.big;omega))
  unfold FieldTold at HR
  unfold ReadF fcode
  rw[if_pos hin]
  generalize bnum l a 2 3 0=x0 at*
  generalize bnum l a 2 3 1=x1 at*
  generalize bnum l a 2 3 2=x2 at*
  generalize bcode l a 2 3=cd at*
  generalize bpay l a 2 3=pl at*
  clear v v1 v1d hin H2 H3
  go_enter Tryz.func90,Tryz.ntmps90
  go_upto_region 1 with fail
  generalize w.alloc (.cells fz 71)=w1 at*
  have t2:=G2.out.cell (i:=0) rfl
  have t3:=G3.out.cell (i:=0) rfl
  by_cases hz:cd=0
  ·subst hz
   go_region_held3 (fun W=>W.cell? ⟨g2,0,none⟩=some (.pointer (some ⟨gv,0,none⟩))∧W.cell? ⟨g3,0,none⟩=some (.int .u64 (a:Int))) (first|(with_reducible exact⟨t2,t3⟩)|(with_reducible exact⟨u2,u3⟩)|(with_reducible exact⟨p2,p3⟩)|(with_reducible exact⟨q2,q3⟩)|go_keep) (first
    |(go_at_call 93;(refine HF.out.mono ?_);rintro e wf ⟨rfl,rfl⟩)
    |(go_at_call 92;(refine HR.out.mono ?_);rintro e w2 ⟨A2,m2,c2',rfl,hb2,hy2,hl2,hm2⟩;have B2:=Lib.hid (b1d.out.trans (hb2.mono b1d.out.size));have ZZ2:=Lib.hid ((hb2.block _ s1.out).trans Z1.out);have HY2:=Lib.hid hy2;have U2:=Lib.hid (G2.out.drew.below hb2 s2.out);have U3:=Lib.hid (G3.out.drew.below hb2 s3.out);have u2:=U2.out.cell (i:=0) rfl;have u3:=U3.out.cell (i:=0) rfl;have B2s:=Lib.hid hb2.size;clear hb2 hy2)
    |(go_at_call 91;(refine(got_yes x0 x1 x2 A2 m2 c2' w2).mono ?_);rintro e w3 ⟨rfl,hb3⟩;have B3:=Lib.hid (B2.out.trans (hb3.mono B2.out.size));have HY3:=Lib.hid (HY2.out.below hb3 (Nat.le_refl _));have P2:=Lib.hid (U2.out.below hb3 U2.out.lt);have P3:=Lib.hid (U3.out.below hb3 U3.out.lt);have p2:=P2.out.cell (i:=0) rfl;have p3:=P3.out.cell (i:=0) rfl;have Z3:=Lib.hid ((hb3.block _ (Nat.lt_of_lt_of_le s1.out B2s.out)).trans ZZ2.out);have R3:=Lib.hid (show Blk w3 w.heap.size [.int .u64 0,.int .u64 0,.int .u64 0,.slice none 0 0] 71 from Z3.out);have e0:=R3.out.cell (i:=0) rfl;have z0:=R3.out.frozen 0;have e1:=R3.out.cell (i:=1) rfl;have z1:=R3.out.frozen 1;have e2:=R3.out.cell (i:=2) rfl;have z2:=R3.out.frozen 2;have e3:=R3.out.cell (i:=3) rfl;have z3:=R3.out.frozen 3;have q2:=((((P2.out.far (p:=⟨w.heap.size,0,none⟩) l2.out (.int .u64 x0)).far (p:=⟨w.heap.size,1,none⟩) l2.out (.int .u64 x1)).far (p:=⟨w.heap.size,2,none⟩) l2.out (.int .u64 x2)).far (p:=⟨w.heap.size,3,none⟩) l2.out (.slice A2 m2 c2')).cell (i:=0) rfl;have q3:=((((P3.out.far (p:=⟨w.heap.size,0,none⟩) l3.out (.int .u64 x0)).far (p:=⟨w.heap.size,1,none⟩) l3.out (.int .u64 x1)).far (p:=⟨w.heap.size,2,none⟩) l3.out (.int .u64 x2)).far (p:=⟨w.heap.size,3,none⟩) l3.out (.slice A2 m2 c2')).cell (i:=0) rfl;clear hb3)
    |fail)
   have F1:=R3.out.set_ 0 (.int .u64 x0)
   have F2:=F1.set_ 1 (.int .u64 x1)
   have F3:=F2.set_ 2 (.int .u64 x2)
   have F4:=F3.set_ 3 (.slice A2 m2 c2')
   have Y1:=bytes_off HY3.out R3.out (no_u8 _ _ _ ⟨_,rfl⟩ ⟨_,rfl⟩ ⟨_,rfl⟩ _ _ _) 0 (.int .u64 x0)
   have Y2:=bytes_off Y1 F1 (no_u8 _ _ _ ⟨_,rfl⟩ ⟨_,rfl⟩ ⟨_,rfl⟩ _ _ _) 1 (.int .u64 x1)
   have Y3:=bytes_off Y2 F2 (no_u8 _ _ _ ⟨_,rfl⟩ ⟨_,rfl⟩ ⟨_,rfl⟩ _ _ _) 2 (.int .u64 x2)
   have Y4:=bytes_off Y3 F3 (no_u8 _ _ _ ⟨_,rfl⟩ ⟨_,rfl⟩ ⟨_,rfl⟩ _ _ _) 3 (.slice A2 m2 c2')
   have b4:=(((B3.out.setCell (p:=⟨w.heap.size,0,none⟩) (Nat.le_refl _) (.int .u64 x0)).setCell (p:=⟨w.heap.size,1,none⟩) (Nat.le_refl _) (.int .u64 x1)).setCell (p:=⟨w.heap.size,2,none⟩) (Nat.le_refl _) (.int .u64 x2)).setCell (p:=⟨w.heap.size,3,none⟩) (Nat.le_refl _) (.slice A2 m2 c2')
   go_wp2_with fail
   refine bodyPost_ret (v:=fieldV x0 x1 x2 A2 m2 c2') (by exact results_cell_row Tryz.results90 _ _ w.heap.size 71 _ (0,0) _ rfl F4 Tryz.underlying71 rfl (by kernel_rfl)) rfl ?_
   exact⟨b4,A2,m2,⟨c2',rfl⟩,Y4,rfl,hm2⟩
  ·refine wp_region_held_drew (S:=fun W:World=>W.cell? ⟨g2,0,none⟩=some (.pointer (some ⟨gv,0,none⟩))∧W.cell? ⟨g3,0,none⟩=some (.int .u64 (a:Int))) (by kernel_rfl) (by exact⟨t2,t3⟩) (fun hHeld=>?_)
   refine tk (i:=0) (oi:=⟨some 3,_,_,_,_,_⟩) (v:=?_) rfl (Or.inl ⟨by rfl,?_⟩) ?_
   rotate_left
   ·intro W hSw;obtain⟨x0,x1⟩:=hSw;go_simp;try (with_reducible rfl)
   try simp only[Act.put,sA,sZ,sS]
   refine tk (i:=1) (oi:=⟨some 4,_,_,_,_,_⟩) (v:=?_) rfl (Or.inl ⟨by rfl,?_⟩) ?_
   rotate_left
   ·intro W hSw;obtain⟨x0,x1⟩:=hSw;go_simp;try (with_reducible rfl)
   try simp only[Act.put,sA,sZ,sS]
   refine tk (i:=3) (oi:=⟨some 6,_,_,_,_,_⟩) (v:=?_) rfl (Or.inl ⟨by rfl,?_⟩) ?_
   rotate_left
   ·intro W hSw;obtain⟨x0,x1⟩:=hSw;go_simp;try (with_reducible rfl)
   try simp only[Act.put,sA,sZ,sS]
   refine wpAnyH_ready (rs:=[2]) (by kernel_rfl) (by simp) ?_
   refine AllReadyH.cons (o:=⟨some 5,_,_,_,_,_⟩) rfl (fun K hK=>?_) AllReadyH.nil
   go_simp
   ((refine HF.out.mono ?_);rintro e wf ⟨rfl,rfl⟩)
   try go_wp2_with fail
   refine hK.out _ _ (by exact⟨t2,t3⟩) (fun hHeld=>?_)
   clear hK K
   try simp only[Act.put,sA,sZ,sS]
   refine wpAnyH_ready (rs:=[4]) (by kernel_rfl) (by simp) ?_
   refine AllReadyH.cons (o:=⟨some 7,_,_,_,_,_⟩) rfl (fun K hK=>?_) AllReadyH.nil
   go_simp
   ((refine HR.out.mono ?_);rintro e w2 ⟨A2,m2,c2',rfl,hb2,hy2,hl2,hm2⟩;have B2:=Lib.hid (b1d.out.trans (hb2.mono b1d.out.size));have U2:=Lib.hid (G2.out.drew.below hb2 s2.out);have U3:=Lib.hid (G3.out.drew.below hb2 s3.out);have u2:=U2.out.cell (i:=0) rfl;have u3:=U3.out.cell (i:=0) rfl;clear hb2 hy2)
   try go_wp2_with fail
   refine hK.out _ _ (by exact⟨u2,u3⟩) (fun hHeld=>?_)
   clear hK K
   try simp only[Act.put,sA,sZ,sS]
   refine tk (i:=5) (oi:=⟨some 8,_,_,_,_,_⟩) (v:=?_) rfl (Or.inl ⟨by rfl,?_⟩) ?_
   rotate_left
   ·intro W hSw;obtain⟨x0,x1⟩:=hSw;go_simp;try (with_reducible rfl)
   try simp only[Act.put,sA,sZ,sS]
   refine tk (i:=6) (oi:=⟨some 9,_,_,_,_,_⟩) (v:=?_) rfl (Or.inl ⟨by rfl,?_⟩) ?_
   rotate_left
   ·intro W hSw;obtain⟨x0,x1⟩:=hSw;go_simp;try (with_reducible rfl)
   try simp only[Act.put,sA,sZ,sS]
   refine wpAnyH_ready (rs:=[7]) (by kernel_rfl) (by simp) ?_
   refine AllReadyH.cons (o:=⟨some 10,_,_,_,_,_⟩) rfl (fun K hK=>?_) AllReadyH.nil
   go_simp
   ((refine(got_no x0 x1 x2 A2 m2 c2' cd hz w2).mono ?_);rintro e w3 ⟨rfl,hb3⟩;have B3:=Lib.hid (B2.out.trans (hb3.mono B2.out.size));clear hb3;exact⟨rfl,B3.out,.inl ⟨hz,rfl⟩⟩)
 ·have HF:=Lib.hid (from_no (a:Int) _ v1d (by omega))
  unfold ReadF fcode
  rw[if_neg hin]
  generalize bnum l a 2 3 0=x0 at*
  generalize bnum l a 2 3 1=x1 at*
  generalize bnum l a 2 3 2=x2 at*
  generalize bpay l a 2 3=pl at*
  clear v v1 v1d H2 H3
  go_enter Tryz.func90,Tryz.ntmps90
  go_upto_region 1 with fail
  generalize w.alloc (.cells fz 71)=w1 at*
  have t2:=G2.out.cell (i:=0) rfl
  have t3:=G3.out.cell (i:=0) rfl
  refine wp_region_held_drew (S:=fun W:World=>W.cell? ⟨g2,0,none⟩=some (.pointer (some ⟨gv,0,none⟩))∧W.cell? ⟨g3,0,none⟩=some (.int .u64 (a:Int))) (by kernel_rfl) (by exact⟨t2,t3⟩) (fun hHeld=>?_)
  refine tk (i:=0) (oi:=⟨some 3,_,_,_,_,_⟩) (v:=?_) rfl (Or.inl ⟨by rfl,?_⟩) ?_
  rotate_left
  ·intro W hSw;obtain⟨x0,x1⟩:=hSw;go_simp;try (with_reducible rfl)
  try simp only[Act.put,sA,sZ,sS]
  refine tk (i:=1) (oi:=⟨some 4,_,_,_,_,_⟩) (v:=?_) rfl (Or.inl ⟨by rfl,?_⟩) ?_
  rotate_left
  ·intro W hSw;obtain⟨x0,x1⟩:=hSw;go_simp;try (with_reducible rfl)
  try simp only[Act.put,sA,sZ,sS]
  refine tk (i:=3) (oi:=⟨some 6,_,_,_,_,_⟩) (v:=?_) rfl (Or.inl ⟨by rfl,?_⟩) ?_
  rotate_left
  ·intro W hSw;obtain⟨x0,x1⟩:=hSw;go_simp;try (with_reducible rfl)
  try simp only[Act.put,sA,sZ,sS]
  refine wpAnyH_ready (rs:=[2]) (by kernel_rfl) (by simp) ?_
  refine AllReadyH.cons (o:=⟨some 5,_,_,_,_,_⟩) rfl (fun K hK=>?_) AllReadyH.nil
  go_simp
  ((refine HF.out.mono ?_);rintro e wf ⟨rfl,rfl⟩;exact⟨rfl,b1d.out,.inl ⟨by decide,rfl⟩⟩)
def AskF (l:List Int)(a:Nat)(cd:Int)(e:Ending)(w':World):Prop:=
 (cd≠0∧e= .returned (.tuple #[.agg fz,.int .i64 cd]))∨(cd=0∧ ∃A' m' c',e= .returned (.tuple #[fieldV (bnum l a 2 3 0) (bnum l a 2 3 1) (bnum l a 2 3 2) A' m' c',.int .i64 0])∧Bytes w' A' (bpay l a 2 3)∧(bpay l a 2 3).length=m'∧m'≤1000000)
theorem asked_any {gv:Nat}{h:HD}{A:Option Addr}{n c:Nat}{l:List Int}(a:Nat)(g2 g3:Nat)(w:World)(v:ViewAt w gv h A n c l)(hcm:c≤maxLen)(H2:Blk w g2 [.pointer (some ⟨gv,0,none⟩)] 27)(H3:Blk w g3 [.int .u64 (a:Int)] 40):
 Calls Tryz.prog 89 #[.func (.func 90) #[] #[.pointer (some ⟨g2,0,none⟩),.pointer (some ⟨g3,0,none⟩)]] w fun e w'=>Below w.heap.size w w'∧AskF l a (fcode h l n a) e w':=by
 have b1:=Lib.hid ((Below.refl w.heap.size w).alloc (Nat.le_refl _) (.cells fz 71))
 have b2:=Lib.hid (b1.out.alloc b1.out.size (.cells #[.int .i64 0] 3))
 have v2:=v.below b2.out
 have HV:=Lib.hid (vfield_cl a g2 g3 _ v2 hcm (H2.below b2.out H2.lt) (H3.below b2.out H3.lt))
 have S1:(w.alloc (.cells fz 71)).heap.size=w.heap.size+1:=by simp only[World.alloc,Array.size_push]
 have S2:((w.alloc (.cells fz 71)).alloc (.cells #[.int .i64 0] 3)).heap.size=w.heap.size+1+1:=by simp only[World.alloc,Array.size_push]
 have Z2:=Lib.hid ((Below.heap_alloc (w.alloc (.cells fz 71)) (.cells #[.int .i64 0] 3) w.heap.size (by rw[S1];omega)).trans (heap_alloc_new w (.cells fz 71)))
 have R2:=Lib.hid (Blk.new_at (w.alloc (.cells fz 71)) [.int .i64 0] 3 _ S1)
 have hfn: ∀(fn:Fn) (first cap:Array Value) (w:World),(Instr.makeFunc fn first cap).run Tryz.prog w= .ok (.func fn first cap) w:=fun _ _ _ _=>rfl
 unfold ReadF at HV
 unfold AskF
 generalize bnum l a 2 3 0=x0 at*
 generalize bnum l a 2 3 1=x1 at*
 generalize bnum l a 2 3 2=x2 at*
 generalize fcode h l n a=cd at*
 generalize bpay l a 2 3=pl at*
 clear v v2 H2 H3
 by_cases hz:cd=0
 ·subst hz
  go_enter_defers Tryz.func89,Tryz.ntmps89
  go_wp2_with(first
   |(go_at_call 90;(refine HV.out.mono ?_);rintro e w3 ⟨hb3,⟨hne,_⟩|⟨_,A2,m2,c2',rfl,hy2,hl2,hm2⟩⟩;(exact absurd rfl hne);have B3:=Lib.hid (b2.out.trans (hb3.mono b2.out.size));have HY3:=Lib.hid hy2;have Z3:=Lib.hid ((hb3.block _ (by rw[S2];omega)).trans Z2.out);have R3:=Lib.hid (R2.out.below hb3 (by rw[S2];omega));clear hb3 hy2)
   |((with_reducible apply at_store (.tmp 2) (.tmp 6));refine wpList_store_row rfl 71 (.tmp 2) (.tmp 6) rfl w.heap.size #[.int .u64 x0,.int .u64 x1,.int .u64 x2,.slice A2 m2 c2'] rfl rfl 71 fz Z3.out (by kernel_rfl) rfl (by simp[Value.oneCell']) ?_;have R4:=Lib.hid (show Blk (w3.setRow w.heap.size #[.int .u64 x0,.int .u64 x1,.int .u64 x2,.slice A2 m2 c2']) (w.heap.size+1) [.int .i64 0] 3 from(setRow_other w3 w.heap.size (w.heap.size+1) _ (Nat.succ_ne_self _)).trans R3.out);have c4:=R4.out.cell (i:=0) rfl;have z4:=R4.out.frozen 0)
   |fail)
  refine leaves_cons (f:=147) (args:= #[.pointer (some ⟨w.heap.size+1,0,none⟩)]) (by simp) (by simp[go_sem]) ?_
  refine(caught_idle _ _).mono ?_
  rintro e u' w'' ⟨rfl,rfl,rfl⟩
  have b4:=(below_setRow (B:=w.heap.size) B3.out (Nat.le_refl _) #[.int .u64 x0,.int .u64 x1,.int .u64 x2,.slice A2 m2 c2']).setCell (p:=⟨w.heap.size+1,0,none⟩) (Nat.le_succ _) (.int .i64 0)
  exact⟨.tuple #[fieldV x0 x1 x2 A2 m2 c2',.int .i64 0],(by exact res_row_cell Tryz.results89 _ _ w.heap.size (w.heap.size+1) 71 _ (0,0) _ _ rfl rfl ((Below.heap_setCell _ _ _ _ (Nat.succ_ne_self _).symm).trans (setRow_heap _ w.heap.size _ _ _ (0,0) Z3.out)) Tryz.underlying71 rfl (by kernel_rfl) (load_code _ _ _ (R4.out.set_ 0 _))),b4,.inr ⟨trivial,A2,m2,c2',rfl,bytes_code (bytes_apart HY3.out Z3.out _) R4.out _,hl2,hm2⟩⟩
 ·go_enter_defers Tryz.func89,Tryz.ntmps89
  go_wp2_with(first
   |(go_at_call 90;(refine HV.out.mono ?_);rintro e w3 ⟨hb3,⟨_,rfl⟩|⟨he,_⟩⟩;rotate_left;(exact absurd he hz);have B3:=Lib.hid (b2.out.trans (hb3.mono b2.out.size));have Z3:=Lib.hid ((hb3.block _ (by rw[S2];omega)).trans Z2.out);have R3:=Lib.hid (R2.out.below hb3 (by rw[S2];omega));clear hb3)
   |fail)
  refine leaves_cons (f:=147) (args:= #[.pointer (some ⟨w.heap.size+1,0,none⟩)]) (by simp) (by simp[go_sem]) ?_
  refine(caught_halt _ cd 0 [] _ R3.out).mono ?_
  rintro e u' w'' ⟨rfl,rfl,rfl⟩
  have b4:=B3.out.setCell (p:=⟨w.heap.size+1,0,none⟩) (Nat.le_succ _) (.int .i64 cd)
  exact⟨.tuple #[.agg fz,.int .i64 cd],(by exact res_row_cell Tryz.results89 _ _ w.heap.size (w.heap.size+1) 71 _ (0,0) _ _ rfl rfl ((Below.heap_setCell _ _ _ _ (Nat.succ_ne_self _).symm).trans Z3.out) Tryz.underlying71 rfl (by kernel_rfl) (load_code _ _ _ (R3.out.set_ 0 _))),b4,.inl ⟨hz,rfl⟩⟩
theorem fieldAsk {gv:Nat}{h:HD}{A:Option Addr}{n c:Nat}{l:List Int}(a:Nat)(w:World)(v:ViewAt w gv h A n c l)(hcm:c≤maxLen):
 Calls Tryz.prog 33 #[.pointer (some ⟨gv,0,none⟩),.int .u64 (a:Int)] w fun e w'=>Below w.heap.size w w'∧AskF l a (fcode h l n a) e w':=by
 have b1:=Lib.hid ((Below.refl w.heap.size w).alloc (Nat.le_refl _) (.cells #[.pointer (some ⟨gv,0,none⟩)] 27))
 have b2:=Lib.hid (b1.out.alloc b1.out.size (.cells #[.int .u64 (a:Int)] 40))
 have b3:=Lib.hid (b2.out.alloc b2.out.size (.cells fz 71))
 have v3:=v.below b3.out
 have S1:(w.alloc (.cells #[.pointer (some ⟨gv,0,none⟩)] 27)).heap.size=w.heap.size+1:=by simp only[World.alloc,Array.size_push]
 have S2:((w.alloc (.cells #[.pointer (some ⟨gv,0,none⟩)] 27)).alloc (.cells #[.int .u64 (a:Int)] 40)).heap.size=w.heap.size+1+1:=by simp only[World.alloc,Array.size_push]
 have S3:(((w.alloc (.cells #[.pointer (some ⟨gv,0,none⟩)] 27)).alloc (.cells #[.int .u64 (a:Int)] 40)).alloc (.cells fz 71)).heap.size=w.heap.size+1+1+1:=by simp only[World.alloc,Array.size_push]
 have K1:=((Blk.new w [.pointer (some ⟨gv,0,none⟩)] 27).alloc (.cells #[.int .u64 (a:Int)] 40)).alloc (.cells fz 71)
 have K2:=(Blk.new_at (w.alloc (.cells #[.pointer (some ⟨gv,0,none⟩)] 27)) [.int .u64 (a:Int)] 40 _ S1).alloc (.cells fz 71)
 have HV:=Lib.hid (asked_any a w.heap.size (w.heap.size+1) _ v3 hcm K1 K2)
 have Z3:=Lib.hid (show(((w.alloc (.cells #[.pointer (some ⟨gv,0,none⟩)] 27)).alloc (.cells #[.int .u64 (a:Int)] 40)).alloc (.cells fz 71)).heap[w.heap.size+1+1]? =some (.cells fz 71 (0,0))from S2▸heap_alloc_new _ (.cells fz 71))
 have hfn: ∀(fn:Fn) (first cap:Array Value) (w:World),(Instr.makeFunc fn first cap).run Tryz.prog w= .ok (.func fn first cap) w:=fun _ _ _ _=>rfl
 unfold AskF at HV⊢
 generalize bnum l a 2 3 0=x0 at*
 generalize bnum l a 2 3 1=x1 at*
 generalize bnum l a 2 3 2=x2 at*
 generalize fcode h l n a=cd at*
 generalize bpay l a 2 3=pl at*
 clear v v3 K1 K2
 by_cases hz:cd=0
 ·subst hz
  go_enter Tryz.func33,Tryz.ntmps33
  go_wp2_with(first
   |(go_at_call 89;(refine HV.out.mono ?_);rintro e w4 ⟨hb4,⟨hne,_⟩|⟨_,A2,m2,c2',rfl,hy2,hl2,hm2⟩⟩;(exact absurd rfl hne);have B4:=Lib.hid (b3.out.trans (hb4.mono b3.out.size));have HY4:=Lib.hid hy2;have Z4:=Lib.hid ((hb4.block _ (by rw[S3];omega)).trans Z3.out);clear hb4 hy2)
   |((with_reducible apply at_store (.tmp 4) (.tmp 8));refine wpList_store_row rfl 71 (.tmp 4) (.tmp 8) rfl (w.heap.size+1+1) #[.int .u64 x0,.int .u64 x1,.int .u64 x2,.slice A2 m2 c2'] rfl rfl 71 fz Z4.out (by kernel_rfl) rfl (by simp[Value.oneCell']) ?_)
   |fail)
  refine bodyPost_ret (v:= .tuple #[fieldV x0 x1 x2 A2 m2 c2',.int .i64 0]) (by exact res_rowG Tryz.results33 _ _ (w.heap.size+1+1) 71 _ (0,0) _ _ rfl rfl (setRow_heap _ (w.heap.size+1+1) _ _ _ (0,0) Z4.out) Tryz.underlying71 rfl (by kernel_rfl)) rfl ?_
  have b5:=below_setRow (B:=w.heap.size) (g:=w.heap.size+1+1) B4.out (by omega) #[.int .u64 x0,.int .u64 x1,.int .u64 x2,.slice A2 m2 c2']
  exact⟨b5,.inr ⟨trivial,A2,m2,c2',rfl,bytes_apart HY4.out Z4.out _,hl2,hm2⟩⟩
 ·go_enter Tryz.func33,Tryz.ntmps33
  go_wp2_with(first
   |(go_at_call 89;(refine HV.out.mono ?_);rintro e w4 ⟨hb4,⟨_,rfl⟩|⟨he,_⟩⟩;rotate_left;(exact absurd he hz);have B4:=Lib.hid (b3.out.trans (hb4.mono b3.out.size));have Z4:=Lib.hid ((hb4.block _ (by rw[S3];omega)).trans Z3.out);clear hb4)
   |((with_reducible apply at_store (.tmp 4) (.tmp 8));refine wpList_store_row rfl 71 (.tmp 4) (.tmp 8) rfl (w.heap.size+1+1) fz rfl rfl 71 fz Z4.out (by kernel_rfl) rfl (by simp[Value.oneCell']) ?_)
   |fail)
  refine bodyPost_ret (v:= .tuple #[.agg fz,.int .i64 cd]) (by exact res_rowG Tryz.results33 _ _ (w.heap.size+1+1) 71 _ (0,0) _ _ rfl rfl (setRow_heap _ (w.heap.size+1+1) _ _ _ (0,0) Z4.out) Tryz.underlying71 rfl (by kernel_rfl)) rfl ?_
  have b5:=below_setRow (B:=w.heap.size) (g:=w.heap.size+1+1) B4.out (by omega) fz
  exact⟨b5,.inl ⟨hz,rfl⟩⟩
end Rf
namespace Va
open Bytes8 Own8 OwnE Ob Ga Gb Oj Ok7 Np Pr8 Rc Rm
open Ye Yh
open Rd (dcode dz)
open Re (AskD)
open Rf (fcode fz AskF fieldAsk)
def fN (h:HD)(l:List Int)(n a i:Nat):Int:=if rng h n a then bnum l a 2 3 i else 0
def fP (h:HD)(l:List Int)(n a:Nat):List Int:=if rng h n a then bpay l a 2 3 else []
def TellF (h:HD)(l:List Int)(n a:Nat)(w:World)(e:Ending)(w':World):Prop:=Below w.heap.size w w'∧ ∃A' m c,e= .returned (.tuple #[fieldV (fN h l n a 0) (fN h l n a 1) (fN h l n a 2) A' m c,.int .i64 (fcode h l n a)])∧Bytes w' A' (fP h l n a)∧(fP h l n a).length=m∧m≤1000000
theorem fieldTell {gv:Nat}{h:HD}{A:Option Addr}{n c:Nat}{l:List Int}(a:Nat)(w:World)(v:ViewAt w gv h A n c l)(hcm:c≤maxLen):
 Calls Tryz.prog 33 #[.pointer (some ⟨gv,0,none⟩),.int .u64 (a:Int)] w (TellF h l n a w):=by
 refine(fieldAsk a w v hcm).mono ?_
 rintro e w' ⟨hb,hh⟩
 refine⟨hb,?_⟩
 unfold fN fP fcode
 by_cases hr:rng h n a
 ·rcases hh with⟨hz,rfl⟩|⟨hz,A',m',c',rfl,h1,h2,h3⟩
  ·have e0:fcode h l n a=bcode l a 2 3:=if_pos hr
   rw[e0]at hz
   have hn: ∀i,bnum l a 2 3 i=0:=fun i=>if_neg hz
   have hp:bpay l a 2 3=[]:=if_neg hz
   simp only[if_pos hr,hn,hp]
   rw[e0]
   exact⟨none,0,0,rfl,Bytes.nil _ _,rfl,by decide⟩
  ·have e0:fcode h l n a=bcode l a 2 3:=if_pos hr
   rw[e0]at hz
   simp only[if_pos hr]
   rw[hz]
   exact⟨A',m',c',rfl,h1,h2,h3⟩
 ·rcases hh with⟨hz,rfl⟩|⟨hz,_⟩
  ·simp only[if_neg hr]
   rw[show fcode h l n a=2 from if_neg hr]
   exact⟨none,0,0,rfl,Bytes.nil _ _,rfl,by decide⟩
  ·rw[show fcode h l n a=2 from if_neg hr]at hz;cases hz
attribute [local irreducible] HD.cells wpList Code.wp
end Va
end Go.Proofs.YtjecmgkmcfkcjaaGreat
