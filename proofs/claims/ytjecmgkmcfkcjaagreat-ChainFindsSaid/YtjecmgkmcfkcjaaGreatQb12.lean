/-
  Texts beneath the proof.
-/
import Derived.Deep.CutBlock
import Derived.Laws.ResultCell
import Derived.Laws.Rows
import Derived.Laws.Tables
import Derived.Deep.MidRow
import Derived.DeepKeys
import Derived.Test.YtjecmgkmcfkcjaaGreatQb11
set_option linter.unusedVariables false
set_option linter.unusedSimpArgs false
set_option maxRecDepth 100000
set_option maxHeartbeats 4000000
open Go.ChangeShapes Go.WideShapes Go.ChangeAt Go.RowKit
namespace Go.Proofs.YtjecmgkmcfkcjaaGreat
namespace Yf
end Yf
namespace Yg
open Bytes8 Blk8 OwnE Kf Yc Ye
theorem res_row {P:Program}{fn:Func}{p u:Tmp}{ty:TypeId}(h:fn.results= #[.cell p ty,.tmp u])(tmps:Array Value)(w:World)(g:Nat)(t:TypeId)(cs:Array Value)(fr:Nat×Nat)(d:TypeDesc)(c:Value)
 (hp:tmps.getD p undef= .pointer (some ⟨g,0,none⟩))(hc:tmps.getD u undef=c)(hg:w.heap[g]? =some (.cells cs t fr))(hu:P.underlying ty=some d)(hd:(match d with| .struct _| .array _ _=>true|_=>false)=true)(hi:(P.info? ty).map (·.size)=some cs.size):
 (results fn tmps).run P w= .ok (.tuple #[.agg cs,c]) w:=by
 rw[results_cell_tmp h,hp,hc]
 simp[asAddr,run_loadVar_row w g t ty cs fr d hg hu hd hi,Result.andThen]
theorem in2_none (w:World)(A:Option Addr)(f h:Nat→Int):In2 w A 0 f h:=fun i hi=>absurd hi (by omega)
def stE (p v:Value):Sem Unit:=Instr.storeAt 285 p v
theorem st_fold (p v:Value):Instr.storeAt 285 p v=stE p v:=rfl
attribute [local go_sem ↓] st_fold
end Yg
namespace Yh
open Bytes8 Blk8 Own8 OwnE Ob Rows2 Kf Yc Yp Yd Ye Yg
def taNum (l:List Int)(a:Nat)(k:Int):Nat:=if tabC l a k=0 then taN (bodyL l a)else 0
def TabTold (l:List Int)(a:Nat)(k:Int)(w:World)(e:Ending)(w':World):Prop:=
 ∃A c,e= .returned (.tuple #[.slice A (taNum l a k) c,.int .i64 (tabC l a k)])∧Below w.heap.size w w'∧In2 w' A (taNum l a k) (taA (bodyL l a)) (taB (bodyL l a))
theorem readTable_e (A:Option Addr)(l:List Int)(n cap a:Nat)(kd:Int)(w:World)(hb:Bytes w A l)(hL:l.length=n)(hn:n≤1000000)(hc:n≤cap)(hcm:cap≤maxLen)(ha:a≤18446744073709551615):
 Calls Tryz.prog 184 #[.slice A n cap,.int .u64 (a:Int),.int .i64 kd] w (TabTold l a kd w):=by
 have HT:=Lib.hid fun W=>isTable_any kd W
 have HBo:=Lib.hid (bodyOf_z A l n cap a 0 16 kd 0 16 w hb hL hn hc hcm ha (by decide) (by decide) (by decide) (by decide) rfl rfl)
 unfold Bodied2 at HBo
 have HAb:=Lib.hid (body_all (a:=a) hb.1)
 have hcd:tabC l a kd=if isTab kd then ecode l a kd 0 16 else 1:=rfl
 have hno:tabC l a kd≠0→taNum l a kd=0:=fun h=>if_neg h
 have hyes:tabC l a kd=0→taNum l a kd=taN (bodyL l a):=fun h=>if_pos h
 cases hk:isTab kd with
 |false=>
  rw[hk]at hcd HT
  have HCe:=Lib.hid (show tabC l a kd=1 from hcd)
  have HF:=Lib.hid (hno (by rw[HCe.out];decide))
  clear hcd hno hyes hk hb hL
  go_enter Tryz.func184,Tryz.ntmps184
  go_wp2_with(go_at_call 210;(with_reducible refine(HT.out _).mono ?_);rintro e w' ⟨rfl,rfl⟩)
  refine bodyPost_ret (v:= .tuple #[.slice none 0 0,.int .i64 1]) (by simp[results,Tryz.results184,go_sem,Result.andThen]) rfl ?_
  unfold TabTold
  rw[HCe.out,HF.out]
  exact⟨none,0,rfl,Below.refl _ _,in2_none _ _ _ _⟩
 |true=>
  rw[hk]at hcd HT
  have hcd':tabC l a kd=ecode l a kd 0 16:=hcd
  by_cases h1:ecode l a kd 0 16≠0
  ·have HCe:=Lib.hid hcd'
   have HF:=Lib.hid (hno (by rw[hcd'];exact h1))
   have HX:=Lib.hid h1
   clear hcd hcd' hno hyes hk hb hL
   generalize ecode l a kd 0 16=cd at*
   go_enter Tryz.func184,Tryz.ntmps184
   go_wp2_with(first
    |(go_at_call 210;(with_reducible refine(HT.out _).mono ?_);rintro e w' ⟨rfl,rfl⟩)
    |(go_at_call 211;(with_reducible refine HBo.out.mono ?_);rintro e w2 ⟨B,m,cb,rfl,hbel,_⟩;have HB2:=Lib.hid hbel;clear hbel))
   refine bodyPost_ret (v:= .tuple #[.slice none 0 0,.int .i64 cd]) (by simp[results,Tryz.results184,go_sem,Result.andThen]) rfl ?_
   unfold TabTold
   rw[HCe.out,HF.out]
   exact⟨none,0,rfl,HB2.out,in2_none _ _ _ _⟩
  ·have h0:ecode l a kd 0 16=0:=by omega
   obtain⟨_,_,hlen,hmod,hln⟩:=ecode_there hL h0
   rw[h0]at HBo hcd'
   have HCe:=Lib.hid hcd'
   have HF:=Lib.hid (hyes hcd')
   have HNu:=Lib.hid fun(i:Nat) (z:Int) (B:Option Addr) (m cb:Nat) (W:World) (hB:Bytes W B (bodyL l a)) (hm:(bodyL l a).length=m) (hz:z=(i:Int)) (hi:i+8≤m)=>number_e B (bodyL l a) m cb i z W hB hm (by omega) hi hz
   have HM:=Lib.hid fun(m:Nat) (hm:(bodyL l a).length=m)=>show 16≤m∧m≤1000000∧taN (bodyL l a)=m/16 from⟨by omega,by omega,by unfold taN;rw[hm]⟩
   clear hcd hcd' hno hyes hk hb hL h1 h0 hlen hmod hln
   generalize hbd0:bodyL l a=bd at*
   have HBD:=Lib.hid hbd0
   clear hbd0
   go_enter Tryz.func184,Tryz.ntmps184
   go_upto_region 6 with(first
    |(go_at_call 210;(with_reducible refine(HT.out _).mono ?_);rintro e w' ⟨rfl,rfl⟩)
    |(go_at_call 211;(with_reducible refine HBo.out.mono ?_);rintro e w2 ⟨B,m,cb,rfl,hbel,hbd⟩))
   obtain⟨d1,d2,d3,d4,d5⟩:=hbd (by first|rfl|trivial)
   have HB2:=Lib.hid hbel
   have D1:=Lib.hid d1
   have D2:=Lib.hid d2
   obtain⟨hm16,hmx,htn⟩:=HM.out m d2
   obtain⟨t,ht⟩: ∃t,t=m/16:=⟨_,rfl⟩
   rw[←ht]at htn
   have hq:(m:Int).tdiv 16=(t:Int):=by rw[Int.tdiv_eq_ediv_of_nonneg (by omega)];omega
   have hq2:(m:Int)/16=(t:Int):=by omega
   have hmk:=make_two 132 140 Tryz.underlying132 slotInfo t (t:Int) rfl (by omega)
   have P0:=Lib.hid (Part2.new w2 t (taA bd) (taB bd) 140)
   have B0:=Lib.hid ((Below.refl w2.heap.size w2).alloc (Nat.le_refl _) (.cells (Array.replicate (t*2) (Value.int .u64 0)) 140))
   have HTN:=Lib.hid htn
   have h16:16*t≤m:=by omega
   clear d1 d2 hbel hbd htn ht
   go_wp2_with fail
   go_loopw [31] (fun i wr=> ∃k:Nat,k≤t∧i= .int .i64 (k:Int)∧Hid (Part2 wr w2.heap.size t k (taA bd) (taB bd) 140)∧Hid (Below w2.heap.size w2 wr)) (fun i _=>t-(intOf i).toNat)
   case atStart=>exact⟨0,Nat.zero_le _,rfl,P0,B0⟩
   case round=>
    obtain⟨k,hk,rfl,hp,hb⟩:=hrel
    by_cases hlt:k<t
    ·obtain⟨⟨v1,v2,c1,c2⟩,f1,f2⟩:=hp.out.cells hlt
     have HS:=Lib.hid (hp.out.step hlt)
     have hp1:taA bd k=u8 bd (16*k):=rfl
     have hp2:taB bd k=u8 bd (16*k+8):=rfl
     rw[hp1,hp2]at HS
     have Dr:=Lib.hid (D1.out.below hb.out (Nat.le_refl _))
     go_wp2_with(first
      |(go_at_call 212;(with_reducible refine(HNu.out (16*k) _ _ _ _ _ Dr.out D2.out (by omega) (by omega)).mono ?_);rintro e w' ⟨rfl,rfl⟩)
      |(go_at_call 212;(with_reducible refine(HNu.out (16*k+8) _ _ _ _ _ Dr.out D2.out (by omega) (by omega)).mono ?_);rintro e w' ⟨rfl,rfl⟩))
     go_roundw
     case rel=>exact⟨k+1,by omega,by go_num,HS,Lib.hid ((hb.out.setCell (Nat.le_refl _) _).setCell (Nat.le_refl _) _)⟩
     case measure=>simp[intOf];omega
    ·obtain rfl:k=t:=by omega
     have HI:=Lib.hid (hp.out.in2 (fun i=>u8_bd HAb.out _) (fun i=>u8_bd HAb.out _))
     go_wp2
     refine bodyPost_ret (v:= .tuple #[.slice (some ⟨w2.heap.size,0,none⟩) k k,.int .i64 0]) (by simp[results,Tryz.results184,go_sem,Result.andThen]) rfl ?_
     unfold TabTold
     rw[HCe.out,HF.out,HTN.out,HBD.out]
     exact⟨_,k,rfl,HB2.out.trans (hb.out.mono HB2.out.size),HI.out⟩
end Yh
namespace Yq
end Yq
end Go.Proofs.YtjecmgkmcfkcjaaGreat
