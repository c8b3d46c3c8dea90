/-
  Texts beneath the proof.
-/
import Derived.Test.YtelmgldkgccecaaGreatQs1
import Derived.Deep.RegionLaw
import Derived.Test.YtelmgldkgccecaaGreatQs32
import Derived.Test.YtelmgldkgccecaaGreatQs15
set_option linter.unusedVariables false
set_option linter.unusedSimpArgs false
set_option maxRecDepth 100000
set_option maxHeartbeats 16000000
open Go.ChangeShapes Go.WideShapes Go.ChangeAt Go.RowKit
namespace Go.Proofs.YtelmgldkgccecaaGreat
namespace Vh
open Bytes8 Blk8 Own8 OwnE Rows2 Ob Ga Gb Ok7 Rc Va Vf
open Yp Ye Yg Yh
open Yl (rreadTable_any)
open Rl (res_slot_cell)
open Re (load_code)
attribute [local irreducible] HD.cells wpList Code.wp
theorem vtab_cl {gv:Nat}{h:HD}{A:Option Addr}{n c:Nat}{l:List Int}(kd:Int)(g2 g3:Nat)(w:World)(v:ViewAt w gv h A n c l)(hcm:c≤maxLen)(H2:Blk w g2 [.pointer (some ⟨gv,0,none⟩)] 28)(H3:Blk w g3 [.int .i64 kd] 3):
 Calls Tryz.prog 58 #[.pointer (some ⟨g2,0,none⟩),.pointer (some ⟨g3,0,none⟩)] w (ReadT h l kd w):=by
 have c2:=H2.cell (i:=0) rfl
 have c3:=H3.cell (i:=0) rfl
 have HV:=jH (vtable_any kd w v hcm)
 unfold ReadT at HV⊢
 generalize tCode h l kd=cd at*
 generalize tNum h l kd=nn at*
 generalize taA (bodyL l (tOff h kd))=fa at*
 generalize taB (bodyL l (tOff h kd))=fb at*
 clear v H2 H3
 by_cases hz:cd=0
 ·subst hz
  go_enter Tryz.func58,Tryz.ntmps58
  go_wp2_with(first
   |(go_at_call 59;(refine HV.out.mono ?_);rintro e w3 ⟨hb3,⟨hne,_⟩|⟨_,A2,c2',rfl,hi2⟩⟩;(exact absurd rfl hne);have B3:=jH hb3;have I3:=jH hi2;clear hb3 hi2)
   |fail)
  go_ret
  exact⟨B3.out,.inr ⟨trivial,A2,c2',rfl,I3.out⟩⟩
 ·go_enter Tryz.func58,Tryz.ntmps58
  go_wp2_with(first
   |(go_at_call 59;(refine HV.out.mono ?_);rintro e w3 ⟨hb3,⟨_,rfl⟩|⟨he,_⟩⟩;rotate_left;(exact absurd he hz);have B3:=jH hb3;clear hb3)
   |fail)
  exact⟨rfl,B3.out,.inl ⟨hz,rfl⟩⟩
theorem tNum_none {h:HD}{l:List Int}{kd:Int}(hz:tCode h l kd≠0):tNum h l kd=0:=if_neg hz
theorem asked_any {gv:Nat}{h:HD}{A:Option Addr}{n c:Nat}{l:List Int}(kd:Int)(g2 g3:Nat)(w:World)(v:ViewAt w gv h A n c l)(hcm:c≤maxLen)(H2:Blk w g2 [.pointer (some ⟨gv,0,none⟩)] 28)(H3:Blk w g3 [.int .i64 kd] 3):
 Calls Tryz.prog 57 #[.func (.func 58) #[] #[.pointer (some ⟨g2,0,none⟩),.pointer (some ⟨g3,0,none⟩)]] w (TellT h l kd w):=by
 have b2:=jH ((Below.refl w.heap.size w).alloc (jR _) (.cells #[.int .i64 0] 3))
 have v2:=v.below b2.out
 have HV:=jH (vtab_cl kd g2 g3 _ v2 hcm (H2.below b2.out H2.lt) (H3.below b2.out H3.lt))
 have S2:(w.alloc (.cells #[.int .i64 0] 3)).heap.size=w.heap.size+1:=by simp only[World.alloc,Array.size_push]
 have R2:=jH (Blk.new w [.int .i64 0] 3)
 have hfn: ∀(fn:Fn) (first cap:Array Value) (w:World),(Instr.makeFunc fn first cap).run Tryz.prog w= .ok (.func fn first cap) w:=fun _ _ _ _=>rfl
 have hnn:=tNum_none (h:=h) (l:=l) (kd:=kd)
 unfold ReadT at HV
 unfold TellT
 generalize tCode h l kd=cd at*
 generalize tNum h l kd=nn at*
 generalize taA (bodyL l (tOff h kd))=fa at*
 generalize taB (bodyL l (tOff h kd))=fb at*
 have HNN:=jH hnn
 clear v v2 H2 H3 hnn
 by_cases hz:cd=0
 ·subst hz
  go_enter_defers Tryz.func57,Tryz.ntmps57
  go_wp2_with(first
   |(go_at_call 58;(refine HV.out.mono ?_);rintro e w3 ⟨hb3,⟨hne,_⟩|⟨_,A2,c2',rfl,hi2⟩⟩;(exact absurd rfl hne);have B3:=jH (b2.out.trans (hb3.mono b2.out.size));have I3:=jH hi2;have R3:=jH (R2.out.below hb3 (by rw[S2];omega));have c4:=R3.out.cell (i:=0) rfl;have z4:=R3.out.frozen 0;clear hb3 hi2)
   |fail)
  refine leaves_cons (f:=113) (args:= #[.pointer (some ⟨w.heap.size,0,none⟩)]) (by simp) (by simp[go_sem]) ?_
  refine(caught_idle _ _).mono ?_
  rintro e u' w'' ⟨rfl,rfl,rfl⟩
  have b4:=B3.out.setCell (p:=⟨w.heap.size,0,none⟩) (jR _) (.int .i64 0)
  exact⟨.tuple #[.slice A2 nn c2',.int .i64 0],(by exact res_slot_cell Tryz.results57 _ _ w.heap.size _ _ rfl rfl (load_code _ _ _ (R3.out.set_ 0 _))),b4,A2,c2',rfl,in2_code I3.out R3.out _⟩
 ·have hn0:=HNN.out hz
  subst hn0
  go_enter_defers Tryz.func57,Tryz.ntmps57
  go_wp2_with(first
   |(go_at_call 58;(refine HV.out.mono ?_);rintro e w3 ⟨hb3,⟨_,rfl⟩|⟨he,_⟩⟩;rotate_left;(exact absurd he hz);have B3:=jH (b2.out.trans (hb3.mono b2.out.size));have R3:=jH (R2.out.below hb3 (by rw[S2];omega));clear hb3)
   |fail)
  refine leaves_cons (f:=113) (args:= #[.pointer (some ⟨w.heap.size,0,none⟩)]) (by simp) (by simp[go_sem]) ?_
  refine(caught_halt _ cd 0 [] _ R3.out).mono ?_
  rintro e u' w'' ⟨rfl,rfl,rfl⟩
  have b4:=B3.out.setCell (p:=⟨w.heap.size,0,none⟩) (jR _) (.int .i64 cd)
  exact⟨.tuple #[.slice none 0 0,.int .i64 cd],(by exact res_slot_cell Tryz.results57 _ _ w.heap.size _ _ rfl rfl (load_code _ _ _ (R3.out.set_ 0 _))),b4,none,0,rfl,fun i hi=>absurd hi (Nat.not_lt_zero i)⟩
theorem tabTell {gv:Nat}{h:HD}{A:Option Addr}{n c:Nat}{l:List Int}(kd:Int)(w:World)(v:ViewAt w gv h A n c l)(hcm:c≤maxLen):
 Calls Tryz.prog 16 #[.pointer (some ⟨gv,0,none⟩),.int .i64 kd] w (TellT h l kd w):=by
 have b1:=jH ((Below.refl w.heap.size w).alloc (jR _) (.cells #[.pointer (some ⟨gv,0,none⟩)] 28))
 have b2:=jH (b1.out.alloc b1.out.size (.cells #[.int .i64 kd] 3))
 have v2:=v.below b2.out
 have S1:(w.alloc (.cells #[.pointer (some ⟨gv,0,none⟩)] 28)).heap.size=w.heap.size+1:=by simp only[World.alloc,Array.size_push]
 have K1:=(Blk.new w [.pointer (some ⟨gv,0,none⟩)] 28).alloc (.cells #[.int .i64 kd] 3)
 have K2:=Blk.new_at (w.alloc (.cells #[.pointer (some ⟨gv,0,none⟩)] 28)) [.int .i64 kd] 3 _ S1
 have HV:=jH (asked_any kd w.heap.size (w.heap.size+1) _ v2 hcm K1 K2)
 have hfn: ∀(fn:Fn) (first cap:Array Value) (w:World),(Instr.makeFunc fn first cap).run Tryz.prog w= .ok (.func fn first cap) w:=fun _ _ _ _=>rfl
 unfold TellT at HV⊢
 generalize tCode h l kd=cd at*
 generalize tNum h l kd=nn at*
 generalize taA (bodyL l (tOff h kd))=fa at*
 generalize taB (bodyL l (tOff h kd))=fb at*
 clear v v2 K1 K2
 go_enter Tryz.func16,Tryz.ntmps16
 go_wp2_with(first
  |(go_at_call 57;(refine HV.out.mono ?_);rintro e w4 ⟨hb4,A2,c2',rfl,hi2⟩;have B4:=jH (b2.out.trans (hb4.mono b2.out.size));have I4:=jH hi2;clear hb4 hi2)
  |fail)
 go_ret2
 exact⟨B4.out,A2,c2',rfl,I4.out⟩
theorem rtabTell {gv:Nat}{h:HD}{d:Int}{A:Option Addr}{n c:Nat}{l:List Int}(kd:Int)(w:World)(v:ViewR w gv h d A n c l)(hk:kd=4∨kd=5):
 Calls Tryz.prog 17 #[.pointer (some ⟨gv,0,none⟩),.int .i64 kd] w (TellT h l kd w):=by
 have HTb:=jH fun(W:World) (hW:Below w.heap.size w W)=>rreadTable_any A l n c (tOff h kd) kd W (v.below hW).by_ v.len (by have:=v.big;omega) v.cap v.capm (tOff_is kd).2
 unfold TabTold at HTb
 have CC:=jH fun(W:World) (hW:Below w.heap.size w W)=>show W.cell? ⟨gv,69,none⟩=some (.int .u64 (h.N 2))∧W.cell? ⟨gv,70,none⟩=some (.int .u64 (h.N 3))∧W.cell? ⟨gv,71,none⟩=some (.int .u64 (h.N 4))∧W.cell? ⟨gv,72,none⟩=some (.int .u64 (h.N 5))∧W.cell? ⟨gv,91,none⟩=some (.slice A n c)from⟨(v.below hW).blk.cell (rview_N _ _ _ 2 (by decide)),(v.below hW).blk.cell (rview_N _ _ _ 3 (by decide)),(v.below hW).blk.cell (rview_N _ _ _ 4 (by decide)),(v.below hW).blk.cell (rview_N _ _ _ 5 (by decide)),(v.below hW).blk.cell (rview_b _ _ _)⟩
 have hwo:=(tOff_is (h:=h) kd).1
 obtain⟨hs0,hsz⟩:=tSz_is v.ok kd
 have hta:tAt h kd=if kd=4 then h.N 2 else h.N 4:=rfl
 have hcd:tCode h l kd=if tabC l (tOff h kd) kd≠0 then tabC l (tOff h kd) kd else if taNum l (tOff h kd) kd=tSz h kd/16 then 0 else 14:=if_pos hk
 have hnm:tNum h l kd=if tCode h l kd=0 then taNum l (tOff h kd) kd else 0:=rfl
 have hN9:taNum l (tOff h kd) kd≤1000000:=by
  unfold taNum
  have h1:(bodyL l (tOff h kd)).length≤l.length:=by unfold bodyL;rw[List.length_take,List.length_drop];omega
  have h2:=v.len
  have h3:=v.big
  split
  ·unfold taN;omega
  ·omega
 unfold TellT
 generalize tCode h l kd=cc at*
 generalize tNum h l kd=nn at*
 generalize taA (bodyL l (tOff h kd))=fa at*
 generalize taB (bodyL l (tOff h kd))=fb at*
 generalize taNum l (tOff h kd) kd=tn at*
 generalize tabC l (tOff h kd) kd=tc at*
 generalize tAt h kd=ta at*
 generalize tSz h kd=ts at*
 generalize tOff h kd=toff at*
 have HCD:=jH hcd
 have HNM:=jH hnm
 have D1:=jH (show Below w.heap.size w w.drew from(Below.refl w.heap.size w).drew)
 have D2:=jH D1.out.drew
 have hwn:IntKind.u64.wrap (tn:Int)=(tn:Int):=by rw[IntKind.wrap_u64];omega
 clear v hcd hnm
 obtain⟨k2,k3,k4,k5,_⟩:=CC.out _ D1.out
 go_enter Tryz.func17,Tryz.ntmps17
 go_upto_region 1 with fail
 go_cut [6,7]from 10 to 21 (fun x y wx=>x= .int .u64 (h.N 2)∧y= .int .u64 (h.N 3)∧Hid (Below w.heap.size w wx))
 case first=>
  go_region
  all_goals
   go_wp2_with fail
   go_meet
   case rel=>exact⟨rfl,rfl,D1⟩
 case rest=>
  rename World=>wA
  obtain⟨rfl,rfl,HA⟩:=hcut
  clear k2 k3 k4 k5
  rcases hk with rfl|rfl
  ·rw[if_pos rfl]at hta hs0
   rw[hs0]
   rw[hta]at hwo
   clear hta
   obtain⟨_,_,_,_,k91⟩:=CC.out _ HA.out
   by_cases hz:tc=0
   ·subst hz
    have hcd:=HCD.out
    rw[if_neg (by decide)]at hcd
    by_cases hq:tn=ts/16
    ·rw[if_pos hq]at hcd
     have hnm:=HNM.out
     rw[if_pos hcd]at hnm
     subst hcd
     subst hnm
     have dq:((nn:Int)!=(ts:Int)/16)=false:=by simp;omega
     go_wp2_with(first
      |(go_at_call 60;(refine(HTb.out _ HA.out).mono ?_);rintro e w2 ⟨A2,c2,rfl,hb2,hi2⟩;have B2:=jH (HA.out.trans (hb2.mono HA.out.size));have I2:=jH hi2;clear hb2 hi2)
      |fail)
     go_ret2
     exact⟨B2.out,A2,c2,by rw[hq];rfl,I2.out⟩
    ·rw[if_neg hq]at hcd
     have hnm:=HNM.out
     rw[if_neg (by rw[hcd];decide)]at hnm
     subst hcd
     subst hnm
     have dq:((tn:Int)!=(ts:Int)/16)=true:=by simp;omega
     go_wp2_with(first
      |(go_at_call 60;(refine(HTb.out _ HA.out).mono ?_);rintro e w2 ⟨A2,c2,rfl,hb2,hi2⟩;have B2:=jH (HA.out.trans (hb2.mono HA.out.size));clear hb2 hi2)
      |fail)
     go_ret2
     first|exact⟨B2.out,none,0,rfl,fun i hi=>absurd hi (Nat.not_lt_zero i)⟩|exact⟨B2.out,none,⟨0,rfl⟩,fun i hi=>absurd hi (Nat.not_lt_zero i)⟩
   ·have hcd:=HCD.out
    rw[if_pos hz]at hcd
    have hnm:=HNM.out
    rw[if_neg (by rw[hcd];exact hz)]at hnm
    subst hcd
    subst hnm
    have dz:(cc !=0)=true:=by simpa using hz
    go_wp2_with(first
     |(go_at_call 60;(refine(HTb.out _ HA.out).mono ?_);rintro e w2 ⟨A2,c2,rfl,hb2,hi2⟩;have B2:=jH (HA.out.trans (hb2.mono HA.out.size));clear hb2 hi2)
     |fail)
    go_ret2
    first|exact⟨B2.out,none,0,rfl,fun i hi=>absurd hi (Nat.not_lt_zero i)⟩|exact⟨B2.out,none,⟨0,rfl⟩,fun i hi=>absurd hi (Nat.not_lt_zero i)⟩
  ·rw[if_neg (by decide)]at hta hs0
   go_upto_region 3 with fail
   obtain⟨_,_,k4,k5,_⟩:=CC.out _ HA.out.drew
   have D3:=jH HA.out.drew
   go_cut [6,7]from 22 to 35 (fun x y wx=>x= .int .u64 (h.N 4)∧y= .int .u64 (ts:Int)∧Hid (Below w.heap.size w wx))
   case first=>
    go_region
    all_goals
     go_wp2_with fail
     go_meet
     case rel=>first|exact⟨rfl,rfl,D3⟩|exact⟨rfl,by rw[←hs0],D3⟩|exact⟨by rw[hta],by rw[←hs0],D3⟩
   case rest=>
    rename World=>wB
    obtain⟨rfl,rfl,HA⟩:=hcut
    clear k4 k5
    rw[hta]at hwo
    clear hta
    obtain⟨_,_,_,_,k91⟩:=CC.out _ HA.out
    by_cases hz:tc=0
    ·subst hz
     have hcd:=HCD.out
     rw[if_neg (by decide)]at hcd
     by_cases hq:tn=ts/16
     ·rw[if_pos hq]at hcd
      have hnm:=HNM.out
      rw[if_pos hcd]at hnm
      subst hcd
      subst hnm
      have dq:((nn:Int)!=(ts:Int)/16)=false:=by simp;omega
      go_wp2_with(first
       |(go_at_call 60;(refine(HTb.out _ HA.out).mono ?_);rintro e w2 ⟨A2,c2,rfl,hb2,hi2⟩;have B2:=jH (HA.out.trans (hb2.mono HA.out.size));have I2:=jH hi2;clear hb2 hi2)
       |fail)
      go_ret2
      exact⟨B2.out,A2,c2,by rw[hq];rfl,I2.out⟩
     ·rw[if_neg hq]at hcd
      have hnm:=HNM.out
      rw[if_neg (by rw[hcd];decide)]at hnm
      subst hcd
      subst hnm
      have dq:((tn:Int)!=(ts:Int)/16)=true:=by simp;omega
      go_wp2_with(first
       |(go_at_call 60;(refine(HTb.out _ HA.out).mono ?_);rintro e w2 ⟨A2,c2,rfl,hb2,hi2⟩;have B2:=jH (HA.out.trans (hb2.mono HA.out.size));clear hb2 hi2)
       |fail)
      go_ret2
      first|exact⟨B2.out,none,0,rfl,fun i hi=>absurd hi (Nat.not_lt_zero i)⟩|exact⟨B2.out,none,⟨0,rfl⟩,fun i hi=>absurd hi (Nat.not_lt_zero i)⟩
    ·have hcd:=HCD.out
     rw[if_pos hz]at hcd
     have hnm:=HNM.out
     rw[if_neg (by rw[hcd];exact hz)]at hnm
     subst hcd
     subst hnm
     have dz:(cc !=0)=true:=by simpa using hz
     go_wp2_with(first
      |(go_at_call 60;(refine(HTb.out _ HA.out).mono ?_);rintro e w2 ⟨A2,c2,rfl,hb2,hi2⟩;have B2:=jH (HA.out.trans (hb2.mono HA.out.size));clear hb2 hi2)
      |fail)
     go_ret2
     first|exact⟨B2.out,none,0,rfl,fun i hi=>absurd hi (Nat.not_lt_zero i)⟩|exact⟨B2.out,none,⟨0,rfl⟩,fun i hi=>absurd hi (Nat.not_lt_zero i)⟩
end Vh
namespace Vc
open Bytes8 Blk8 Own8 OwnE OwnA Rows2 Ob Ga Gb Gi Ok7 Np Nr Sg Pr8 Fa Fsp Fe Dc Ya Hm Se Rc Rk Rm Rr Va Vb
open Yc Yp Yd Ye Yg Yh
open Rn (payP rcodeF rcode RC rc_of icode_hash icode_other icode_split In2.older splitN_len splitV_len split_okP LR.start ent_range recL_all ent_cell natOf)
open Ri (ecode9 ez)
open Rd (dcode dz)
theorem rxorI_any (a:Option Addr)(n cap:Nat)(A:Nat→Option Addr)(L C:Nat→Nat)(P:Nat→List Int)(w:World)(h:InRows w a n A L C P)(hn:n≤1000000)(hL: ∀r,r<n→L r≤800000):
 Calls Tryz.prog 133 #[.slice a n cap] w fun e w'=>e= .returned (.int .u64 ((xr (rowsL P n):Nat):Int))∧w=w':=by
 have HR:=jH h
 clear h
 go_enter Tryz.func133,Tryz.ntmps133
 go_wp2
 go_loopw [3,4] (fun s i wr=> ∃k:Nat,k≤n∧i= .int .i64 (k:Int)∧s= .int .u64 ((xr (rowsL P k):Nat):Int)∧wr=w) (fun _ i _=>n-natOf i)
 case atStart=>exact⟨0,Nat.zero_le _,rfl,rfl,rfl⟩
 case round=>
  obtain⟨k,hk,rfl,rfl,rfl⟩:=hrel
  by_cases hlt:k<n
  ·obtain⟨b,off,rfl,hb,hc,hby,hl,hcap,hmax⟩:=HR.out k hlt
   have HLk:=hL k hlt
   have HLook:=jH (rlook_all (A k) (P k) (L k) (C k) wr hby hl (by omega))
   have HX:=jH (xr_bits P k)
   have hk0:(0:Int)≤(k:Int):=by omega
   have hkn:(k:Int)<(n:Int):=by omega
   clear hby hl hcap hmax
   generalize P k=q at*
   go_wp2_with(first|(go_at_call 138;(with_reducible refine HLook.out.mono ?_);rintro e w2 ⟨rfl,rfl⟩)|fail)
   go_roundw
   case rel=>exact⟨k+1,by omega,by go_num,by rw[HX.out],trivial⟩
   case measure=>simp[natOf];omega
  ·obtain rfl:k=n:=by omega
   go_wp2
   go_ret
   exact⟨rfl,rfl⟩
theorem hcode_fine2 {h:HD}{l:List Int}{n a:Nat}(hz:hcode9 h l n a=0):payT h l n a=bpay l a 1 6∧hH h l n a=bnum l a 1 6 0:=⟨if_pos hz,if_pos hz⟩
attribute [local irreducible] wpList Code.wp ofS bnum bpay bcode hcode9 icode splitE splitN splitV xr rowsL prsL lcode payT hH
theorem rrecTell {gv:Nat}{h:HD}{d:Int}{A:Option Addr}{n c:Nat}{l:List Int}(a:Nat)(w:World)(v:ViewR w gv h d A n c l):
 Calls Tryz.prog 68 #[.pointer (some ⟨gv,0,none⟩),.int .u64 (a:Int)] w (TellR (recP h l n a) (rcode h l n a) w):=by
 have b1:=jH ((Below.refl w.heap.size w).alloc (jR _) (.cells zR 67))
 have v1:=v.below b1.out
 have HV:=jH (rentTell a _ v1)
 have Vw:=jH fun(W:World) (hW:Below w.heap.size w W)=>v.below hW
 have Z1:=jH (heap_alloc_new w (.cells zR 67))
 have s1:=jH (show w.heap.size<(w.alloc (.cells zR 67)).heap.size by simp)
 have hll:l.length≤800000:=by have h1:=v.len;have h2:=v.big;omega
 unfold TellR
 have HRC:=jH (rc_of h l n (ecode9 h l n a) (eN l a) (itA (bodyL l a)) (itH (bodyL l a)) (eNum l a 40))
 have HP0:=jH (show rcode h l n a≠0→recP h l n a=⟨0,0,0,fun _=>0,0,[]⟩from fun hz=>if_neg hz)
 have HP1:=jH (show rcode h l n a=0→recP h l n a=⟨eNum l a 0,eNum l a 8,eNum l a 16,eK l a,eN l a,prsL (payP l (itA (bodyL l a))) (eN l a)⟩from fun hz=>if_pos hz)
 have hrd:rcode h l n a=rcodeF h l n (ecode9 h l n a) (eN l a) (itA (bodyL l a)) (itH (bodyL l a)) (eNum l a 40):=rfl
 rw[hrd]at HP0 HP1⊢
 clear hrd
 generalize rcodeF h l n (ecode9 h l n a) (eN l a) (itA (bodyL l a)) (itH (bodyL l a)) (eNum l a 40)=rc at*
 generalize recP h l n a=rp at*
 unfold TellE at HV
 by_cases hz:ecode9 h l n a≠0
 ·have hrc:=HRC.out.a hz
  rw[←hrc]at hz
  have hp:=HP0.out hz
  rw[←hrc]at HV
  subst hp
  clear v v1 HRC HP0 HP1 hrc
  generalize eN9 h l n a 0=x0 at*
  generalize eN9 h l n a 8=x8 at*
  generalize eN9 h l n a 16=x16 at*
  generalize eN9 h l n a 40=x40 at*
  generalize eK9 h l n a=kk at*
  generalize eC9 h l n a=mm at*
  have d1:(rc !=0)=true:=by simpa using hz
  go_enter Tryz.func68,Tryz.ntmps68
  go_upto_region 3 with(first
   |(go_at_call 64;(refine HV.out.mono ?_);rintro e w2 ⟨hb2,A2,c2,rfl,hy2,hw2⟩;have B2:=jH (b1.out.trans (hb2.mono b1.out.size));have Z2:=jH ((hb2.block _ s1.out).trans Z1.out);have SZ2:=jH (show w.heap.size<w2.heap.size from jL s1.out hb2.size);clear hb2 hy2 hw2)
   |((with_reducible apply at_store (.tmp 6) (.tmp 20));refine wpList_store_row rfl 137 (.tmp 6) (.tmp 20) rfl w2.heap.size (entL x0 x8 x16 kk x40 A2 mm c2).toArray rfl rfl 137 ez (heap_alloc_new w2 _) (by kernel_rfl) rfl (by first|exact ent_one _ _ _ _ _ _ _ _|exact z_one) ?_)
   |fail)
  have B23:=jH (show Below w2.heap.size w2 ((w2.alloc (.cells ez 137)).setRow w2.heap.size (entL x0 x8 x16 kk x40 A2 mm c2).toArray)from below_setRow ((Below.refl _ _).alloc (jR _) _) (jR _) _)
  generalize (w2.alloc (.cells ez 137)).setRow w2.heap.size (entL x0 x8 x16 kk x40 A2 mm c2).toArray=w3 at*
  have Z3:=jH ((B23.out.block _ SZ2.out).trans Z2.out)
  have B3:=jH (B2.out.trans (B23.out.mono B2.out.size))
  go_wp2_with(first
   |((with_reducible apply at_slot 24);refine Yz.wpList_build_as rfl 67 _ rfl zR (by kernel_rfl) ?_)
   |((with_reducible apply at_store (.tmp 4) (.tmp 24));refine wpList_store_row rfl 67 (.tmp 4) (.tmp 24) rfl w.heap.size zR rfl rfl 67 zR Z3.out (by kernel_rfl) rfl (recL_all 0 0 0 (fun _=>0) none 0 0) ?_)
   |fail)
  refine bodyPost_ret (v:= .tuple #[.agg zR,.int .i64 rc]) (by exact res_rowG Tryz.results68 _ _ w.heap.size 67 _ (0,0) _ _ rfl rfl (setRow_heap _ w.heap.size _ _ _ (0,0) Z3.out) Tryz.underlying67 rfl (by kernel_rfl)) rfl ?_
  first|exact⟨none,0,rfl,Prs.nil _ _,below_setRow B3.out (jR _) _⟩|exact⟨none,⟨0,rfl⟩,Prs.nil _ _,below_setRow B3.out (jR _) _⟩
 have hz:ecode9 h l n a=0:=by omega
 have hr:rng h n a:=by
  by_cases hr:rng h n a
  ·exact hr
  ·rw[show ecode9 h l n a=2 from if_neg hr]at hz;cases hz
 have q0: ∀i,eN9 h l n a i=eNum l a i:=fun i=>if_pos hr
 have q1:eK9 h l n a=eK l a:=if_pos hr
 have q2:eC9 h l n a=eN l a:=if_pos hr
 rw[hz,q0 0,q0 8,q0 16,q0 40,q1,q2]at HV
 rw[hz]at HRC
 clear q0 q1 q2 hr hz v v1
 generalize eNum l a 0=x0 at*
 generalize eNum l a 8=x8 at*
 generalize eNum l a 16=x16 at*
 generalize eNum l a 40=x40 at*
 generalize eK l a=kk at*
 generalize eN l a=mm at*
 generalize itA (bodyL l a)=fa at*
 generalize itH (bodyL l a)=fh at*
 go_enter Tryz.func68,Tryz.ntmps68
 go_upto_region 4 with(first
  |(go_at_call 64;(refine HV.out.mono ?_);rintro e w2 ⟨hb2,A2,c2,rfl,hy2,hw2⟩;have B2:=jH (b1.out.trans (hb2.mono b1.out.size));have IT2:=jH hy2;have Z2:=jH ((hb2.block _ s1.out).trans Z1.out);have SZ2:=jH (show w.heap.size<w2.heap.size from jL s1.out hb2.size);clear hb2 hy2 hw2)
  |((with_reducible apply at_store (.tmp 6) (.tmp 20));refine wpList_store_row rfl 137 (.tmp 6) (.tmp 20) rfl w2.heap.size (entL x0 x8 x16 kk x40 A2 mm c2).toArray rfl rfl 137 ez (heap_alloc_new w2 _) (by kernel_rfl) rfl (by first|exact ent_one _ _ _ _ _ _ _ _|exact z_one) ?_)
  |fail)
 have R3:=jH (show Blk ((w2.alloc (.cells ez 137)).setRow w2.heap.size (entL x0 x8 x16 kk x40 A2 mm c2).toArray) w2.heap.size (entL x0 x8 x16 kk x40 A2 mm c2) 137 from setRow_heap _ _ _ _ _ (0,0) (heap_alloc_new w2 _))
 have B23:=jH (show Below w2.heap.size w2 ((w2.alloc (.cells ez 137)).setRow w2.heap.size (entL x0 x8 x16 kk x40 A2 mm c2).toArray)from below_setRow ((Below.refl _ _).alloc (jR _) _) (jR _) _)
 generalize (w2.alloc (.cells ez 137)).setRow w2.heap.size (entL x0 x8 x16 kk x40 A2 mm c2).toArray=w3 at*
 have B3:=jH (B2.out.trans (B23.out.mono B2.out.size))
 have IT3:=jH (In2.older IT2.out B23.out)
 have Z3:=jH ((B23.out.block _ SZ2.out).trans Z2.out)
 have hsz3:w.heap.size<w3.heap.size:=jL SZ2.out B23.out.size
 have hs5:w2.heap.size<w3.heap.size:=R3.out.lt
 generalize w2.heap.size=s5 at*
 obtain⟨c0,c1,c2',c19,c20⟩:=ent_cell R3.out
 clear HV B2 IT2 Z2 SZ2 B23 Z1 s1
 by_cases h16:16<mm
 ·have hrc:=HRC.out.b rfl h16
  subst hrc
  have hp:=HP0.out (by decide)
  subst hp
  have dd:decide ((mm:Int)>16)=true:=by simp;omega
  clear c0 c1 c2' c19 HRC HP0 HP1
  go_upto_region 5 with fail
  go_wp2_with(first
   |((with_reducible apply at_slot 30);refine Yz.wpList_build_as rfl 67 _ rfl zR (by kernel_rfl) ?_)
   |((with_reducible apply at_store (.tmp 4) (.tmp 30));refine wpList_store_row rfl 67 (.tmp 4) (.tmp 30) rfl w.heap.size zR rfl rfl 67 zR Z3.out (by kernel_rfl) rfl (recL_all 0 0 0 (fun _=>0) none 0 0) ?_)
   |fail)
  refine bodyPost_ret (v:= .tuple #[.agg zR,.int .i64 21]) (by exact res_rowG Tryz.results68 _ _ w.heap.size 67 _ (0,0) _ _ rfl rfl (setRow_heap _ w.heap.size _ _ _ (0,0) Z3.out) Tryz.underlying67 rfl (by kernel_rfl)) rfl ?_
  first|exact⟨none,0,rfl,Prs.nil _ _,below_setRow B3.out (jR _) _⟩|exact⟨none,⟨0,rfl⟩,Prs.nil _ _,below_setRow B3.out (jR _) _⟩
 have dd:decide ((mm:Int)>16)=false:=by simp;omega
 have HRg:=jH (ent_range R3.out)
 go_upto_region 7 with(first
  |((with_reducible apply at_slot 38);refine wpList_load_mid rfl 57 (.tmp 37) rfl s5 3 rfl (idJ kk) _ HRg.out Tryz.underlying57 rfl (idJ_info _) ?_)
  |((with_reducible apply at_slot 39);refine Yz.wpList_build_as rfl 67 _ rfl (recL x0 x8 x16 kk (.slice none 0 0)).toArray (by kernel_rfl) ?_)
  |((with_reducible apply at_store (.tmp 8) (.tmp 39));refine wpList_store_row rfl 67 (.tmp 8) (.tmp 39) rfl w3.heap.size (recL x0 x8 x16 kk (.slice none 0 0)).toArray rfl rfl 67 zR (heap_alloc_new w3 _) (recInfo _ _ _ _ _) rfl (recL_all _ _ _ _ _ _ _) ?_)
  |fail)
 have R5:=jH (show Blk ((w3.alloc (.cells zR 67)).setRow w3.heap.size (recL x0 x8 x16 kk (.slice none 0 0)).toArray) w3.heap.size (recL x0 x8 x16 kk (.slice none 0 0)) 67 from setRow_heap _ _ _ _ _ (0,0) (heap_alloc_new w3 _))
 have B35:=jH (show Below w3.heap.size w3 ((w3.alloc (.cells zR 67)).setRow w3.heap.size (recL x0 x8 x16 kk (.slice none 0 0)).toArray)from below_setRow ((Below.refl _ _).alloc (jR _) _) (jR _) _)
 generalize (w3.alloc (.cells zR 67)).setRow w3.heap.size (recL x0 x8 x16 kk (.slice none 0 0)).toArray=w5 at*
 generalize hs6:w3.heap.size=s6 at*
 have L0:=jH (LR.start (P:=payP l fa) B35.out R5.out)
 have HS6:=jH hs6.symm
 clear c0 c1 c2' c19 c20 HRg R5 B35 hs6
 go_upto_region 9 with fail
 go_loopw [9,10] (fun p i wr=> ∃(k:Nat) (F:Option Addr) (cF:Nat) (PA:Option Addr) (cP:Nat) (rows:List Row4),p= .slice PA k cP∧i= .int .i64 (k:Int)∧k≤mm∧Hid (LR w3 wr s6 x0 x8 x16 kk (payP l fa) F cF PA cP rows k k)∧Hid (rows.length=k)∧Hid (∀i,i<k→icode h l n fa fh i=0)) (fun _ i _=>mm-natOf i)
 case atStart=>exact⟨0,none,0,none,0,[],rfl,rfl,Nat.zero_le _,L0,jH rfl,jH (fun i hi=>absurd hi (Nat.not_lt_zero i))⟩
 case round=>
  obtain⟨k,F,cF,PA,cP,rows,rfl,rfl,hk,HL,HLen,HFine⟩:=hrel
  have BW:=jH (show Below w.heap.size w wr from B3.out.trans (HL.out.old.mono (by omega)))
  have B3r:=jH (show Below w3.heap.size w3 wr from HS6.out▸HL.out.old)
  have Er:=jH (R3.out.below B3r.out (by have:=HS6.out;omega))
  have Zr:=jH ((B3r.out.block w.heap.size (by have:=HS6.out;omega)).trans Z3.out)
  have hszr:w.heap.size<wr.heap.size:=jL (by have:=HS6.out;omega) B3r.out.size
  have e20:=(ent_cell Er.out).2.2.2.2
  by_cases hlt:k<mm
  ·have d1:decide ((k:Int)<(mm:Int))=true:=by simp;omega
   have HRCk:=jH fun(e:icode h l n fa fh k≠0)=>HRC.out.c rfl (by omega) k hlt HFine.out e
   obtain⟨bI,oI,rfl,hbI,ci1,ci2,hf1,hf2⟩:=(In2.older IT3.out B3r.out) k hlt
   obtain⟨ak,hak⟩: ∃ak:Nat,fa k=(ak:Int):=⟨(fa k).toNat,by omega⟩
   rw[hak]at ci1
   have HAK:=jH hak
   have HPk:=jH (show payP l fa k=bpay l ak 1 6 by unfold payP;rw[hak,Int.toNat_natCast])
   clear hak hf1
   generalize hg2:fh k=g2 at*
   have HG2:=jH hg2
   clear hg2
   have CI2:=jH fun(W:World) (hW:Below wr.heap.size wr W)=>show W.cell? ⟨bI,oI+k*2+1,none⟩=some (.int .u64 g2)from(hW.cell (p:=⟨bI,oI+k*2+1,none⟩) hbI).trans ci2
   have HH:=jH (rpayTell ak wr (Vw.out wr BW.out))
   unfold TellH at HH
   have hk0:(0:Int)≤(k:Int):=by omega
   have hkn:(k:Int)<(mm:Int):=by omega
   clear B3r ci2
   by_cases hc:hcode9 h l n ak=0
   ·obtain⟨t1,t2⟩:=hcode_fine2 hc
    rw[hc,t1,t2]at HH
    clear t1 t2
    have HBp:=jH (bpay_pos (hcode_fine hc))
    have HI1:=jH fun(e:bnum l ak 1 6 0≠fh k)=>icode_other (fh:=fh) HAK.out hc e
    have HI2:=jH fun(e:bnum l ak 1 6 0=fh k)=>icode_split (fh:=fh) HAK.out hc e
    have HPl:=jH (show(bpay l ak 1 6).length≤800000 from Nat.le_trans (bpay_le l ak 1 6) hll)
    rw[HG2.out]at HI1 HI2
    generalize bnum l ak 1 6 0=y0 at*
    generalize bpay l ak 1 6=pl at*
    go_upto_region 14 with(first
     |(go_at_call 67;(refine HH.out.mono ?_);rintro e w8 ⟨hb7,A3,m3,c3,rfl,hy7,hl7,hm7⟩;have B68:=jH hb7;have HY8:=jH hy7;have HC7:=jH hm7;clear hb7 hy7 hm7)
     |fail)
    obtain⟨b3,o3,rfl,hb38,_⟩:=HY8.out.2 0 (by rw[←hl7]at*;exact HBp.out)
    have BW8:=jH (BW.out.trans (B68.out.mono BW.out.size))
    have HL8:=jH (HL.out.below B68.out)
    have E8:=jH (Er.out.below B68.out Er.out.lt)
    have Z8:=jH ((B68.out.block w.heap.size hszr).trans Zr.out)
    have f20:=(ent_cell E8.out).2.2.2.2
    have ci2:=CI2.out w8 B68.out
    have HFr:=jH (show s6<b3∧ownB F≠some b3∧ownB PA≠some b3 from by
     have h1:=HC7.out.2.2.2 b3 o3 rfl
     have h2:=HL.out.lt
     refine⟨by omega,fun e=>?_,fun e=>?_⟩
     ·have:=(OwnE.ltB HL.out.fld.2.2 b3 e).2;omega
     ·have:=(OwnE.ltB HL.out.own b3 e).2;omega)
    have HCc:=jH (show m3≤c3∧c3≤maxLen from⟨HC7.out.2.1,HC7.out.2.2.1⟩)
    clear HH ci1 e20 HC7 HL BW
    by_cases he:y0=g2
    ·have d2:(y0 !=g2)=false:=by simp[he]
     have HI:=jH (HI2.out he)
     clear HI1 HI2
     go_upto_region 16 with fail
     have HSp:=jH (rsplit_any (some ⟨b3,o3,none⟩) pl m3 c3 w8 HY8.out hl7 (by have:=HPl.out;omega) HCc.out.1 HCc.out.2)
     unfold Splitted at HSp
     clear d1 d2 ci2 f20
     by_cases hsp:splitE pl=0
     ·have hI0:icode h l n fa fh k=0:=HI.out.trans hsp
      rw[hsp]at HSp
      have HI00:=jH hI0
      have HOk:=jH (show okP (splitN pl,splitV pl)from split_okP HY8.out.1 (by have:=HPl.out;omega))
      clear HI hsp hI0
      go_upto_region 17 with(first
       |(go_at_call 132;(refine HSp.out.mono ?_);rintro e w9 ⟨rfl,hb9⟩;have B89:=jH hb9;clear hb9)
       |fail)
      have hs9:=jR w9.heap.size
      have Rp:=jH (show Blk (w9.alloc (.cells #[.string (T (splitN pl)),.string (T (splitV pl))] 88)) w9.heap.size [.string (T (splitN pl)),.string (T (splitV pl))] 88 from Blk.new w9 _ _)
      have B8A:=jH (show Below w8.heap.size w8 (w9.alloc (.cells #[.string (T (splitN pl)),.string (T (splitV pl))] 88))from B89.out.alloc B89.out.size _)
      have hsA:w8.heap.size≤w9.heap.size:=B89.out.size
      generalize w9.alloc (.cells #[.string (T (splitN pl)),.string (T (splitV pl))] 88)=wA at*
      generalize w9.heap.size=s14 at*
      have HLA:=jH (HL8.out.below B8A.out)
      have HYA:=jH (HY8.out.below B8A.out (jR _))
      have HSf:=jH (show ownB F≠some s14∧ownB PA≠some s14 from⟨fun e=>by have:=(OwnE.ltB HL8.out.fld.2.2 _ e).2;omega,fun e=>by have:=(OwnE.ltB HL8.out.own _ e).2;omega⟩)
      have hs6A:s6<s14:=jL HL8.out.lt hsA
      go_upto_region 19 with fail
      have HLB:=jH (HLA.out.below ((Below.refl _ _).alloc (jR _) (.cells #[.slice (some ⟨b3,o3,none⟩) m3 c3] 25)))
      have HYB:=jH (HYA.out.below ((Below.refl _ _).alloc (jR _) (.cells #[.slice (some ⟨b3,o3,none⟩) m3 c3] 25)) (jR _))
      have RpB:=jH (Rp.out.alloc (.cells #[.slice (some ⟨b3,o3,none⟩) m3 c3] 25))
      have hszB:wA.heap.size<(wA.alloc (.cells #[.slice (some ⟨b3,o3,none⟩) m3 c3] 25)).heap.size:=by simp
      have hb3A:b3<wA.heap.size:=jL hb38 B8A.out.size
      go_upto_region 20 with(first
       |(at_builtin;refine wpList_append_elt_at Yb.rowElt rfl (.tmp 81) (.tmp 83) rfl (s6+1) PA k cP (rows.map Row4.v) rfl HLB.out.own ⟨wA.heap.size,0,none⟩ 1 1 [.slice (some ⟨b3,o3,none⟩) m3 c3] rfl rfl (Blk.news (Blk.new wA _ _)) (by intro u hu;simp at hu;rw[hu];rfl) (by omega) (by omega) (by unfold maxLen;omega) ?_;intro PA2 cP2 w16 ho16 hg16 hat16;have HL16:=jH (LR.payload HLB.out ⟨b3,o3,m3,c3⟩ HLen.out (by rw[HPk.out];exact⟨HYB.out,hl7,HCc.out.1,HCc.out.2,show m3≤800000 from by have:=HPl.out;omega⟩) ⟨HFr.out.1,Nat.lt_trans hb3A hszB,HFr.out.2⟩ ho16 hg16 hat16);have Rp16:=jH (show Blk w16 s14 _ _ from(hg16.block s14 RpB.out.lt (fun e=>HSf.out.2 e.symm)).trans RpB.out);clear ho16 hg16 hat16)
       |fail)
      have g19:=HL16.out.rc.cell (i:=19) rfl
      have gp0:=Rp16.out.cell (i:=0) rfl
      have gp1:=Rp16.out.cell (i:=1) rfl
      have HL17:=jH (HL16.out.below ((Below.refl _ _).alloc (jR _) (.cells #[.string (T (splitN pl)),.string (T (splitV pl))] 88)))
      have hbuild:=jH (Blk.new w16 [.string (T (splitN pl)),.string (T (splitV pl))] 88)
      have hwk:IntKind.i64.wrap ((k:Int)+1)=((k+1:Nat):Int):=by rw[IntKind.wrap_i64];omega
      go_wp2_with(first
       |(at_builtin;refine wpList_append_elt_at pairElt rfl (.tmp 86) (.tmp 88) rfl (s6+1) F k cF (cellsP (prsL (payP l fa) k)) rfl HL17.out.fld.2.2 ⟨w16.heap.size,0,none⟩ 1 1 [.string (T (splitN pl)),.string (T (splitV pl))] rfl rfl (Blk.news hbuild.out) (by intro u hu;simp at hu;rcases hu with rfl|rfl<;>rfl) (by omega) (by omega) (by unfold maxLen;omega) ?_;intro F2 cF2 w18 ho18 hg18 hat18;have HL18:=jH (LR.field HL17.out (by rw[HPk.out];exact HOk.out) (by rw[HPk.out];exact ho18) hg18 hat18);have k19:=(show Blk w18 s6 _ _ from(hg18.block s6 HL17.out.lt (fun e=>by have:=(OwnE.ltB HL17.out.fld.2.2 s6 e.symm).1;omega)).trans HL17.out.rc).cell (i:=19) rfl;have z19:=(show Blk w18 s6 _ _ from(hg18.block s6 HL17.out.lt (fun e=>by have:=(OwnE.ltB HL17.out.fld.2.2 s6 e.symm).1;omega)).trans HL17.out.rc).frozen 19;clear ho18 hg18 hat18)
       |fail)
      go_roundw
      case rel=>exact⟨k+1,F2,cF2,PA2,cP2,rows++ [⟨b3,o3,m3,c3⟩],rfl,rfl,by omega,HL18,jH (by rw[List.length_append,HLen.out];rfl),jH (fun i hi=>by rcases Nat.lt_or_ge i k with h1|h1;(exact HFine.out i h1);have e:i=k:=by {omega};subst e;exact HI00.out)⟩
      case measure=>simp[natOf];omega
     ·have hsp2:(splitE pl !=0)=true:=by simpa using hsp
      have hne:icode h l n fa fh k≠0:=by rw[HI.out];exact hsp
      have hrc:=HRCk.out hne
      rw[HI.out]at hrc
      have hp:=HP0.out (by rw[hrc];exact hsp)
      subst hp
      subst hrc
      clear hne HI
      go_upto_region 18 with(first
       |(go_at_call 132;(refine HSp.out.mono ?_);rintro e w9 ⟨rfl,hb9⟩;have B9:=jH (BW8.out.trans (hb9.mono BW8.out.size));have Z9:=jH ((hb9.block w.heap.size (jL hszr B68.out.size)).trans Z8.out);have SZ9:=jH (show w.heap.size<w9.heap.size from jL hszr (Nat.le_trans B68.out.size hb9.size));clear hb9)
       |fail)
      have Z10:=jH ((Below.heap_alloc w9 (.cells #[.string (T (splitN pl)),.string (T (splitV pl))] 88) w.heap.size SZ9.out).trans Z9.out)
      have B10:=jH (B9.out.alloc B9.out.size (.cells #[.string (T (splitN pl)),.string (T (splitV pl))] 88))
      generalize w9.alloc (.cells #[.string (T (splitN pl)),.string (T (splitV pl))] 88)=w10 at*
      go_wp2_with(first
       |((with_reducible apply at_slot 79);refine Yz.wpList_build_as rfl 67 _ rfl zR (by kernel_rfl) ?_)
       |((with_reducible apply at_store (.tmp 4) (.tmp 79));refine wpList_store_row rfl 67 (.tmp 4) (.tmp 79) rfl w.heap.size zR rfl rfl 67 zR Z10.out (by kernel_rfl) rfl (recL_all 0 0 0 (fun _=>0) none 0 0) ?_)
       |fail)
      refine bodyPost_ret (v:= .tuple #[.agg zR,.int .i64 (splitE pl)]) (by exact res_rowG Tryz.results68 _ _ w.heap.size 67 _ (0,0) _ _ rfl rfl (setRow_heap _ w.heap.size _ _ _ (0,0) Z10.out) Tryz.underlying67 rfl (by kernel_rfl)) rfl ?_
      first|exact⟨none,0,rfl,Prs.nil _ _,below_setRow B10.out (jR _) _⟩|exact⟨none,⟨0,rfl⟩,Prs.nil _ _,below_setRow B10.out (jR _) _⟩
    ·have d2:(y0 !=g2)=true:=by simpa using he
     have hrc:=HRCk.out (by rw[HI1.out he];decide)
     rw[HI1.out he]at hrc
     have hp:=HP0.out (by rw[hrc];decide)
     subst hp
     subst hrc
     clear HI1 HI2
     go_upto_region 15 with fail
     go_wp2_with(first
      |((with_reducible apply at_slot 71);refine Yz.wpList_build_as rfl 67 _ rfl zR (by kernel_rfl) ?_)
      |((with_reducible apply at_store (.tmp 4) (.tmp 71));refine wpList_store_row rfl 67 (.tmp 4) (.tmp 71) rfl w.heap.size zR rfl rfl 67 zR Z8.out (by kernel_rfl) rfl (recL_all 0 0 0 (fun _=>0) none 0 0) ?_)
      |fail)
     refine bodyPost_ret (v:= .tuple #[.agg zR,.int .i64 9]) (by exact res_rowG Tryz.results68 _ _ w.heap.size 67 _ (0,0) _ _ rfl rfl (setRow_heap _ w.heap.size _ _ _ (0,0) Z8.out) Tryz.underlying67 rfl (by kernel_rfl)) rfl ?_
     first|exact⟨none,0,rfl,Prs.nil _ _,below_setRow BW8.out (jR _) _⟩|exact⟨none,⟨0,rfl⟩,Prs.nil _ _,below_setRow BW8.out (jR _) _⟩
   ·have HI:=jH (icode_hash (fh:=fh) HAK.out hc)
    have hrc:=HRCk.out (by rw[HI.out];exact hc)
    rw[HI.out]at hrc
    have hp:=HP0.out (by rw[hrc];exact hc)
    subst hp
    subst hrc
    clear HI HRCk HRC HP0 HP1
    have d2:(hcode9 h l n ak !=0)=true:=by simpa using hc
    generalize hH h l n ak=hh at*
    generalize payT h l n ak=pt at*
    go_upto_region 13 with(first
     |(go_at_call 67;(refine HH.out.mono ?_);rintro e w8 ⟨hb7,A3,m3,c3,rfl,hy7,hl7,hm7⟩;have B8:=jH (BW.out.trans (hb7.mono BW.out.size));have Z8:=jH ((hb7.block w.heap.size hszr).trans Zr.out);clear hb7 hy7 hm7)
     |fail)
    go_wp2_with(first
     |((with_reducible apply at_slot 61);refine Yz.wpList_build_as rfl 67 _ rfl zR (by kernel_rfl) ?_)
     |((with_reducible apply at_store (.tmp 4) (.tmp 61));refine wpList_store_row rfl 67 (.tmp 4) (.tmp 61) rfl w.heap.size zR rfl rfl 67 zR Z8.out (by kernel_rfl) rfl (recL_all 0 0 0 (fun _=>0) none 0 0) ?_)
     |fail)
    refine bodyPost_ret (v:= .tuple #[.agg zR,.int .i64 (hcode9 h l n ak)]) (by exact res_rowG Tryz.results68 _ _ w.heap.size 67 _ (0,0) _ _ rfl rfl (setRow_heap _ w.heap.size _ _ _ (0,0) Z8.out) Tryz.underlying67 rfl (by kernel_rfl)) rfl ?_
    first|exact⟨none,0,rfl,Prs.nil _ _,below_setRow B8.out (jR _) _⟩|exact⟨none,⟨0,rfl⟩,Prs.nil _ _,below_setRow B8.out (jR _) _⟩
  ·have hkm:k=mm:=by omega
   subst hkm
   have d1:decide ((k:Int)<(k:Int))=false:=by simp
   have HX:=jH (show True∧Calls Tryz.prog 133 #[.slice PA k cP] wr.drew fun e w'=>e= .returned (.int .u64 ((xr (rowsL (payP l fa) k):Nat):Int))∧wr.drew=w' from by
    obtain⟨Ax,Lx,Cx,hx1,hx2⟩:=LR.inRows (HL.out.below (Below.refl wr.heap.size wr).drew) HLen.out
    exact⟨trivial,rxorI_any PA k cP Ax Lx Cx _ _ hx1 (by omega) hx2⟩)
   have Sd:=jH (show wr.drew.cell? ⟨s5,19,none⟩=some (.int .u64 x40)from(ent_cell Er.out.drew).2.2.2.1)
   have HXD:=jH fun(e:x40≠((xr (rowsL (payP l fa) k):Nat):Int))=>HRC.out.d rfl (by omega) HFine.out e
   have HXE:=jH fun(e:x40=((xr (rowsL (payP l fa) k):Nat):Int))=>HRC.out.e rfl (by omega) HFine.out e
   generalize ((xr (rowsL (payP l fa) k):Nat):Int)=xx at*
   go_upto_region 21 with fail
   clear e20
   refine wp_region_held_drew (S:=fun W:World=>W.cell? ⟨s5,19,none⟩=some (.int .u64 x40)) (by kernel_rfl) (by exact Sd.out) (fun hHeld=>?_)
   refine tk (i:=0) (oi:=⟨some 91,_,_,_,_,_⟩) (v:=?_) rfl (Or.inl ⟨by rfl,?_⟩) ?_
   rotate_left
   ·intro W hSw;have x19:=hSw;go_simp;try (with_reducible rfl)
   try simp only[Act.put,sA,sZ,sS]
   refine tk (i:=1) (oi:=⟨some 92,_,_,_,_,_⟩) (v:=?_) rfl (Or.inl ⟨by rfl,?_⟩) ?_
   rotate_left
   ·intro W hSw;have x19:=hSw;go_simp;try (with_reducible rfl)
   try simp only[Act.put,sA,sZ,sS]
   refine tk (i:=2) (oi:=⟨some 93,_,_,_,_,_⟩) (v:=?_) rfl (Or.inl ⟨by rfl,?_⟩) ?_
   rotate_left
   ·intro W hSw;have x19:=hSw;go_simp;try (with_reducible rfl)
   try simp only[Act.put,sA,sZ,sS]
   refine wpAnyH_ready (rs:=[3]) (by kernel_rfl) (by simp) ?_
   refine AllReadyH.cons (o:=⟨some 94,_,_,_,_,_⟩) rfl (fun K hK=>?_) AllReadyH.nil
   go_simp
   ((refine(HX.out.2).mono ?_);rintro e w7 ⟨rfl,rfl⟩)
   try go_wp2_with fail
   refine hK.out _ _ (by exact Sd.out) (fun hHeld=>?_)
   clear hK K
   try simp only[Act.put,sA,sZ,sS]
   refine tk (i:=4) (oi:=⟨some 95,_,_,_,_,_⟩) (v:=?_) rfl (Or.inl ⟨by rfl,?_⟩) ?_
   rotate_left
   ·intro W hSw;have x19:=hSw;go_simp;try (with_reducible rfl)
   try simp only[Act.put,sA,sZ,sS]
   refine wpAnyH_done (by kernel_rfl) ?_ _
   have HLd:=jH (HL.out.below (Below.refl wr.heap.size wr).drew)
   have Zd:=jH (show wr.drew.heap[w.heap.size]? =_ from Zr.out)
   have BWd:=jH BW.out.drew
   by_cases he:x40=xx
   ·have d2:(x40 !=xx)=false:=by simp[he]
    have hrc:=HXE.out he
    have hp:=HP1.out hrc
    subst hp
    subst hrc
    go_wp2_with(first
     |((with_reducible apply at_slot 97);refine wpList_load_row rfl 67 (.tmp 8) rfl s6 rfl 67 (recL x0 x8 x16 kk (.slice F k cF)).toArray (0,0) _ HLd.out.rc Tryz.underlying67 rfl (recInfo _ _ _ _ _) ?_)
     |((with_reducible apply at_store (.tmp 4) (.tmp 97));refine wpList_store_row rfl 67 (.tmp 4) (.tmp 97) rfl w.heap.size (recL x0 x8 x16 kk (.slice F k cF)).toArray rfl rfl 67 zR Zd.out (recInfo _ _ _ _ _) rfl (recL_all _ _ _ _ _ _ _) ?_)
     |fail)
    refine bodyPost_ret (v:= .tuple #[.agg (recL x0 x8 x16 kk (.slice F k cF)).toArray,.int .i64 0]) (by exact res_rowG Tryz.results68 _ _ w.heap.size 67 _ (0,0) _ _ rfl rfl (setRow_heap _ w.heap.size _ _ _ (0,0) Zd.out) Tryz.underlying67 rfl (recInfo _ _ _ _ _)) rfl ?_
    exact⟨F,⟨cF,rfl⟩,Prs.keptB (HLd.out.fld.prs) (by simp) (fun b off e hb=>setRow_other _ w.heap.size b _ (by have h1:=(OwnE.ltB HLd.out.fld.2.2 b (by rw[e];rfl)).1;have:=HS6.out;omega)),below_setRow BWd.out (jR _) _⟩
   ·have d2:(x40 !=xx)=true:=by simpa using he
    have hrc:=HXD.out he
    have hp:=HP0.out (by rw[hrc];decide)
    subst hp
    subst hrc
    go_upto_region 22 with fail
    go_wp2_with(first
     |((with_reducible apply at_slot 96);refine Yz.wpList_build_as rfl 67 _ rfl zR (by kernel_rfl) ?_)
     |((with_reducible apply at_store (.tmp 4) (.tmp 96));refine wpList_store_row rfl 67 (.tmp 4) (.tmp 96) rfl w.heap.size zR rfl rfl 67 zR Zd.out (by kernel_rfl) rfl (recL_all 0 0 0 (fun _=>0) none 0 0) ?_)
     |fail)
    refine bodyPost_ret (v:= .tuple #[.agg zR,.int .i64 10]) (by exact res_rowG Tryz.results68 _ _ w.heap.size 67 _ (0,0) _ _ rfl rfl (setRow_heap _ w.heap.size _ _ _ (0,0) Zd.out) Tryz.underlying67 rfl (by kernel_rfl)) rfl ?_
    first|exact⟨none,0,rfl,Prs.nil _ _,below_setRow BWd.out (jR _) _⟩|exact⟨none,⟨0,rfl⟩,Prs.nil _ _,below_setRow BWd.out (jR _) _⟩
end Vc
end Go.Proofs.YtelmgldkgccecaaGreat
