/-
  Texts beneath the proof.
-/
import Derived.Test.YtiddkgcafpaekaaGreatQs35
set_option linter.unusedVariables false
set_option linter.unusedSimpArgs false
set_option maxRecDepth 100000
set_option maxHeartbeats 4000000
open Go.ChangeShapes Go.WideShapes Go.ChangeAt Go.RowKit
namespace Go.Proofs.YtiddkgcafpaekaaGreat
namespace Vb
open Bytes8 Blk8 Own8 OwnE Rows2 Ob Ga Gb Ok7 Np Sg Pr8 Rc Rj Rk Rm Rr Va
open Rd (dcode dz)
theorem rview_cell {w:World}{gv:Nat}{h:HD}{d:Int}{b v:Value}(hb:Blk w gv (h.cells 20++ [.int .u64 d,b]) 121){i:Nat}(hi:(h.cells 20)[i]? =some v):w.cell? ⟨gv,i,none⟩=some v:=by
 refine hb.cell ?_
 rw[List.getElem?_append_left (List.getElem?_eq_some_iff.1 hi).1]
 exact hi
theorem rview_ic (h:HD):(h.cells 20)[1]? =some (.int .u32 h.ic):=by
 rw[h.get 20 1 (by decide)]
 rfl
theorem rview_id {w:World}{gv:Nat}{h:HD}{d:Int}{b:Value}(hb:Blk w gv (h.cells 20++ [.int .u64 d,b]) 121):w.rangeAt gv 3 (idJ h.I):=fun j v hj=>by
 have hl:j<16:=(List.getElem?_eq_some_iff.1 hj).1
 refine rview_cell hb ((h.get_I 20 j (by omega)).trans ?_)
 rw[idJ_get h.I j hl]at hj
 exact hj
theorem dcode_rng {h:HD}{l:List Int}{n a:Nat}(hz:dcode h l n a=0):rng h n a:=by
 by_cases hr:rng h n a
 ·exact hr
 ·rw[show dcode h l n a=2 from if_neg hr]at hz;cases hz
def hH (h:HD)(l:List Int)(n a:Nat):Int:=if hcode9 h l n a=0 then bnum l a 1 6 0 else 0
def TellH (B:Nat)(h:HD)(l:List Int)(n a:Nat)(w:World)(e:Ending)(w':World):Prop:=Below w.heap.size w w'∧ ∃A' m c,e= .returned (.tuple #[.slice A' m c,.int .u64 (hH h l n a),.int .i64 (hcode9 h l n a)])∧Bytes w' A' (payT h l n a)∧(payT h l n a).length=m∧Cap B A' m c
attribute [local irreducible] HD.cells wpList Code.wp
theorem rvhash_any {gv:Nat}{h:HD}{d:Int}{A:Option Addr}{n c:Nat}{l:List Int}(A2:Option Addr)(pl:List Int)(m2 c2:Nat)(w:World)(v:ViewR w gv h d A n c l)(hb:Bytes w A2 pl)(hL:pl.length=m2)(hm:m2≤800000)(hc:m2≤c2)(hcm:c2≤maxLen):
 Calls Tryz.prog 115 #[.pointer (some ⟨gv,0,none⟩),.slice A2 m2 c2] w fun e w'=>e= .returned (.int .u64 (ofS (keyB h.ic) (idL h.I) pl))∧Below w.heap.size w w':=by
 have HOf:=yH fun(t:Bool)=>rof_any t h.I A2 pl m2 c2 w.drew (I_ok v.ok) hb.drew hL hm
 have c1:=rview_cell v.blk (rview_ic h)
 have Sd:=yH (show w.drew.cell? ⟨gv,1,none⟩=some (.int .u32 h.ic)∧w.drew.rangeAt gv 3 (idJ h.I)from⟨c1,rview_id v.blk⟩)
 have D:=yH (show Below w.heap.size w w.drew from(Below.refl w.heap.size w).drew)
 have HV:=yH v.blk
 clear v c1 hb hL
 go_enter Tryz.func115,Tryz.ntmps115
 go_upto_region 1 with fail
 refine wp_region_noPanic ?_
 refine wp_region_held_drew (S:=fun W:World=>W.cell? ⟨gv,1,none⟩=some (.int .u32 h.ic)∧W.rangeAt gv 3 (idJ h.I)) (by kernel_rfl) (by exact Sd.out) (fun hHeld=>?_)
 refine tk (i:=0) (oi:=⟨some 5,_,_,_,_,_⟩) (v:=?_) rfl (Or.inl ⟨by rfl,?_⟩) ?_
 rotate_left
 ·intro W hSw;go_simp;try (with_reducible rfl)
 try simp only[Act.put,sA,sZ,sS]
 refine tk (i:=1) (oi:=⟨some 6,_,_,_,_,_⟩) (v:=?_) rfl (Or.inl ⟨by rfl,?_⟩) ?_
 rotate_left
 ·intro W hSw;go_simp;try (with_reducible rfl)
 try simp only[Act.put,sA,sZ,sS]
 refine tk (i:=2) (oi:=⟨some 7,_,_,_,_,_⟩) (v:=?_) rfl (Or.inl ⟨by rfl,?_⟩) ?_
 rotate_left
 ·intro W hSw;go_simp;try (with_reducible rfl)
 try simp only[Act.put,sA,sZ,sS]
 refine tk (i:=3) (oi:=⟨some 8,_,_,_,_,_⟩) (v:=?_) rfl (Or.inl ⟨by rfl,?_⟩) ?_
 rotate_left
 ·intro W hSw;go_simp;try (with_reducible rfl)
 try simp only[Act.put,sA,sZ,sS]
 refine tk (i:=4) (oi:=⟨some 9,_,_,_,_,_⟩) (v:=?_) rfl (Or.inl ⟨by rfl,?_⟩) ?_
 rotate_left
 ·intro W hSw;have hSx:=hSw.1;go_simp;try (with_reducible rfl)
 try simp only[Act.put,sA,sZ,sS]
 refine tk (i:=5) (oi:=⟨some 10,_,_,_,_,_⟩) (v:=?_) rfl (Or.inl ⟨by rfl,?_⟩) ?_
 rotate_left
 ·intro W hSw;go_simp;try (with_reducible rfl)
 try simp only[Act.put,sA,sZ,sS]
 refine tk (i:=6) (oi:=⟨some 11,_,_,_,_,_⟩) (v:=?_) rfl (Or.inl ⟨by rfl,?_⟩) ?_
 rotate_left
 ·intro W hSw;go_simp;try (with_reducible rfl)
 try simp only[Act.put,sA,sZ,sS]
 refine tk (i:=7) (oi:=⟨some 12,_,_,_,_,_⟩) (v:=?_) rfl (Or.inl ⟨by rfl,?_⟩) ?_
 rotate_left
 ·intro W hSw;go_simp;try (with_reducible rfl)
 try simp only[Act.put,sA,sZ,sS]
 refine tk (i:=8) (oi:=⟨some 13,_,_,_,_,_⟩) (v:=?_) rfl (Or.inl ⟨by rfl,?_⟩) ?_
 rotate_left
 ·intro W hSw;go_simp;try (with_reducible rfl)
 try simp only[Act.put,sA,sZ,sS]
 refine tk (i:=9) (oi:=⟨some 14,_,_,_,_,_⟩) (v:=?_) rfl (Or.inl ⟨by rfl,?_⟩) ?_
 rotate_left
 ·intro W hSw;go_simp;try (with_reducible rfl)
 try simp only[Act.put,sA,sZ,sS]
 refine tk (i:=10) (oi:=⟨some 15,_,_,_,_,_⟩) (v:=?_) rfl (Or.inl ⟨by rfl,?_⟩) ?_
 rotate_left
 ·intro W hSw;go_simp;try (with_reducible rfl)
 try simp only[Act.put,sA,sZ,sS]
 refine tk (i:=11) (oi:=⟨some 16,_,_,_,_,_⟩) rfl (yieldsIf_load_mid (by rfl) _ _ rfl _ _ rfl _ _ (fun _ h=>h.2) Tryz.underlying37 rfl (idJ_info _)) ?_
 try simp only[Act.put,sA,sZ,sS]
 refine tk (i:=12) (oi:=⟨some 17,_,_,_,_,_⟩) (v:=?_) rfl (Or.inl ⟨by rfl,?_⟩) ?_
 rotate_left
 ·intro W hSw;go_simp;try (with_reducible rfl)
 try simp only[Act.put,sA,sZ,sS]
 refine wpAnyH_ready (rs:=[13]) (by kernel_rfl) (by simp) ?_
 refine AllReadyH.cons (o:=⟨some 18,_,_,_,_,_⟩) rfl (fun K hK=>?_) AllReadyH.nil
 go_simp
 ((refine(HOf.out _).mono ?_);rintro e w2 ⟨rfl,hb2⟩;have B2:=yH (D.out.trans hb2);have S2:=yH (show w2.cell? ⟨gv,1,none⟩=some (.int .u32 h.ic)∧w2.rangeAt gv 3 (idJ h.I)from⟨rview_cell (HV.out.below B2.out HV.out.lt) (rview_ic h),rview_id (HV.out.below B2.out HV.out.lt)⟩);clear hb2)
 try go_wp2_with fail
 refine hK.out _ _ (by exact S2.out) (fun hHeld=>?_)
 clear hK K
 try simp only[Act.put,sA,sZ,sS]
 refine tk (i:=14) (oi:=⟨some 4,_,_,_,_,_⟩) (v:=?_) rfl (Or.inl ⟨by rfl,?_⟩) ?_
 rotate_left
 ·intro W hSw;go_simp;try (with_reducible rfl)
 try simp only[Act.put,sA,sZ,sS]
 refine wpAnyH_done (by kernel_rfl) ?_ _
 refine NoPanic.normal ?_
 go_wp2
 go_ret
 exact⟨rfl,B2.out⟩
attribute [local irreducible] ofS bnum bpay bcode
theorem rpayTell {gv:Nat}{h:HD}{d:Int}{A:Option Addr}{n c:Nat}{l:List Int}(a:Nat)(w:World)(v:ViewR w gv h d A n c l):
 Calls Tryz.prog 170 #[.pointer (some ⟨gv,0,none⟩),.int .u64 (a:Int)] w (TellH w.heap.size h l n a w):=by
 have HV:=yH (rdataTell a w v)
 have HH:=yH fun(hr:rng h n a) (A2:Option Addr) (m2 c2:Nat) (B:Nat) (W:World) (hW:Below w.heap.size w W) (hb:Bytes W A2 (bpay l a 1 6)) (hL:(bpay l a 1 6).length=m2) (hcp:Cap B A2 m2 c2)=>rvhash_any A2 (bpay l a 1 6) m2 c2 W (v.below hW) hb hL (by have h1:=bpay_le l a 1 6;have h2:=v.len;have h3:=v.big;omega) hcp.2.1 hcp.2.2.1
 unfold TellD at HV
 unfold TellH
 by_cases hz:dcode h l n a=0
 ·have hr:=dcode_rng hz
  have e1:hcode9 h l n a=if bnum l a 1 6 0=ofS (keyB h.ic) (idL h.I) (bpay l a 1 6)then 0 else 9:=by unfold hcode9;rw[if_neg (by omega)]
  have eP:dP h l n a=bpay l a 1 6:=if_pos hr
  have eN: ∀i,dN h l n a i=bnum l a 1 6 i:=fun i=>if_pos hr
  rw[hz,eP,eN 0,eN 1,eN 2,eN 3,eN 4,eN 5]at HV
  have HS0:=yH (HH.out hr)
  have eH: ∀cc,hcode9 h l n a=cc→hH h l n a=(if cc=0 then bnum l a 1 6 0 else 0)∧payT h l n a=(if cc=0 then bpay l a 1 6 else []):=fun cc e=>by subst e;exact⟨rfl,rfl⟩
  obtain⟨cc,hcc⟩: ∃z,hcode9 h l n a=z:=⟨_,rfl⟩
  obtain⟨e2,e3⟩:=eH cc hcc
  rw[hcc,e2,e3]
  rw[hcc]at e1
  clear eH e2 e3 hcc eP eN HH hr v
  generalize ofS (keyB h.ic) (idL h.I) (bpay l a 1 6)=yy at*
  generalize bnum l a 1 6 0=x0 at*
  generalize bnum l a 1 6 1=x1 at*
  generalize bnum l a 1 6 2=x2 at*
  generalize bnum l a 1 6 3=x3 at*
  generalize bnum l a 1 6 4=x4 at*
  generalize bnum l a 1 6 5=x5 at*
  generalize bpay l a 1 6=pl at*
  have HCC:=yH e1
  clear e1
  obtain⟨xr,hxr⟩: ∃z,z=(if cc=0 then x0 else 0):=⟨_,rfl⟩
  obtain⟨pr,hpr⟩: ∃z,z=(if cc=0 then pl else []):=⟨_,rfl⟩
  rw[←hxr,←hpr]
  have HXR:=yH hxr
  have HPR:=yH hpr
  clear hxr hpr
  go_enter Tryz.func170,Tryz.ntmps170
  go_upto_region 2 with(first
   |(go_at_call 60;(refine HV.out.mono ?_);rintro e w2 ⟨hb2,A2,m2,c2',rfl,hy2,hl2,hm2⟩;have B2:=yH hb2;have HY2:=yH hy2;have HC2:=yH hm2;clear hb2 hy2 hm2)
   |((with_reducible apply at_store (.tmp 7) (.tmp 13));refine wpList_store_row rfl 129 (.tmp 7) (.tmp 13) rfl w2.heap.size #[.int .u64 x0,.int .u64 x1,.int .u64 x2,.int .u64 x3,.int .u64 x4,.int .u64 x5,.slice A2 m2 c2'] rfl rfl 129 dz (heap_alloc_new w2 _) (by kernel_rfl) rfl (by simp[Value.oneCell']) ?_)
   |fail)
  have R3:=yH (show Blk ((w2.alloc (.cells dz 129)).setRow w2.heap.size #[.int .u64 x0,.int .u64 x1,.int .u64 x2,.int .u64 x3,.int .u64 x4,.int .u64 x5,.slice A2 m2 c2']) w2.heap.size [.int .u64 x0,.int .u64 x1,.int .u64 x2,.int .u64 x3,.int .u64 x4,.int .u64 x5,.slice A2 m2 c2'] 129 from setRow_heap _ _ _ _ _ (0,0) (heap_alloc_new w2 _))
  have B23:=yH (show Below w2.heap.size w2 ((w2.alloc (.cells dz 129)).setRow w2.heap.size #[.int .u64 x0,.int .u64 x1,.int .u64 x2,.int .u64 x3,.int .u64 x4,.int .u64 x5,.slice A2 m2 c2'])from below_setRow ((Below.refl _ _).alloc (yR _) _) (yR _) _)
  generalize (w2.alloc (.cells dz 129)).setRow w2.heap.size #[.int .u64 x0,.int .u64 x1,.int .u64 x2,.int .u64 x3,.int .u64 x4,.int .u64 x5,.slice A2 m2 c2']=w3 at*
  have B3:=yH (B2.out.trans (B23.out.mono B2.out.size))
  have HY3:=yH (HY2.out.below B23.out (yR _))
  have HS:=yH (HS0.out A2 m2 c2' _ w3.drew B3.out.drew HY3.out.drew hl2 HC2.out)
  have Sd:=yH (show w3.drew.cell? ⟨w2.heap.size,0,none⟩=some (.int .u64 x0)∧w3.drew.cell? ⟨w2.heap.size,6,none⟩=some (.slice A2 m2 c2')from⟨R3.out.drew.cell (i:=0) rfl,R3.out.drew.cell (i:=6) rfl⟩)
  generalize w2.heap.size=s5 at*
  clear HV HS0 B2 HY2 B23
  go_upto_region 4 with fail
  by_cases he:x0=yy
  ·have hcc:=HCC.out
   rw[if_pos he]at hcc
   subst hcc
   have hx:=HXR.out
   have hp:=HPR.out
   rw[if_pos rfl]at hx hp
   subst hx
   subst hp
   have d1:(xr !=yy)=false:=by simp[he]
   refine wp_region_held_drew (S:=fun W:World=>W.cell? ⟨s5,0,none⟩=some (.int .u64 xr)∧W.cell? ⟨s5,6,none⟩=some (.slice A2 m2 c2')) (by kernel_rfl) (by exact Sd.out) (fun hHeld=>?_)
   refine tk (i:=0) (oi:=⟨some 18,_,_,_,_,_⟩) (v:=?_) rfl (Or.inl ⟨by rfl,?_⟩) ?_
   rotate_left
   ·intro W hSw;obtain⟨x0_,x1_⟩:=hSw;go_simp;try (with_reducible rfl)
   try simp only[Act.put,sA,sZ,sS]
   refine tk (i:=1) (oi:=⟨some 19,_,_,_,_,_⟩) (v:=?_) rfl (Or.inl ⟨by rfl,?_⟩) ?_
   rotate_left
   ·intro W hSw;obtain⟨x0_,x1_⟩:=hSw;go_simp;try (with_reducible rfl)
   try simp only[Act.put,sA,sZ,sS]
   refine tk (i:=2) (oi:=⟨some 20,_,_,_,_,_⟩) (v:=?_) rfl (Or.inl ⟨by rfl,?_⟩) ?_
   rotate_left
   ·intro W hSw;obtain⟨x0_,x1_⟩:=hSw;go_simp;try (with_reducible rfl)
   try simp only[Act.put,sA,sZ,sS]
   refine tk (i:=3) (oi:=⟨some 21,_,_,_,_,_⟩) (v:=?_) rfl (Or.inl ⟨by rfl,?_⟩) ?_
   rotate_left
   ·intro W hSw;obtain⟨x0_,x1_⟩:=hSw;go_simp;try (with_reducible rfl)
   try simp only[Act.put,sA,sZ,sS]
   refine tk (i:=4) (oi:=⟨some 22,_,_,_,_,_⟩) (v:=?_) rfl (Or.inl ⟨by rfl,?_⟩) ?_
   rotate_left
   ·intro W hSw;obtain⟨x0_,x1_⟩:=hSw;go_simp;try (with_reducible rfl)
   try simp only[Act.put,sA,sZ,sS]
   refine wpAnyH_ready (rs:=[5]) (by kernel_rfl) (by simp) ?_
   refine AllReadyH.cons (o:=⟨some 23,_,_,_,_,_⟩) rfl (fun K hK=>?_) AllReadyH.nil
   go_simp
   ((refine HS.out.mono ?_);rintro e w4 ⟨rfl,hb4⟩;have B4:=yH (B3.out.drew.trans (hb4.mono B3.out.size));have R4:=yH (R3.out.drew.below hb4 R3.out.lt);have HY4:=yH (HY3.out.drew.below hb4 (yR _));have S4:=yH (show w4.cell? ⟨s5,0,none⟩=some (.int .u64 xr)∧w4.cell? ⟨s5,6,none⟩=some (.slice A2 m2 c2')from⟨R4.out.cell (i:=0) rfl,R4.out.cell (i:=6) rfl⟩);clear hb4)
   try go_wp2_with fail
   refine hK.out _ _ (by exact S4.out) (fun hHeld=>?_)
   clear hK K
   try simp only[Act.put,sA,sZ,sS]
   refine tk (i:=6) (oi:=⟨some 24,_,_,_,_,_⟩) (v:=?_) rfl (Or.inl ⟨by rfl,?_⟩) ?_
   rotate_left
   ·intro W hSw;obtain⟨x0_,x1_⟩:=hSw;go_simp;try (with_reducible rfl)
   try simp only[Act.put,sA,sZ,sS]
   refine wpAnyH_done (by kernel_rfl) ?_ _
   have t0:=R4.out.drew.cell (i:=0) rfl
   have t6:=R4.out.drew.cell (i:=6) rfl
   go_upto_region 6 with fail
   go_region
   all_goals
    go_wp2
    refine bodyPost_ret (v:= .tuple #[.slice A2 m2 c2',.int .u64 xr,.int .i64 0]) (by simp[results,Tryz.results170,go_sem,he]) rfl ?_
    exact⟨B4.out.drew,A2,m2,c2',rfl,HY4.out.drew,hl2,HC2.out⟩
  ·have hcc:=HCC.out
   rw[if_neg he]at hcc
   subst hcc
   have hx:=HXR.out
   have hp:=HPR.out
   rw[if_neg (by decide)]at hx hp
   subst hx
   subst hp
   have d1:(x0 !=yy)=true:=by simpa using he
   refine wp_region_held_drew (S:=fun W:World=>W.cell? ⟨s5,0,none⟩=some (.int .u64 x0)∧W.cell? ⟨s5,6,none⟩=some (.slice A2 m2 c2')) (by kernel_rfl) (by exact Sd.out) (fun hHeld=>?_)
   refine tk (i:=0) (oi:=⟨some 18,_,_,_,_,_⟩) (v:=?_) rfl (Or.inl ⟨by rfl,?_⟩) ?_
   rotate_left
   ·intro W hSw;obtain⟨x0_,x1_⟩:=hSw;go_simp;try (with_reducible rfl)
   try simp only[Act.put,sA,sZ,sS]
   refine tk (i:=1) (oi:=⟨some 19,_,_,_,_,_⟩) (v:=?_) rfl (Or.inl ⟨by rfl,?_⟩) ?_
   rotate_left
   ·intro W hSw;obtain⟨x0_,x1_⟩:=hSw;go_simp;try (with_reducible rfl)
   try simp only[Act.put,sA,sZ,sS]
   refine tk (i:=2) (oi:=⟨some 20,_,_,_,_,_⟩) (v:=?_) rfl (Or.inl ⟨by rfl,?_⟩) ?_
   rotate_left
   ·intro W hSw;obtain⟨x0_,x1_⟩:=hSw;go_simp;try (with_reducible rfl)
   try simp only[Act.put,sA,sZ,sS]
   refine tk (i:=3) (oi:=⟨some 21,_,_,_,_,_⟩) (v:=?_) rfl (Or.inl ⟨by rfl,?_⟩) ?_
   rotate_left
   ·intro W hSw;obtain⟨x0_,x1_⟩:=hSw;go_simp;try (with_reducible rfl)
   try simp only[Act.put,sA,sZ,sS]
   refine tk (i:=4) (oi:=⟨some 22,_,_,_,_,_⟩) (v:=?_) rfl (Or.inl ⟨by rfl,?_⟩) ?_
   rotate_left
   ·intro W hSw;obtain⟨x0_,x1_⟩:=hSw;go_simp;try (with_reducible rfl)
   try simp only[Act.put,sA,sZ,sS]
   refine wpAnyH_ready (rs:=[5]) (by kernel_rfl) (by simp) ?_
   refine AllReadyH.cons (o:=⟨some 23,_,_,_,_,_⟩) rfl (fun K hK=>?_) AllReadyH.nil
   go_simp
   ((refine HS.out.mono ?_);rintro e w4 ⟨rfl,hb4⟩;have B4:=yH (B3.out.drew.trans (hb4.mono B3.out.size));have R4:=yH (R3.out.drew.below hb4 R3.out.lt);have HY4:=yH (HY3.out.drew.below hb4 (yR _));have S4:=yH (show w4.cell? ⟨s5,0,none⟩=some (.int .u64 x0)∧w4.cell? ⟨s5,6,none⟩=some (.slice A2 m2 c2')from⟨R4.out.cell (i:=0) rfl,R4.out.cell (i:=6) rfl⟩);clear hb4)
   try go_wp2_with fail
   refine hK.out _ _ (by exact S4.out) (fun hHeld=>?_)
   clear hK K
   try simp only[Act.put,sA,sZ,sS]
   refine tk (i:=6) (oi:=⟨some 24,_,_,_,_,_⟩) (v:=?_) rfl (Or.inl ⟨by rfl,?_⟩) ?_
   rotate_left
   ·intro W hSw;obtain⟨x0_,x1_⟩:=hSw;go_simp;try (with_reducible rfl)
   try simp only[Act.put,sA,sZ,sS]
   refine wpAnyH_done (by kernel_rfl) ?_ _
   go_wp2
   refine bodyPost_ret (v:= .tuple #[.slice none 0 0,.int .u64 0,.int .i64 9]) (by simp[results,Tryz.results170,go_sem]) rfl ?_
   exact⟨B4.out,none,0,0,rfl,Bytes.nil _ _,rfl,cap_none _⟩
 ·have e1:hcode9 h l n a=dcode h l n a:=by unfold hcode9;rw[if_pos hz]
  have e2:hH h l n a=0:=by unfold hH;rw[e1,if_neg hz]
  have e3:payT h l n a=[]:=by unfold payT;rw[e1,if_neg hz]
  rw[e1,e2,e3]
  clear e1 e2 e3 HH v
  generalize dcode h l n a=cd at*
  generalize dN h l n a 0=x0 at*
  generalize dN h l n a 1=x1 at*
  generalize dN h l n a 2=x2 at*
  generalize dN h l n a 3=x3 at*
  generalize dN h l n a 4=x4 at*
  generalize dN h l n a 5=x5 at*
  generalize dP h l n a=pl at*
  have d1:(cd !=0)=true:=by simpa using hz
  go_enter Tryz.func170,Tryz.ntmps170
  go_upto_region 2 with(first
   |(go_at_call 60;(refine HV.out.mono ?_);rintro e w2 ⟨hb2,A2,m2,c2',rfl,hy2,hl2,hm2⟩;have B2:=yH hb2;clear hb2 hy2 hm2)
   |((with_reducible apply at_store (.tmp 7) (.tmp 13));refine wpList_store_row rfl 129 (.tmp 7) (.tmp 13) rfl w2.heap.size #[.int .u64 x0,.int .u64 x1,.int .u64 x2,.int .u64 x3,.int .u64 x4,.int .u64 x5,.slice A2 m2 c2'] rfl rfl 129 dz (heap_alloc_new w2 _) (by kernel_rfl) rfl (by simp[Value.oneCell']) ?_)
   |fail)
  have B3:=yH (show Below w.heap.size w ((w2.alloc (.cells dz 129)).setRow w2.heap.size #[.int .u64 x0,.int .u64 x1,.int .u64 x2,.int .u64 x3,.int .u64 x4,.int .u64 x5,.slice A2 m2 c2'])from B2.out.trans ((below_setRow ((Below.refl _ _).alloc (yR _) _) (yR _) _).mono B2.out.size))
  generalize (w2.alloc (.cells dz 129)).setRow w2.heap.size #[.int .u64 x0,.int .u64 x1,.int .u64 x2,.int .u64 x3,.int .u64 x4,.int .u64 x5,.slice A2 m2 c2']=w3 at*
  go_wp2
  refine bodyPost_ret (v:= .tuple #[.slice none 0 0,.int .u64 0,.int .i64 cd]) (by simp[results,Tryz.results170,go_sem]) rfl ?_
  exact⟨B3.out,none,0,0,rfl,Bytes.nil _ _,rfl,cap_none _⟩
end Vb
namespace Wa
open Bytes8 Own8 OwnE Ob Ga Gb Ok7 Rc Va Dc
open Yp Ye Yh
open Rg (arcode)
open Ym (wordElt)
def nothB (n:Nat)(x:Int):Bool:=decide (x=0)||decide ((n:Int)≤x)
def lastI (out:List Int):Int:=out.getLastD 0
def inA (K:List Int→List Int×Int)(E:Nat)(n ni:Int)(g:Nat→Int):Nat→Nat→List Int→List Int×Int
 |0,_,out=>K out
 |m+1,i,out=>if(out.length:Int)=n then(out,0)else if nothB E (g i)=true then(out,ni)else if g i≤lastI out then(out,13)else inA K E n ni g m (i+1) (out++ [g i])
def chase (h:HD)(l:List Int)(E:Nat)(n na ni:Int):Nat→List Int→Nat→Nat→List Int×Int
 |0,out,_,_=>(out,0)
 |f+1,out,a,last=>if(out.length:Int)=n then(out,0)else if nothB E a=true then(out,na)else if a≤last then(out,12)else if arcode h l E a≠0 then(out,arcode h l E a)else inA (fun o=>chase h l E n na ni f o (aX9 h l E a).toNat a) E n ni (arF (bodyL l a)) (aC9 h l E a) 0 out
theorem inA_full (K:List Int→List Int×Int)(E:Nat)(n ni:Int)(g:Nat→Int)(m i:Nat)(out:List Int)(h:(out.length:Int)=n)(hK:K out=(out,0)):inA K E n ni g m i out=(out,0):=by
 cases m with
 |zero=>exact hK
 |succ m=>exact if_pos h
theorem chase_full (h:HD)(l:List Int)(E:Nat)(n na ni:Int)(f:Nat)(out:List Int)(a last:Nat)(hl:(out.length:Int)=n):chase h l E n na ni f out a last=(out,0):=by
 cases f with
 |zero=>rfl
 |succ f=>exact if_pos hl
theorem aX9_nn {h:HD}{l:List Int}{E a:Nat}(hA:AllB l):aX9 h l E a=((aX9 h l E a).toNat:Int)∧(aX9 h l E a).toNat≤18446744073709551615:=by
 have hb:AllB (bodyL l a):=fun x hx=>hA x (List.mem_of_mem_drop (List.mem_of_mem_take hx))
 have h1:=u8_bd hb 0
 have h2:0≤aX9 h l E a∧aX9 h l E a≤18446744073709551615:=by
  unfold aX9 arX
  split
  ·split
   ·exact h1
   ·omega
  ·omega
 omega
theorem arF_nn {l:List Int}{a:Nat}(hA:AllB l)(i:Nat):0≤arF (bodyL l a) i∧arF (bodyL l a) i≤18446744073709551615:=u8_bd (fun x hx=>hA x (List.mem_of_mem_drop (List.mem_of_mem_take hx))) _
theorem aC_le {h:HD}{l:List Int}{n a:Nat}(hl:l.length≤1000000):aC9 h l n a≤1000000:=by
 have hb:(bodyL l a).length≤l.length:=by unfold bodyL;rw[List.length_take,List.length_drop];omega
 unfold aC9
 split
 ·unfold arM arN
  split<;>omega
 ·omega
theorem lastI_snoc (out:List Int)(x:Int):lastI (out++ [x])=x:=by simp[lastI]
def Up (E:Nat)(out:List Int):Prop:=(out.length:Int)≤lastI out∧lastI out≤(E:Int)
theorem Up.nil (E:Nat):Up E []:=⟨by simp[lastI],by simp[lastI]⟩
theorem Up.snoc {E:Nat}{out:List Int}{x:Int}(h:Up E out)(h1:lastI out<x)(h2:nothB E x=false):Up E (out++ [x]):=by
 have h3: ¬(E:Int)≤x:=by simp[nothB]at h2;omega
 refine⟨?_,?_⟩
 ·rw[lastI_snoc,List.length_append,List.length_singleton];have:=h.1;omega
 ·rw[lastI_snoc];omega
theorem last_cell (out:List Int)(m:Nat)(h:out.length=m+1):(out.map (Value.int .u64))[m]? =some (.int .u64 (lastI out)):=by
 rw[List.getElem?_map]
 have:out[m]? =some (lastI out):=by
  rw[show m=out.length-1 by omega,←List.getLast?_eq_getElem?]
  cases out with
  |nil=>simp at h
  |cons x t=>simp[lastI,List.getLastD_cons,List.getLast?_cons]
 rw[this];rfl
attribute [local irreducible] HD.cells wpList Code.wp
theorem rnoth_any {gv:Nat}{h:HD}{d:Int}{A:Option Addr}{n c:Nat}{l:List Int}(x:Int)(w:World)(v:ViewR w gv h d A n c l):Calls Tryz.prog 121 #[.pointer (some ⟨gv,0,none⟩),.int .u64 x] w fun e w'=>e= .returned (.bool (nothB n x))∧w=w':=by
 have HE:=yH (rvend_any w v)
 clear v
 unfold nothB
 by_cases hx:x=0
 ·subst hx
  go_enter Tryz.func121,Tryz.ntmps121
  go_wp2_with(first
   |(go_at_call 112;(refine HE.out.mono ?_);rintro e w1 ⟨rfl,rfl⟩)
   |fail)
  go_ret
  exact⟨rfl,rfl⟩
 ·have hd:(x==0)=false:=by simpa using hx
  have hd2:decide (x=0)=false:=by simpa using hx
  rw[hd2,Bool.false_or]
  go_enter Tryz.func121,Tryz.ntmps121
  go_wp2_with(first
   |(go_at_call 112;(refine HE.out.mono ?_);rintro e w1 ⟨rfl,rfl⟩)
   |fail)
  go_ret
  exact⟨rfl,rfl⟩
theorem noth_any {gv:Nat}{h:HD}{A:Option Addr}{n c:Nat}{l:List Int}(x:Int)(w:World)(v:ViewAt w gv h A n c l):Calls Tryz.prog 180 #[.pointer (some ⟨gv,0,none⟩),.int .u64 x] w fun e w'=>e= .returned (.bool (nothB n x))∧w=w':=by
 have HE:=yH (vend_any w v)
 clear v
 unfold nothB
 by_cases hx:x=0
 ·subst hx
  go_enter Tryz.func180,Tryz.ntmps180
  go_wp2_with(first
   |(go_at_call 105;(refine HE.out.mono ?_);rintro e w1 ⟨rfl,rfl⟩)
   |fail)
  go_ret
  exact⟨rfl,rfl⟩
 ·have hd:(x==0)=false:=by simpa using hx
  have hd2:decide (x=0)=false:=by simpa using hx
  rw[hd2,Bool.false_or]
  go_enter Tryz.func180,Tryz.ntmps180
  go_wp2_with(first
   |(go_at_call 105;(refine HE.out.mono ?_);rintro e w1 ⟨rfl,rfl⟩)
   |fail)
  go_ret
  exact⟨rfl,rfl⟩
def TellL (R:List Int×Int)(w:World)(e:Ending)(w':World):Prop:=Below w.heap.size w w'∧ ∃A m c,e= .returned (.tuple #[.slice A m c,.int .i64 R.2])∧OwnE 27 1 w' w.heap.size A m c (R.1.map (Value.int .u64))∧R.1.length=m
end Wa
namespace Vd
open Bytes8 Blk8 Own8 OwnM OwnE Rows2 Ob Od Ga Gb Gf Gj Gq Gt Ok7 Ns Ra Rc Va
open Go1 (hcode rhd hread_any HTold magicB)
theorem rwhole {w:World}{g:Nat}{T:TypeId}{h:HD}{m:Nat}(hb:Blk w g (h.cells m) T):w.rangeAt g 0 (h.cells m):=fun j v hj=>by rw[Nat.zero_add];exact hb.cell hj
theorem rview_built (h:HD)(d:Int)(b:Value)(A:Option Addr)(n c:Nat)(e:b= .slice A n c):Tryz.prog.built 121 [(0,.agg (h.cells 20).toArray),(1,.int .u64 d),(2,b)]=some (h.cells 20++([.int .u64 d,b]:List Value)).toArray:=by subst e;kernel_rfl
def bldRV (parts:Array (Nat×Value)):Sem Value:=Instr.build 121 parts
theorem bldRV_fold (parts:Array (Nat×Value)):Instr.build 121 parts=bldRV parts:=rfl
theorem build_rview (h:HD)(d:Int)(A:Option Addr)(n c:Nat)(w:World):(bldRV #[(0,.agg (h.cells 20).toArray),(1,.int .u64 d),(2,.slice A n c)]).run Tryz.prog w= .ok (.agg (h.cells 20++([.int .u64 d,.slice A n c]:List Value)).toArray) w:=by
 unfold bldRV
 exact run_build w _ _ _ (rview_built h d _ A n c rfl)
def OpenedR (l:List Int)(E:Nat)(w:World)(e:Ending)(w':World):Prop:= ∃(gv:Nat) (A2:Option Addr) (c2:Nat),e= .returned (.tuple #[.pointer (some ⟨gv,0,none⟩),.int .i64 0])∧w.heap.size≤gv∧ViewR w' gv (hdOf l) (Ob.u8 l 248) A2 E c2 (l.take E)∧Below w.heap.size w w'
attribute [local irreducible] HD.cells wpList Code.wp
attribute [local go_sem ↓] bldRV_fold
theorem ropen_fine (l:List Int)(A:Option Addr)(n c:Nat)(w:World)(hb:Bytes w A l)(hL:l.length=n)(hn:n≤800000)(hc:n≤c)(hz:hcode l n=0)(E:Nat)(hE:endV (hdOf l)=(E:Int))(hEB:endB (hdOf l)=true)(hEn:E≤n)(hok:(hdOf l).Ok 21):
 Calls Tryz.prog 54 #[.slice A n c] w (OpenedR l E w):=by
 have HR:=yH (rreadHead_any A l n c w hb hL (by omega) hc)
 rw[if_pos hz,if_pos hz,hz]at HR
 unfold RTold at HR
 have HE:=yH fun(W:World)=>rend_any (hdOf l) (hdOf_ok hb.1 20) W
 rw[hE,hEB]at HE
 have HB:=yH hb
 unfold OpenedR
 have HLB:=yH hL
 have HOk:=yH hok
 have hTk:(l.take E).length=E:=by rw[List.length_take];omega
 generalize hdOf l=H at*
 generalize Ob.u8 l 248=dp at*
 clear hok hb hL hz hE hEB
 go_enter Tryz.func54,Tryz.ntmps54
 go_upto_region 4 with(first
  |(go_at_call 110;((refine HR.out.mono ?_);rintro e w1 ⟨rfl,hb1⟩;have B1:=yH hb1;clear hb1))
  |((with_reducible apply at_store (.tmp 4) (.tmp 12));refine wpList_store_row rfl 119 (.tmp 4) (.tmp 12) rfl w1.heap.size (H.cells 20).toArray rfl rfl 119 Tryz.zeroCells119 (heap_alloc_new w1 _) (rcells_info _) rzeros_size (HD.one _ 20) ?_)
  |fail)
 have R2:=yH (show Blk ((w1.alloc (.cells Tryz.zeroCells119 119)).setRow w1.heap.size (H.cells 20).toArray) w1.heap.size (H.cells 20) 119 from setRow_heap _ _ _ _ _ (0,0) (heap_alloc_new w1 _))
 have B2:=yH (show Below w.heap.size w ((w1.alloc (.cells Tryz.zeroCells119 119)).setRow w1.heap.size (H.cells 20).toArray)from below_setRow (B1.out.alloc B1.out.size _) B1.out.size _)
 generalize (w1.alloc (.cells Tryz.zeroCells119 119)).setRow w1.heap.size (H.cells 20).toArray=w2 at*
 generalize w1.heap.size=s4 at*
 clear HR B1
 go_upto_region 5 with(first
  |((with_reducible apply at_slot 19);refine wpList_load_row rfl 119 (.tmp 4) rfl s4 rfl 119 (H.cells 20).toArray (0,0) _ R2.out Tryz.underlying119 rfl (rcells_info _) ?_)
  |(go_at_call 111;((refine(HE.out _).mono ?_);rintro e w4 ⟨rfl,hb4⟩;have B4:=yH (B2.out.trans (hb4.mono B2.out.size));have R4:=yH (R2.out.below hb4 R2.out.lt);clear hb4))
  |fail)
 have D4:=yH (show Below w4.heap.size w4 w4.drew from(Below.refl w4.heap.size w4).drew)
 have HS:=yH fun(W:World) (hW:Below w4.heap.size w4 W)=>show(fun W:World=>W.rangeAt s4 0 (H.cells 20)) W from rwhole (R4.out.below hW R4.out.lt)
 have hcut:=fun W:World=>cut_hu A n c E (by omega) (by omega) W
 have BE:=yH (show Below w4.heap.size w4 (w4.drew.alloc (.cells #[] 5))from D4.out.alloc D4.out.size _)
 have HOw:=yH (Own.made w4.drew w4.heap.size (yR _))
 have HBe:=yH (show Bytes (w4.drew.alloc (.cells #[] 5)) (cutA A c 0) (l.take E)from by
  have k:=Bytes.cut ((HB.out.below B4.out (yR _)).below BE.out (yR _)) c 0 E (by rw[HLB.out];exact hc)
  rw[List.drop_zero]at k
  exact k)
 have hbld:=fun(A':Option Addr) (c':Nat) (W:World)=>build_rview H dp A' E c' W
 clear HE R2 B2 HB HLB hc
 refine wp_region_noPanic ?_
 refine wp_region_held_drew (S:=fun W:World=>W.rangeAt s4 0 (H.cells 20)) (by kernel_rfl) (by exact(HS.out _ D4.out)) (fun hHeld=>?_)
 refine tk (i:=0) (oi:=⟨some 23,_,_,_,_,_⟩) rfl (yieldsIf_load_mid (by rfl) _ _ rfl _ _ rfl _ _ (fun _ h=>h) Tryz.underlying119 rfl (rcells_len _)) ?_
 try simp only[Act.put,sA,sZ,sS]
 refine tk (i:=1) (oi:=⟨some 24,_,_,_,_,_⟩) (v:=?_) rfl (Or.inl ⟨by rfl,?_⟩) ?_
 rotate_left
 ·intro W hSw;go_simp;try (with_reducible rfl)
 try simp only[Act.put,sA,sZ,sS]
 refine tk (i:=3) (oi:=⟨some 26,_,_,_,_,_⟩) (v:=?_) rfl (Or.inl ⟨by rfl,?_⟩) ?_
 rotate_left
 ·intro W hSw;go_simp;try (with_reducible rfl)
 try simp only[Act.put,sA,sZ,sS]
 refine tk (i:=4) (oi:=⟨some 27,_,_,_,_,_⟩) (v:=?_) rfl (Or.inl ⟨by rfl,?_⟩) ?_
 rotate_left
 ·intro W hSw;go_simp;try (with_reducible rfl)
 try simp only[Act.put,sA,sZ,sS]
 refine tk (i:=5) (oi:=⟨some 28,_,_,_,_,_⟩) (v:=?_) rfl (Or.inl ⟨by rfl,?_⟩) ?_
 rotate_left
 ·intro W hSw;go_simp;try (with_reducible rfl)
 try simp only[Act.put,sA,sZ,sS]
 refine wpAnyH_ready (rs:=[2]) (by kernel_rfl) (by simp) ?_
 refine AllReadyH.cons (o:=⟨some 25,_,_,_,_,_⟩) rfl (fun K hK=>?_) AllReadyH.nil
 go_simp
 skip
 try go_wp2_with fail
 refine hK.out _ _ (by exact(HS.out _ BE.out)) (fun hHeld=>?_)
 clear hK K
 try simp only[Act.put,sA,sZ,sS]
 refine wpAnyH_ready (rs:=[6]) (by kernel_rfl) (by simp) ?_
 refine AllReadyH.cons (o:=⟨some 29,_,_,_,_,_⟩) rfl (fun K hK=>?_) AllReadyH.nil
 refine step_append_bytes (o:=⟨some 29,_,_,_,_,_⟩) rfl (.tmp 25) (.tmp 28) rfl w4.heap.size _ 0 0 [] rfl HOw.out (cutA A c 0) E c (l.take E) rfl HBe.out hTk (by omega) ?_
 intro A5 c5 w5 ho5 hb5
 rw[Nat.zero_add,List.nil_append]at ho5
 have HO5:=yH ho5
 have B5:=yH (BE.out.trans hb5)
 clear ho5 hb5
 refine hK.out _ _ (by exact(HS.out _ B5.out)) (fun hHeld=>?_)
 clear hK K
 try simp only[Act.put,sA,sZ,sS]
 refine tk (i:=7) (oi:=⟨some 30,_,_,_,_,_⟩) (v:=?_) rfl (Or.inl ⟨by rfl,?_⟩) ?_
 rotate_left
 ·intro W hSw;go_simp;try (with_reducible rfl)
 try simp only[Act.put,sA,sZ,sS]
 refine wpAnyH_ready (rs:=[8]) (by kernel_rfl) (by simp) ?_
 refine AllReadyH.cons (o:=⟨some 31,_,_,_,_,_⟩) rfl (fun K hK=>?_) AllReadyH.nil
 go_simp
 skip
 try go_wp2_with fail
 refine hK.out _ _ (by exact(HS.out _ (B5.out.alloc B5.out.size _))) (fun hHeld=>?_)
 clear hK K
 try simp only[Act.put,sA,sZ,sS]
 refine tk (i:=9) (oi:=⟨some 2,_,_,_,_,_⟩) (v:=?_) rfl (Or.inl ⟨by rfl,?_⟩) ?_
 rotate_left
 ·intro W hSw;go_simp;try (with_reducible rfl)
 try simp only[Act.put,sA,sZ,sS]
 refine tk (i:=10) (oi:=⟨some 3,_,_,_,_,_⟩) (v:=?_) rfl (Or.inl ⟨by rfl,?_⟩) ?_
 rotate_left
 ·intro W hSw;go_simp;try (with_reducible rfl)
 try simp only[Act.put,sA,sZ,sS]
 refine wpAnyH_done (by kernel_rfl) ?_ _
 refine NoPanic.normal ?_
 go_wp2
 go_ret2
 exact⟨_,A5,c5,rfl,Nat.le_trans B4.out.size B5.out.size,⟨Blk.new w5 _ _,HO5.out.bytes.below ((Below.refl _ _).alloc (yR _) _) (yR _),hTk,(own_cap HO5.out).1,(own_cap HO5.out).2,by omega,HOk.out⟩,B4.out.trans ((B5.out.alloc B5.out.size _).mono B4.out.size)⟩
end Vd
end Go.Proofs.YtiddkgcafpaekaaGreat
