/-
  Texts beneath the proof.
-/
import Derived.Test.YtjecmgkmcfkcjaaGreatQhLinkDatab1
set_option linter.unusedVariables false
set_option linter.unusedSimpArgs false
set_option maxRecDepth 100000
set_option maxHeartbeats 4000000
open Go.ChangeShapes Go.WideShapes Go.ChangeAt Go.RowKit
namespace Go.Proofs.YtjecmgkmcfkcjaaGreat
namespace Rg
open Bytes8 Blk8 Own8 OwnE Rows2 Ob Ga Gb Gi Ok7 Rc Rd
open Kf Yp Yd Ye Yg Yh
open Re (bytes_code res_row_cell load_code)
theorem caught_idle (g3:Nat)(w:World):CallsD Tryz.prog 226 #[.pointer (some ⟨g3,0,none⟩)] .returning w fun e u' w'=>e= .returned (.tuple #[])∧u'= .returning∧w'=w:=by
 refine callsD_of_wpS Tryz.func226 rfl fun c₀ cs hu=>?_
 apply wpS_seq
 apply wpS_region
 simp[wpOpsS,go_sem,recoverD,hu,Tryz.ntmps226,Exit.thenS]
 refine wpS_of_wp ?_
 go_wp2
 cases c₀
 simp_all[bodyPostS,results,Tryz.results226]
theorem caught_halt (g3:Nat)(c y:Int)(older:List PanicEntry)(w:World)(h:Blk w g3 [.int .i64 y] 3):CallsD Tryz.prog 226 #[.pointer (some ⟨g3,0,none⟩)] (.panicking ({v:= .iface 230 (.int .i64 c),recovered:=false}::older)) w fun e u' w'=>e= .returned (.tuple #[])∧u'= .panicking ({v:= .iface 230 (.int .i64 c),recovered:=true}::older)∧w'=w.setCell ⟨g3,0,none⟩ (.int .i64 c):=by
 have c0:=h.cell (i:=0) rfl
 have z0:=h.frozen 0
 have hta: ∀w:World,(Instr.typeAssert (.iface 230 (.int .i64 c)) 20 230 true).run Tryz.prog w= .ok (.tuple #[.int .i64 c,.bool true]) w:=fun _=>by kernel_rfl
 refine callsD_of_wpS Tryz.func226 rfl fun c₀ cs hu=>?_
 apply wpS_seq
 apply wpS_region
 simp[wpOpsS,go_sem,recoverD,hu,Tryz.ntmps226,Exit.thenS]
 refine wpS_of_wp ?_
 go_wp2
 cases c₀
 simp_all[bodyPostS,results,Tryz.results226]
abbrev az:Array Value:= #[.int .u64 0,.slice none 0 0]
attribute [local irreducible] wpList Code.wp
theorem got_no (a:Int)(A:Option Addr)(n k:Nat)(cd:Int)(h0:cd≠0)(w:World):Calls Tryz.prog 215 #[arrV a A n k,.int .i64 cd] w fun e w'=>e= .panicked [haltE cd]∧Below w.heap.size w w':=by
 have HN:=Lib.hid (need_no cd)
 have d0:(cd==0)=false:=by simpa using h0
 have b2:=Lib.hid (((Below.refl w.heap.size w).alloc (Nat.le_refl _) (.cells #[.int .u64 a,.slice A n k] 279)).alloc (by simp) (.cells az 279))
 go_enter Tryz.func215,Tryz.ntmps215
 go_wp2_with(first
  |(go_at_call 148;(refine(HN.out _).mono ?_);rintro e w1 ⟨rfl,rfl⟩)
  |fail)
 exact⟨rfl,rfl,b2.out⟩
theorem got_yes (a:Int)(A:Option Addr)(n k:Nat)(w:World):Calls Tryz.prog 215 #[arrV a A n k,.int .i64 0] w fun e' w'=>e'= .returned (arrV a A n k)∧Below w.heap.size w w':=by
 have HN:=Lib.hid (need_yes 0)
 go_enter Tryz.func215,Tryz.ntmps215
 go_wp2_with(first
  |(go_at_call 148;(refine(HN.out _).mono ?_);rintro e w1 ⟨rfl,rfl⟩)
  |fail)
 refine bodyPost_ret (v:=arrV a A n k) (by exact results_cell_row Tryz.results215 _ _ (w.heap.size+1) 279 _ (0,0) _ rfl (heap_alloc2_new w _ _) Tryz.underlying279 rfl (by kernel_rfl)) rfl ?_
 exact⟨rfl,((Below.refl w.heap.size w).alloc (Nat.le_refl _) _).alloc (by simp) _⟩
def arcode (h:HD)(l:List Int)(n a:Nat):Int:=if h.N 0≤(a:Int)∧a<n then ecode l a 6 8 8 else 2
def ReadA (B:Nat)(l:List Int)(a:Nat)(cd:Int)(e:Ending)(w':World):Prop:=
 (cd≠0∧e= .panicked [haltE cd])∨(cd=0∧ ∃A' c',e= .returned (arrV (arX l a) A' (arM l a) c')∧InInts .u64 w' A' (arM l a) (arF (bodyL l a))∧NewIn B A')
theorem ints_off {k:IntKind}{w:World}{a:Option Addr}{n:Nat}{f:Nat→Int}(hi:InInts k w a n f){g:Nat}(hg: ∀b off,a=some ⟨b,off,none⟩→b≠g)(i:Nat)(v:Value):InInts k (w.setCell ⟨g,i,none⟩ v) a n f:=fun j hx=>by
 obtain⟨b,off,e,h1,h2,h3⟩:=hi j hx
 exact⟨b,off,e,by simpa using h1,(World.cell?_of_block (Below.heap_setCell w ⟨g,i,none⟩ v b (hg b off e))).trans h2,h3⟩
theorem new_ne {B:Nat}{A:Option Addr}(h:NewIn B A){g:Nat}(hg:g<B): ∀b off,A=some ⟨b,off,none⟩→b≠g:=fun b off e=>Nat.ne_of_gt (Nat.lt_of_lt_of_le hg (h b off e))
theorem new_mono {B C:Nat}{A:Option Addr}(h:NewIn B A)(hc:C≤B):NewIn C A:=fun b off e=>Nat.le_trans hc (h b off e)
theorem varr_cl {gv:Nat}{h:HD}{A:Option Addr}{n c:Nat}{l:List Int}(a:Nat)(g2 g3:Nat)(w:World)(v:ViewAt w gv h A n c l)(hcm:c≤maxLen)(H2:Blk w g2 [.pointer (some ⟨gv,0,none⟩)] 27)(H3:Blk w g3 [.int .u64 (a:Int)] 40):
 Calls Tryz.prog 214 #[.pointer (some ⟨g2,0,none⟩),.pointer (some ⟨g3,0,none⟩)] w fun e w'=>Below w.heap.size w w'∧ReadA w.heap.size l a (arcode h l n a) e w':=by
 have b1:=Lib.hid ((Below.refl w.heap.size w).alloc (Nat.le_refl _) (.cells az 279))
 have v1:=v.below b1.out
 have v1d:ViewAt (w.alloc (.cells az 279)).drew gv h A n c l:=⟨v1.blk,v1.by_,v1.len,v1.cap,v1.big,v1.ok⟩
 have b1d:=Lib.hid b1.out.drew
 have G2:=Lib.hid (H2.alloc (.cells az 279))
 have G3:=Lib.hid (H3.alloc (.cells az 279))
 have s2:=Lib.hid G2.out.lt
 have s3:=Lib.hid G3.out.lt
 have Z1:=Lib.hid (heap_alloc_new w (.cells az 279))
 have s1:=Lib.hid (show w.heap.size<(w.alloc (.cells az 279)).heap.size by simp)
 have l2:=Lib.hid (Nat.ne_of_lt H2.lt)
 have l3:=Lib.hid (Nat.ne_of_lt H3.lt)
 by_cases hin:h.N 0≤(a:Int)∧a<n
 ·have HF:=Lib.hid (from_yes (a:Int) _ v1d hin.1 (by omega))
  have HR:=Lib.hid (readArray_n A l n c a _ v1d.by_ v1.len v1.big v1.cap hcm (by have:=v1.big;omega))
  unfold ArrTold2 at HR
  unfold ReadA arcode
  rw[if_pos hin]
  generalize arX l a=x0 at*
  generalize ecode l a 6 8 8=cd at*
  generalize arM l a=mm at*
  generalize arF (bodyL l a)=ff at*
  clear v v1 v1d hin H2 H3
  go_enter Tryz.func214,Tryz.ntmps214
  go_upto_region 1 with fail
  generalize w.alloc (.cells az 279)=w1 at*
  have t2:=G2.out.cell (i:=0) rfl
  have t3:=G3.out.cell (i:=0) rfl
  by_cases hz:cd=0
  ·subst hz
   go_region_held3 (fun W=>W.cell? ⟨g2,0,none⟩=some (.pointer (some ⟨gv,0,none⟩))∧W.cell? ⟨g3,0,none⟩=some (.int .u64 (a:Int))) (first|(with_reducible exact⟨t2,t3⟩)|(with_reducible exact⟨u2,u3⟩)|(with_reducible exact⟨p2,p3⟩)|(with_reducible exact⟨q2,q3⟩)|go_keep) (first
    |(go_at_call 93;(refine HF.out.mono ?_);rintro e wf ⟨rfl,rfl⟩)
    |(go_at_call 216;(refine HR.out.mono ?_);rintro e w2 ⟨A2,c2',rfl,hb2,hy2,hw2⟩;have B2:=Lib.hid (b1d.out.trans (hb2.mono b1d.out.size));have ZZ2:=Lib.hid ((hb2.block _ s1.out).trans Z1.out);have HY2:=Lib.hid hy2;have HW2:=Lib.hid (show NewIn w1.heap.size A2 from hw2);have U2:=Lib.hid (G2.out.drew.below hb2 s2.out);have U3:=Lib.hid (G3.out.drew.below hb2 s3.out);have u2:=U2.out.cell (i:=0) rfl;have u3:=U3.out.cell (i:=0) rfl;have B2s:=Lib.hid hb2.size;clear hb2 hy2 hw2)
    |(go_at_call 215;(refine(got_yes x0 A2 mm c2' w2).mono ?_);rintro e w3 ⟨rfl,hb3⟩;have B3:=Lib.hid (B2.out.trans (hb3.mono B2.out.size));have HY3:=Lib.hid (HY2.out.below hb3);have P2:=Lib.hid (U2.out.below hb3 U2.out.lt);have P3:=Lib.hid (U3.out.below hb3 U3.out.lt);have p2:=P2.out.cell (i:=0) rfl;have p3:=P3.out.cell (i:=0) rfl;have Z3:=Lib.hid ((hb3.block _ (Nat.lt_of_lt_of_le s1.out B2s.out)).trans ZZ2.out);have R3:=Lib.hid (show Blk w3 w.heap.size [.int .u64 0,.slice none 0 0] 279 from Z3.out);have e0:=R3.out.cell (i:=0) rfl;have z0:=R3.out.frozen 0;have e1:=R3.out.cell (i:=1) rfl;have z1:=R3.out.frozen 1;have q2:=((P2.out.far (p:=⟨w.heap.size,0,none⟩) l2.out (.int .u64 x0)).far (p:=⟨w.heap.size,1,none⟩) l2.out (.slice A2 mm c2')).cell (i:=0) rfl;have q3:=((P3.out.far (p:=⟨w.heap.size,0,none⟩) l3.out (.int .u64 x0)).far (p:=⟨w.heap.size,1,none⟩) l3.out (.slice A2 mm c2')).cell (i:=0) rfl;clear hb3)
    |fail)
   have F4:=(R3.out.set_ 0 (.int .u64 x0)).set_ 1 (.slice A2 mm c2')
   have Y4:=ints_off (ints_off HY3.out (new_ne HW2.out s1.out) 0 (.int .u64 x0)) (new_ne HW2.out s1.out) 1 (.slice A2 mm c2')
   have b4:=(B3.out.setCell (p:=⟨w.heap.size,0,none⟩) (Nat.le_refl _) (.int .u64 x0)).setCell (p:=⟨w.heap.size,1,none⟩) (Nat.le_refl _) (.slice A2 mm c2')
   have N4:=new_mono HW2.out (Nat.le_of_lt s1.out)
   go_wp2_with fail
   refine bodyPost_ret (v:=arrV x0 A2 mm c2') (by exact results_cell_row Tryz.results214 _ _ w.heap.size 279 _ (0,0) _ rfl F4 Tryz.underlying279 rfl (by kernel_rfl)) rfl ?_
   exact⟨b4,A2,⟨c2',rfl⟩,Y4,N4⟩
  ·refine wp_region_held_drew (S:=fun W:World=>W.cell? ⟨g2,0,none⟩=some (.pointer (some ⟨gv,0,none⟩))∧W.cell? ⟨g3,0,none⟩=some (.int .u64 (a:Int))) (by kernel_rfl) (by exact⟨t2,t3⟩) (fun hHeld=>?_)
   refine tk (i:=0) (oi:=⟨some 3,_,_,_,_,_⟩) (v:=?_) rfl (Or.inl ⟨by rfl,?_⟩) ?_
   rotate_left
   ·intro W hSw;obtain⟨x0,x1⟩:=hSw;go_simp;try (with_reducible rfl)
   try simp only[Act.put,sA,sZ,sS]
   refine tk (i:=1) (oi:=⟨some 4,_,_,_,_,_⟩) (v:=?_) rfl (Or.inl ⟨by rfl,?_⟩) ?_
   rotate_left
   ·intro W hSw;obtain⟨x0,x1⟩:=hSw;go_simp;try (with_reducible rfl)
   try simp only[Act.put,sA,sZ,sS]
   refine tk (i:=3) (oi:=⟨some 6,_,_,_,_,_⟩) (v:=?_) rfl (Or.inl ⟨by rfl,?_⟩) ?_
   rotate_left
   ·intro W hSw;obtain⟨x0,x1⟩:=hSw;go_simp;try (with_reducible rfl)
   try simp only[Act.put,sA,sZ,sS]
   refine wpAnyH_ready (rs:=[2]) (by kernel_rfl) (by simp) ?_
   refine AllReadyH.cons (o:=⟨some 5,_,_,_,_,_⟩) rfl (fun K hK=>?_) AllReadyH.nil
   go_simp
   ((refine HF.out.mono ?_);rintro e wf ⟨rfl,rfl⟩)
   try go_wp2_with fail
   refine hK.out _ _ (by exact⟨t2,t3⟩) (fun hHeld=>?_)
   clear hK K
   try simp only[Act.put,sA,sZ,sS]
   refine wpAnyH_ready (rs:=[4]) (by kernel_rfl) (by simp) ?_
   refine AllReadyH.cons (o:=⟨some 7,_,_,_,_,_⟩) rfl (fun K hK=>?_) AllReadyH.nil
   go_simp
   ((refine HR.out.mono ?_);rintro e w2 ⟨A2,c2',rfl,hb2,hy2,hw2⟩;have B2:=Lib.hid (b1d.out.trans (hb2.mono b1d.out.size));have U2:=Lib.hid (G2.out.drew.below hb2 s2.out);have U3:=Lib.hid (G3.out.drew.below hb2 s3.out);have u2:=U2.out.cell (i:=0) rfl;have u3:=U3.out.cell (i:=0) rfl;clear hb2 hy2 hw2)
   try go_wp2_with fail
   refine hK.out _ _ (by exact⟨u2,u3⟩) (fun hHeld=>?_)
   clear hK K
   try simp only[Act.put,sA,sZ,sS]
   refine tk (i:=5) (oi:=⟨some 8,_,_,_,_,_⟩) (v:=?_) rfl (Or.inl ⟨by rfl,?_⟩) ?_
   rotate_left
   ·intro W hSw;obtain⟨x0,x1⟩:=hSw;go_simp;try (with_reducible rfl)
   try simp only[Act.put,sA,sZ,sS]
   refine tk (i:=6) (oi:=⟨some 9,_,_,_,_,_⟩) (v:=?_) rfl (Or.inl ⟨by rfl,?_⟩) ?_
   rotate_left
   ·intro W hSw;obtain⟨x0,x1⟩:=hSw;go_simp;try (with_reducible rfl)
   try simp only[Act.put,sA,sZ,sS]
   refine wpAnyH_ready (rs:=[7]) (by kernel_rfl) (by simp) ?_
   refine AllReadyH.cons (o:=⟨some 10,_,_,_,_,_⟩) rfl (fun K hK=>?_) AllReadyH.nil
   go_simp
   ((refine(got_no x0 A2 mm c2' cd hz w2).mono ?_);rintro e w3 ⟨rfl,hb3⟩;have B3:=Lib.hid (B2.out.trans (hb3.mono B2.out.size));clear hb3;exact⟨rfl,B3.out,.inl ⟨hz,rfl⟩⟩)
 ·have HF:=Lib.hid (from_no (a:Int) _ v1d (by omega))
  unfold ReadA arcode
  rw[if_neg hin]
  generalize arX l a=x0 at*
  generalize arM l a=mm at*
  generalize arF (bodyL l a)=ff at*
  clear v v1 v1d H2 H3
  go_enter Tryz.func214,Tryz.ntmps214
  go_upto_region 1 with fail
  generalize w.alloc (.cells az 279)=w1 at*
  have t2:=G2.out.cell (i:=0) rfl
  have t3:=G3.out.cell (i:=0) rfl
  refine wp_region_held_drew (S:=fun W:World=>W.cell? ⟨g2,0,none⟩=some (.pointer (some ⟨gv,0,none⟩))∧W.cell? ⟨g3,0,none⟩=some (.int .u64 (a:Int))) (by kernel_rfl) (by exact⟨t2,t3⟩) (fun hHeld=>?_)
  refine tk (i:=0) (oi:=⟨some 3,_,_,_,_,_⟩) (v:=?_) rfl (Or.inl ⟨by rfl,?_⟩) ?_
  rotate_left
  ·intro W hSw;obtain⟨x0,x1⟩:=hSw;go_simp;try (with_reducible rfl)
  try simp only[Act.put,sA,sZ,sS]
  refine tk (i:=1) (oi:=⟨some 4,_,_,_,_,_⟩) (v:=?_) rfl (Or.inl ⟨by rfl,?_⟩) ?_
  rotate_left
  ·intro W hSw;obtain⟨x0,x1⟩:=hSw;go_simp;try (with_reducible rfl)
  try simp only[Act.put,sA,sZ,sS]
  refine tk (i:=3) (oi:=⟨some 6,_,_,_,_,_⟩) (v:=?_) rfl (Or.inl ⟨by rfl,?_⟩) ?_
  rotate_left
  ·intro W hSw;obtain⟨x0,x1⟩:=hSw;go_simp;try (with_reducible rfl)
  try simp only[Act.put,sA,sZ,sS]
  refine wpAnyH_ready (rs:=[2]) (by kernel_rfl) (by simp) ?_
  refine AllReadyH.cons (o:=⟨some 5,_,_,_,_,_⟩) rfl (fun K hK=>?_) AllReadyH.nil
  go_simp
  ((refine HF.out.mono ?_);rintro e wf ⟨rfl,rfl⟩;exact⟨rfl,b1d.out,.inl ⟨by decide,rfl⟩⟩)
def AskA (B:Nat)(l:List Int)(a:Nat)(cd:Int)(e:Ending)(w':World):Prop:=
 (cd≠0∧e= .returned (.tuple #[.agg az,.int .i64 cd]))∨(cd=0∧ ∃A' c',e= .returned (.tuple #[arrV (arX l a) A' (arM l a) c',.int .i64 0])∧InInts .u64 w' A' (arM l a) (arF (bodyL l a))∧NewIn B A')
theorem asked_any {gv:Nat}{h:HD}{A:Option Addr}{n c:Nat}{l:List Int}(a:Nat)(g2 g3:Nat)(w:World)(v:ViewAt w gv h A n c l)(hcm:c≤maxLen)(H2:Blk w g2 [.pointer (some ⟨gv,0,none⟩)] 27)(H3:Blk w g3 [.int .u64 (a:Int)] 40):
 Calls Tryz.prog 213 #[.func (.func 214) #[] #[.pointer (some ⟨g2,0,none⟩),.pointer (some ⟨g3,0,none⟩)]] w fun e w'=>Below w.heap.size w w'∧AskA w.heap.size l a (arcode h l n a) e w':=by
 have b1:=Lib.hid ((Below.refl w.heap.size w).alloc (Nat.le_refl _) (.cells az 279))
 have b2:=Lib.hid (b1.out.alloc b1.out.size (.cells #[.int .i64 0] 3))
 have v2:=v.below b2.out
 have HV:=Lib.hid (varr_cl a g2 g3 _ v2 hcm (H2.below b2.out H2.lt) (H3.below b2.out H3.lt))
 have S1:(w.alloc (.cells az 279)).heap.size=w.heap.size+1:=by simp only[World.alloc,Array.size_push]
 have S2:((w.alloc (.cells az 279)).alloc (.cells #[.int .i64 0] 3)).heap.size=w.heap.size+1+1:=by simp only[World.alloc,Array.size_push]
 have Z2:=Lib.hid ((Below.heap_alloc (w.alloc (.cells az 279)) (.cells #[.int .i64 0] 3) w.heap.size (by rw[S1];omega)).trans (heap_alloc_new w (.cells az 279)))
 have R2:=Lib.hid (Blk.new_at (w.alloc (.cells az 279)) [.int .i64 0] 3 _ S1)
 have hfn: ∀(fn:Fn) (first cap:Array Value) (w:World),(Instr.makeFunc fn first cap).run Tryz.prog w= .ok (.func fn first cap) w:=fun _ _ _ _=>rfl
 unfold ReadA at HV
 unfold AskA
 generalize arX l a=x0 at*
 generalize arcode h l n a=cd at*
 generalize arM l a=mm at*
 generalize arF (bodyL l a)=ff at*
 clear v v2 H2 H3
 by_cases hz:cd=0
 ·subst hz
  go_enter_defers Tryz.func213,Tryz.ntmps213
  go_wp2_with(first
   |(go_at_call 214;(refine HV.out.mono ?_);rintro e w3 ⟨hb3,⟨hne,_⟩|⟨_,A2,c2',rfl,hy2,hw2⟩⟩;(exact absurd rfl hne);have B3:=Lib.hid (b2.out.trans (hb3.mono b2.out.size));have HY3:=Lib.hid hy2;have HW3:=Lib.hid (show NewIn (w.heap.size+1+1) A2 from S2▸hw2);have Z3:=Lib.hid ((hb3.block _ (by rw[S2];omega)).trans Z2.out);have R3:=Lib.hid (R2.out.below hb3 (by rw[S2];omega));clear hb3 hy2 hw2)
   |((with_reducible apply at_store (.tmp 2) (.tmp 6));refine wpList_store_row rfl 279 (.tmp 2) (.tmp 6) rfl w.heap.size #[.int .u64 x0,.slice A2 mm c2'] rfl rfl 279 az Z3.out (by kernel_rfl) rfl (by simp[Value.oneCell']) ?_;have R4:=Lib.hid (show Blk (w3.setRow w.heap.size #[.int .u64 x0,.slice A2 mm c2']) (w.heap.size+1) [.int .i64 0] 3 from(setRow_other w3 w.heap.size (w.heap.size+1) _ (Nat.succ_ne_self _)).trans R3.out);have c4:=R4.out.cell (i:=0) rfl;have z4:=R4.out.frozen 0)
   |fail)
  refine leaves_cons (f:=226) (args:= #[.pointer (some ⟨w.heap.size+1,0,none⟩)]) (by simp) (by simp[go_sem]) ?_
  refine(caught_idle _ _).mono ?_
  rintro e u' w'' ⟨rfl,rfl,rfl⟩
  have b4:=(below_setRow (B:=w.heap.size) B3.out (Nat.le_refl _) #[.int .u64 x0,.slice A2 mm c2']).setCell (p:=⟨w.heap.size+1,0,none⟩) (Nat.le_succ _) (.int .i64 0)
  exact⟨.tuple #[arrV x0 A2 mm c2',.int .i64 0],(by exact res_row_cell Tryz.results213 _ _ w.heap.size (w.heap.size+1) 279 _ (0,0) _ _ rfl rfl ((Below.heap_setCell _ _ _ _ (Nat.succ_ne_self _).symm).trans (setRow_heap _ w.heap.size _ _ _ (0,0) Z3.out)) Tryz.underlying279 rfl (by kernel_rfl) (load_code _ _ _ (R4.out.set_ 0 _))),b4,.inr ⟨trivial,A2,c2',rfl,ints_off (InInts.setRow HY3.out (new_ne HW3.out (by omega)) _) (new_ne HW3.out (by omega)) _ _,new_mono HW3.out (by omega)⟩⟩
 ·go_enter_defers Tryz.func213,Tryz.ntmps213
  go_wp2_with(first
   |(go_at_call 214;(refine HV.out.mono ?_);rintro e w3 ⟨hb3,⟨_,rfl⟩|⟨he,_⟩⟩;rotate_left;(exact absurd he hz);have B3:=Lib.hid (b2.out.trans (hb3.mono b2.out.size));have Z3:=Lib.hid ((hb3.block _ (by rw[S2];omega)).trans Z2.out);have R3:=Lib.hid (R2.out.below hb3 (by rw[S2];omega));clear hb3)
   |fail)
  refine leaves_cons (f:=226) (args:= #[.pointer (some ⟨w.heap.size+1,0,none⟩)]) (by simp) (by simp[go_sem]) ?_
  refine(caught_halt _ cd 0 [] _ R3.out).mono ?_
  rintro e u' w'' ⟨rfl,rfl,rfl⟩
  have b4:=B3.out.setCell (p:=⟨w.heap.size+1,0,none⟩) (Nat.le_succ _) (.int .i64 cd)
  exact⟨.tuple #[.agg az,.int .i64 cd],(by exact res_row_cell Tryz.results213 _ _ w.heap.size (w.heap.size+1) 279 _ (0,0) _ _ rfl rfl ((Below.heap_setCell _ _ _ _ (Nat.succ_ne_self _).symm).trans Z3.out) Tryz.underlying279 rfl (by kernel_rfl) (load_code _ _ _ (R3.out.set_ 0 _))),b4,.inl ⟨hz,rfl⟩⟩
theorem arrAsk {gv:Nat}{h:HD}{A:Option Addr}{n c:Nat}{l:List Int}(a:Nat)(w:World)(v:ViewAt w gv h A n c l)(hcm:c≤maxLen):
 Calls Tryz.prog 188 #[.pointer (some ⟨gv,0,none⟩),.int .u64 (a:Int)] w fun e w'=>Below w.heap.size w w'∧AskA w.heap.size l a (arcode h l n a) e w':=by
 have b1:=Lib.hid ((Below.refl w.heap.size w).alloc (Nat.le_refl _) (.cells #[.pointer (some ⟨gv,0,none⟩)] 27))
 have b2:=Lib.hid (b1.out.alloc b1.out.size (.cells #[.int .u64 (a:Int)] 40))
 have b3:=Lib.hid (b2.out.alloc b2.out.size (.cells az 279))
 have v3:=v.below b3.out
 have S1:(w.alloc (.cells #[.pointer (some ⟨gv,0,none⟩)] 27)).heap.size=w.heap.size+1:=by simp only[World.alloc,Array.size_push]
 have S2:((w.alloc (.cells #[.pointer (some ⟨gv,0,none⟩)] 27)).alloc (.cells #[.int .u64 (a:Int)] 40)).heap.size=w.heap.size+1+1:=by simp only[World.alloc,Array.size_push]
 have S3:(((w.alloc (.cells #[.pointer (some ⟨gv,0,none⟩)] 27)).alloc (.cells #[.int .u64 (a:Int)] 40)).alloc (.cells az 279)).heap.size=w.heap.size+1+1+1:=by simp only[World.alloc,Array.size_push]
 have K1:=((Blk.new w [.pointer (some ⟨gv,0,none⟩)] 27).alloc (.cells #[.int .u64 (a:Int)] 40)).alloc (.cells az 279)
 have K2:=(Blk.new_at (w.alloc (.cells #[.pointer (some ⟨gv,0,none⟩)] 27)) [.int .u64 (a:Int)] 40 _ S1).alloc (.cells az 279)
 have HV:=Lib.hid (asked_any a w.heap.size (w.heap.size+1) _ v3 hcm K1 K2)
 have Z3:=Lib.hid (show(((w.alloc (.cells #[.pointer (some ⟨gv,0,none⟩)] 27)).alloc (.cells #[.int .u64 (a:Int)] 40)).alloc (.cells az 279)).heap[w.heap.size+1+1]? =some (.cells az 279 (0,0))from S2▸heap_alloc_new _ (.cells az 279))
 have hfn: ∀(fn:Fn) (first cap:Array Value) (w:World),(Instr.makeFunc fn first cap).run Tryz.prog w= .ok (.func fn first cap) w:=fun _ _ _ _=>rfl
 unfold AskA at HV⊢
 generalize arX l a=x0 at*
 generalize arcode h l n a=cd at*
 generalize arM l a=mm at*
 generalize arF (bodyL l a)=ff at*
 clear v v3 K1 K2
 by_cases hz:cd=0
 ·subst hz
  go_enter Tryz.func188,Tryz.ntmps188
  go_wp2_with(first
   |(go_at_call 213;(refine HV.out.mono ?_);rintro e w4 ⟨hb4,⟨hne,_⟩|⟨_,A2,c2',rfl,hy2,hw2⟩⟩;(exact absurd rfl hne);have B4:=Lib.hid (b3.out.trans (hb4.mono b3.out.size));have HY4:=Lib.hid hy2;have HW4:=Lib.hid (show NewIn (w.heap.size+1+1+1) A2 from S3▸hw2);have Z4:=Lib.hid ((hb4.block _ (by rw[S3];omega)).trans Z3.out);clear hb4 hy2 hw2)
   |((with_reducible apply at_store (.tmp 4) (.tmp 8));refine wpList_store_row rfl 279 (.tmp 4) (.tmp 8) rfl (w.heap.size+1+1) #[.int .u64 x0,.slice A2 mm c2'] rfl rfl 279 az Z4.out (by kernel_rfl) rfl (by simp[Value.oneCell']) ?_)
   |fail)
  refine bodyPost_ret (v:= .tuple #[arrV x0 A2 mm c2',.int .i64 0]) (by exact res_rowG Tryz.results188 _ _ (w.heap.size+1+1) 279 _ (0,0) _ _ rfl rfl (setRow_heap _ (w.heap.size+1+1) _ _ _ (0,0) Z4.out) Tryz.underlying279 rfl (by kernel_rfl)) rfl ?_
  have b5:=below_setRow (B:=w.heap.size) (g:=w.heap.size+1+1) B4.out (by omega) #[.int .u64 x0,.slice A2 mm c2']
  exact⟨b5,.inr ⟨trivial,A2,c2',rfl,InInts.setRow HY4.out (new_ne HW4.out (by omega)) _,new_mono HW4.out (by omega)⟩⟩
 ·go_enter Tryz.func188,Tryz.ntmps188
  go_wp2_with(first
   |(go_at_call 213;(refine HV.out.mono ?_);rintro e w4 ⟨hb4,⟨_,rfl⟩|⟨he,_⟩⟩;rotate_left;(exact absurd he hz);have B4:=Lib.hid (b3.out.trans (hb4.mono b3.out.size));have Z4:=Lib.hid ((hb4.block _ (by rw[S3];omega)).trans Z3.out);clear hb4)
   |((with_reducible apply at_store (.tmp 4) (.tmp 8));refine wpList_store_row rfl 279 (.tmp 4) (.tmp 8) rfl (w.heap.size+1+1) az rfl rfl 279 az Z4.out (by kernel_rfl) rfl (by simp[Value.oneCell']) ?_)
   |fail)
  refine bodyPost_ret (v:= .tuple #[.agg az,.int .i64 cd]) (by exact res_rowG Tryz.results188 _ _ (w.heap.size+1+1) 279 _ (0,0) _ _ rfl rfl (setRow_heap _ (w.heap.size+1+1) _ _ _ (0,0) Z4.out) Tryz.underlying279 rfl (by kernel_rfl)) rfl ?_
  have b5:=below_setRow (B:=w.heap.size) (g:=w.heap.size+1+1) B4.out (by omega) az
  exact⟨b5,.inl ⟨hz,rfl⟩⟩
end Rg
namespace Rk
open Bytes8 Blk8 Own8 OwnE Rows2 Ob Ga Gb Oj Ok7 Np Sg Rc Rd Re Rj
def hcode9 (h:HD)(l:List Int)(n a:Nat):Int:=if dcode h l n a≠0 then dcode h l n a else if bnum l a 1 6 0=ofS (keyB h.ic) (idL h.I) (bpay l a 1 6)then 0 else 9
theorem bpay_le (l:List Int)(a:Nat)(k:Int)(n:Nat):(bpay l a k n).length≤l.length:=by
 unfold bpay
 split
 ·rw[List.length_drop]
  unfold bodyL
  rw[List.length_take,List.length_drop]
  omega
 ·exact Nat.zero_le _
attribute [local irreducible] wpList Code.wp ofS bnum bpay bcode
theorem hashed_any {gv:Nat}{h:HD}{A:Option Addr}{n c:Nat}{l:List Int}(a:Nat)(w:World)(v:ViewAt w gv h A n c l)(hcm:c≤maxLen)(h8:n≤800000):
 Calls Tryz.prog 100 #[.pointer (some ⟨gv,0,none⟩),.int .u64 (a:Int)] w fun e w'=>Below w.heap.size w w'∧ReadD w.heap.size l a (hcode9 h l n a) e w':=by
 have b1:=Lib.hid ((Below.refl w.heap.size w).alloc (Nat.le_refl _) (.cells dz 67))
 have v1:=v.below b1.out
 have HV:=Lib.hid (vdata_any a _ v1 hcm)
 have HH:=Lib.hid fun(A2:Option Addr) (m2 c2:Nat) (B:Nat) (W:World) (hW:Below w.heap.size w W) (hb:Bytes W A2 (bpay l a 1 6)) (hL:(bpay l a 1 6).length=m2) (hcp:Cap B A2 m2 c2)=>vhash_any A2 (bpay l a 1 6) m2 c2 W (v.below hW) hb hL (by have h1:=bpay_le l a 1 6;have h2:=v.len;omega) hcp.2.1 hcp.2.2.1
 have Z1:=Lib.hid (heap_alloc_new w (.cells dz 67))
 have s1:=Lib.hid (show w.heap.size<(w.alloc (.cells dz 67)).heap.size by simp)
 unfold ReadD at HV⊢
 unfold hcode9
 generalize ofS (keyB h.ic) (idL h.I) (bpay l a 1 6)=y0 at*
 generalize bnum l a 1 6 0=x0 at*
 generalize bnum l a 1 6 1=x1 at*
 generalize bnum l a 1 6 2=x2 at*
 generalize bnum l a 1 6 3=x3 at*
 generalize bnum l a 1 6 4=x4 at*
 generalize bnum l a 1 6 5=x5 at*
 generalize dcode h l n a=cd at*
 generalize bpay l a 1 6=pl at*
 clear v v1
 by_cases hz:cd=0
 ·subst hz
  rw[if_neg (by decide)]
  obtain⟨cc,hcc⟩: ∃c:Int,c=if x0=y0 then 0 else 9:=⟨_,rfl⟩
  rw[←hcc]
  have HCC:=Lib.hid hcc
  clear hcc
  go_enter Tryz.func100,Tryz.ntmps100
  go_upto_region 2 with(first
   |(go_at_call 88;(refine HV.out.mono ?_);rintro e w2 ⟨hb2,⟨hne,_⟩|⟨_,A2,m2,c2',rfl,hy2,hl2,hm2⟩⟩;(exact absurd rfl hne);have B2:=Lib.hid (b1.out.trans (hb2.mono b1.out.size));have HY2:=Lib.hid hy2;have Z2:=Lib.hid ((hb2.block _ s1.out).trans Z1.out);have SZ2:=Lib.hid (show w.heap.size<w2.heap.size from Nat.lt_of_lt_of_le s1.out hb2.size);clear hb2 hy2)
   |((with_reducible apply at_store (.tmp 5) (.tmp 8));refine wpList_store_row rfl 67 (.tmp 5) (.tmp 8) rfl w2.heap.size #[.int .u64 x0,.int .u64 x1,.int .u64 x2,.int .u64 x3,.int .u64 x4,.int .u64 x5,.slice A2 m2 c2'] rfl rfl 67 dz (heap_alloc_new w2 _) (by kernel_rfl) rfl (by simp[Value.oneCell']) ?_)
   |fail)
  have R3:=Lib.hid (show Blk ((w2.alloc (.cells dz 67)).setRow w2.heap.size #[.int .u64 x0,.int .u64 x1,.int .u64 x2,.int .u64 x3,.int .u64 x4,.int .u64 x5,.slice A2 m2 c2']) w2.heap.size [.int .u64 x0,.int .u64 x1,.int .u64 x2,.int .u64 x3,.int .u64 x4,.int .u64 x5,.slice A2 m2 c2'] 67 from setRow_heap _ _ _ _ _ (0,0) (heap_alloc_new w2 _))
  have B23:=Lib.hid (show Below w2.heap.size w2 ((w2.alloc (.cells dz 67)).setRow w2.heap.size #[.int .u64 x0,.int .u64 x1,.int .u64 x2,.int .u64 x3,.int .u64 x4,.int .u64 x5,.slice A2 m2 c2'])from below_setRow ((Below.refl _ _).alloc (Nat.le_refl _) _) (Nat.le_refl _) _)
  generalize (w2.alloc (.cells dz 67)).setRow w2.heap.size #[.int .u64 x0,.int .u64 x1,.int .u64 x2,.int .u64 x3,.int .u64 x4,.int .u64 x5,.slice A2 m2 c2']=w3 at*
  have B3:=Lib.hid (B2.out.trans (B23.out.mono B2.out.size))
  have HY3:=Lib.hid (HY2.out.below B23.out (Nat.le_refl _))
  have Z3:=Lib.hid ((B23.out.block _ SZ2.out).trans Z2.out)
  have Z3s:=Lib.hid (show w.heap.size<w3.drew.heap.size from Nat.lt_of_lt_of_le SZ2.out B23.out.size)
  have HS:=Lib.hid (HH.out A2 m2 c2' _ w3.drew B3.out.drew HY3.out.drew hl2 hm2)
  have Sd:=Lib.hid (show w3.drew.cell? ⟨w2.heap.size,0,none⟩=some (.int .u64 x0)∧w3.drew.cell? ⟨w2.heap.size,6,none⟩=some (.slice A2 m2 c2')from⟨R3.out.drew.cell (i:=0) rfl,R3.out.drew.cell (i:=6) rfl⟩)
  have HCp:=Lib.hid (hm2.mono (Nat.le_of_lt s1.out))
  generalize w2.heap.size=s5 at*
  clear HV HH hm2 B2 HY2 Z2 SZ2 B23
  by_cases he:x0=y0
  ·have hcc:=HCC.out
   rw[if_pos he]at hcc
   have HC0:=Lib.hid hcc
   clear hcc
   have d:(x0==y0)=true:=by simpa using he
   refine wp_region_held_drew (S:=fun W:World=>W.cell? ⟨s5,0,none⟩=some (.int .u64 x0)∧W.cell? ⟨s5,6,none⟩=some (.slice A2 m2 c2')) (by kernel_rfl) (by exact Sd.out) (fun hHeld=>?_)
   refine tk (i:=0) (oi:=⟨some 9,_,_,_,_,_⟩) (v:=?_) rfl (Or.inl ⟨by rfl,?_⟩) ?_
   rotate_left
   ·intro W hSw;obtain⟨x0,x1⟩:=hSw;go_simp;try (with_reducible rfl)
   try simp only[Act.put,sA,sZ,sS]
   refine tk (i:=1) (oi:=⟨some 10,_,_,_,_,_⟩) (v:=?_) rfl (Or.inl ⟨by rfl,?_⟩) ?_
   rotate_left
   ·intro W hSw;obtain⟨x0,x1⟩:=hSw;go_simp;try (with_reducible rfl)
   try simp only[Act.put,sA,sZ,sS]
   refine tk (i:=2) (oi:=⟨some 11,_,_,_,_,_⟩) (v:=?_) rfl (Or.inl ⟨by rfl,?_⟩) ?_
   rotate_left
   ·intro W hSw;obtain⟨x0,x1⟩:=hSw;go_simp;try (with_reducible rfl)
   try simp only[Act.put,sA,sZ,sS]
   refine tk (i:=3) (oi:=⟨some 12,_,_,_,_,_⟩) (v:=?_) rfl (Or.inl ⟨by rfl,?_⟩) ?_
   rotate_left
   ·intro W hSw;obtain⟨x0,x1⟩:=hSw;go_simp;try (with_reducible rfl)
   try simp only[Act.put,sA,sZ,sS]
   refine tk (i:=4) (oi:=⟨some 13,_,_,_,_,_⟩) (v:=?_) rfl (Or.inl ⟨by rfl,?_⟩) ?_
   rotate_left
   ·intro W hSw;obtain⟨x0,x1⟩:=hSw;go_simp;try (with_reducible rfl)
   try simp only[Act.put,sA,sZ,sS]
   refine wpAnyH_ready (rs:=[5]) (by kernel_rfl) (by simp) ?_
   refine AllReadyH.cons (o:=⟨some 14,_,_,_,_,_⟩) rfl (fun K hK=>?_) AllReadyH.nil
   go_simp
   ((refine HS.out.mono ?_);rintro e w4 ⟨rfl,hb4⟩;have B4:=Lib.hid (B3.out.drew.trans (hb4.mono B3.out.size));have R4:=Lib.hid (R3.out.drew.below hb4 R3.out.lt);have HY4:=Lib.hid (HY3.out.drew.below hb4 (Nat.le_refl _));have S4:=Lib.hid (show w4.cell? ⟨s5,0,none⟩=some (.int .u64 x0)∧w4.cell? ⟨s5,6,none⟩=some (.slice A2 m2 c2')from⟨R4.out.cell (i:=0) rfl,R4.out.cell (i:=6) rfl⟩);have Z4:=Lib.hid ((hb4.block _ Z3s.out).trans Z3.out);clear hb4)
   try go_wp2_with fail
   refine hK.out _ _ (by exact S4.out) (fun hHeld=>?_)
   clear hK K
   try simp only[Act.put,sA,sZ,sS]
   refine tk (i:=6) (oi:=⟨some 15,_,_,_,_,_⟩) (v:=?_) rfl (Or.inl ⟨by rfl,?_⟩) ?_
   rotate_left
   ·intro W hSw;obtain⟨x0,x1⟩:=hSw;go_simp;try (with_reducible rfl)
   try simp only[Act.put,sA,sZ,sS]
   refine wpAnyH_ready (rs:=[7]) (by kernel_rfl) (by simp) ?_
   refine AllReadyH.cons (o:=⟨some 16,_,_,_,_,_⟩) rfl (fun K hK=>?_) AllReadyH.nil
   go_simp
   ((refine(need_yes 9 _).mono ?_);rintro e w5 ⟨rfl,rfl⟩)
   try go_wp2_with fail
   refine hK.out _ _ (by exact S4.out) (fun hHeld=>?_)
   clear hK K
   try simp only[Act.put,sA,sZ,sS]
   refine wpAnyH_done (by kernel_rfl) ?_ _
   go_wp2_with(first
    |((with_reducible apply at_slot 17);refine wpList_load_row rfl 67 (.tmp 5) rfl s5 rfl 67 #[.int .u64 x0,.int .u64 x1,.int .u64 x2,.int .u64 x3,.int .u64 x4,.int .u64 x5,.slice A2 m2 c2'] (0,0) _ R4.out Tryz.underlying67 rfl (by kernel_rfl) ?_)
    |((with_reducible apply at_store (.tmp 4) (.tmp 17));refine wpList_store_row rfl 67 (.tmp 4) (.tmp 17) rfl w.heap.size #[.int .u64 x0,.int .u64 x1,.int .u64 x2,.int .u64 x3,.int .u64 x4,.int .u64 x5,.slice A2 m2 c2'] rfl rfl 67 dz Z4.out (by kernel_rfl) rfl (by simp[Value.oneCell']) ?_)
    |fail)
   refine bodyPost_ret (v:=dataV x0 x1 x2 x3 x4 x5 A2 m2 c2') (by exact results_cell_row Tryz.results100 _ _ w.heap.size 67 _ (0,0) _ rfl (setRow_heap _ w.heap.size _ _ _ (0,0) Z4.out) Tryz.underlying67 rfl (by kernel_rfl)) rfl ?_
   have b5:=below_setRow (B:=w.heap.size) B4.out (Nat.le_refl _) #[.int .u64 x0,.int .u64 x1,.int .u64 x2,.int .u64 x3,.int .u64 x4,.int .u64 x5,.slice A2 m2 c2']
   exact⟨b5,.inr ⟨HC0.out,A2,m2,c2',rfl,bytes_apart HY4.out Z4.out _,hl2,HCp.out⟩⟩
  ·have hcc:=HCC.out
   rw[if_neg he]at hcc
   have HC9:=Lib.hid hcc
   clear hcc
   have d:(x0==y0)=false:=by simpa using he
   refine wp_region_held_drew (S:=fun W:World=>W.cell? ⟨s5,0,none⟩=some (.int .u64 x0)∧W.cell? ⟨s5,6,none⟩=some (.slice A2 m2 c2')) (by kernel_rfl) (by exact Sd.out) (fun hHeld=>?_)
   refine tk (i:=0) (oi:=⟨some 9,_,_,_,_,_⟩) (v:=?_) rfl (Or.inl ⟨by rfl,?_⟩) ?_
   rotate_left
   ·intro W hSw;obtain⟨x0,x1⟩:=hSw;go_simp;try (with_reducible rfl)
   try simp only[Act.put,sA,sZ,sS]
   refine tk (i:=1) (oi:=⟨some 10,_,_,_,_,_⟩) (v:=?_) rfl (Or.inl ⟨by rfl,?_⟩) ?_
   rotate_left
   ·intro W hSw;obtain⟨x0,x1⟩:=hSw;go_simp;try (with_reducible rfl)
   try simp only[Act.put,sA,sZ,sS]
   refine tk (i:=2) (oi:=⟨some 11,_,_,_,_,_⟩) (v:=?_) rfl (Or.inl ⟨by rfl,?_⟩) ?_
   rotate_left
   ·intro W hSw;obtain⟨x0,x1⟩:=hSw;go_simp;try (with_reducible rfl)
   try simp only[Act.put,sA,sZ,sS]
   refine tk (i:=3) (oi:=⟨some 12,_,_,_,_,_⟩) (v:=?_) rfl (Or.inl ⟨by rfl,?_⟩) ?_
   rotate_left
   ·intro W hSw;obtain⟨x0,x1⟩:=hSw;go_simp;try (with_reducible rfl)
   try simp only[Act.put,sA,sZ,sS]
   refine tk (i:=4) (oi:=⟨some 13,_,_,_,_,_⟩) (v:=?_) rfl (Or.inl ⟨by rfl,?_⟩) ?_
   rotate_left
   ·intro W hSw;obtain⟨x0,x1⟩:=hSw;go_simp;try (with_reducible rfl)
   try simp only[Act.put,sA,sZ,sS]
   refine wpAnyH_ready (rs:=[5]) (by kernel_rfl) (by simp) ?_
   refine AllReadyH.cons (o:=⟨some 14,_,_,_,_,_⟩) rfl (fun K hK=>?_) AllReadyH.nil
   go_simp
   ((refine HS.out.mono ?_);rintro e w4 ⟨rfl,hb4⟩;have B4:=Lib.hid (B3.out.drew.trans (hb4.mono B3.out.size));have R4:=Lib.hid (R3.out.drew.below hb4 R3.out.lt);have HY4:=Lib.hid (HY3.out.drew.below hb4 (Nat.le_refl _));have S4:=Lib.hid (show w4.cell? ⟨s5,0,none⟩=some (.int .u64 x0)∧w4.cell? ⟨s5,6,none⟩=some (.slice A2 m2 c2')from⟨R4.out.cell (i:=0) rfl,R4.out.cell (i:=6) rfl⟩);have Z4:=Lib.hid ((hb4.block _ Z3s.out).trans Z3.out);clear hb4)
   try go_wp2_with fail
   refine hK.out _ _ (by exact S4.out) (fun hHeld=>?_)
   clear hK K
   try simp only[Act.put,sA,sZ,sS]
   refine tk (i:=6) (oi:=⟨some 15,_,_,_,_,_⟩) (v:=?_) rfl (Or.inl ⟨by rfl,?_⟩) ?_
   rotate_left
   ·intro W hSw;obtain⟨x0,x1⟩:=hSw;go_simp;try (with_reducible rfl)
   try simp only[Act.put,sA,sZ,sS]
   refine wpAnyH_ready (rs:=[7]) (by kernel_rfl) (by simp) ?_
   refine AllReadyH.cons (o:=⟨some 16,_,_,_,_,_⟩) rfl (fun K hK=>?_) AllReadyH.nil
   go_simp
   ((refine(need_no 9 _).mono ?_);rintro e w5 ⟨rfl,rfl⟩;exact⟨rfl,B4.out,.inl ⟨by rw[HC9.out];decide,by rw[HC9.out]⟩⟩)
 ·rw[if_pos hz]
  go_enter Tryz.func100,Tryz.ntmps100
  go_wp2_with(first
   |(go_at_call 88;(refine HV.out.mono ?_);rintro e w3 ⟨hb3,⟨_,rfl⟩|⟨he,_⟩⟩;rotate_left;(exact absurd he hz);have B3:=Lib.hid (b1.out.trans (hb3.mono b1.out.size));clear hb3)
   |fail)
  exact⟨rfl,B3.out,.inl ⟨hz,rfl⟩⟩
end Rk
namespace Rl
open Bytes8 Blk8 Own8 OwnE Rows2 Ob Ga Gb Oj Ok7 Np Rc Rk
open Rd (dz)
open Re (bytes_code load_code ReadD)
theorem caught_idle (g3:Nat)(w:World):CallsD Tryz.prog 151 #[.pointer (some ⟨g3,0,none⟩)] .returning w fun e u' w'=>e= .returned (.tuple #[])∧u'= .returning∧w'=w:=by
 refine callsD_of_wpS Tryz.func151 rfl fun c₀ cs hu=>?_
 apply wpS_seq
 apply wpS_region
 simp[wpOpsS,go_sem,recoverD,hu,Tryz.ntmps151,Exit.thenS]
 refine wpS_of_wp ?_
 go_wp2
 cases c₀
 simp_all[bodyPostS,results,Tryz.results151]
theorem caught_halt (g3:Nat)(c y:Int)(older:List PanicEntry)(w:World)(h:Blk w g3 [.int .i64 y] 3):CallsD Tryz.prog 151 #[.pointer (some ⟨g3,0,none⟩)] (.panicking ({v:= .iface 230 (.int .i64 c),recovered:=false}::older)) w fun e u' w'=>e= .returned (.tuple #[])∧u'= .panicking ({v:= .iface 230 (.int .i64 c),recovered:=true}::older)∧w'=w.setCell ⟨g3,0,none⟩ (.int .i64 c):=by
 have c0:=h.cell (i:=0) rfl
 have z0:=h.frozen 0
 have hta: ∀w:World,(Instr.typeAssert (.iface 230 (.int .i64 c)) 20 230 true).run Tryz.prog w= .ok (.tuple #[.int .i64 c,.bool true]) w:=fun _=>by kernel_rfl
 refine callsD_of_wpS Tryz.func151 rfl fun c₀ cs hu=>?_
 apply wpS_seq
 apply wpS_region
 simp[wpOpsS,go_sem,recoverD,hu,Tryz.ntmps151,Exit.thenS]
 refine wpS_of_wp ?_
 go_wp2
 cases c₀
 simp_all[bodyPostS,results,Tryz.results151]
def ReadP (B:Nat)(l:List Int)(a:Nat)(cd:Int)(e:Ending)(w':World):Prop:=
 (cd≠0∧e= .panicked [haltE cd])∨(cd=0∧ ∃A' m' c',e= .returned (.slice A' m' c')∧Bytes w' A' (bpay l a 1 6)∧(bpay l a 1 6).length=m'∧Cap B A' m' c')
def AskP (B:Nat)(l:List Int)(a:Nat)(cd:Int)(e:Ending)(w':World):Prop:=
 (cd≠0∧e= .returned (.tuple #[.slice none 0 0,.int .i64 cd]))∨(cd=0∧ ∃A' m' c',e= .returned (.tuple #[.slice A' m' c',.int .i64 0])∧Bytes w' A' (bpay l a 1 6)∧(bpay l a 1 6).length=m'∧Cap B A' m' c')
attribute [local irreducible] wpList Code.wp
theorem vpay_cl {gv:Nat}{h:HD}{A:Option Addr}{n c:Nat}{l:List Int}(a:Nat)(g2 g3:Nat)(w:World)(v:ViewAt w gv h A n c l)(hcm:c≤maxLen)(h8:n≤800000)(H2:Blk w g2 [.pointer (some ⟨gv,0,none⟩)] 27)(H3:Blk w g3 [.int .u64 (a:Int)] 40):
 Calls Tryz.prog 99 #[.pointer (some ⟨g2,0,none⟩),.pointer (some ⟨g3,0,none⟩)] w fun e w'=>Below w.heap.size w w'∧ReadP w.heap.size l a (hcode9 h l n a) e w':=by
 have c2:=H2.cell (i:=0) rfl
 have c3:=H3.cell (i:=0) rfl
 have hfld: ∀(y0 y1 y2 y3 y4 y5:Int) (A2:Option Addr) (m2 c2:Nat) (W:World),(Instr.field 67 (dataV y0 y1 y2 y3 y4 y5 A2 m2 c2) 6).run Tryz.prog W= .ok (.slice A2 m2 c2) W:=fun _ _ _ _ _ _ _ _ _ _=>by rfl
 have HV:=Lib.hid (hashed_any a w v hcm h8)
 unfold ReadD at HV
 unfold ReadP
 generalize bnum l a 1 6 0=x0 at*
 generalize bnum l a 1 6 1=x1 at*
 generalize bnum l a 1 6 2=x2 at*
 generalize bnum l a 1 6 3=x3 at*
 generalize bnum l a 1 6 4=x4 at*
 generalize bnum l a 1 6 5=x5 at*
 generalize hcode9 h l n a=cd at*
 generalize bpay l a 1 6=pl at*
 clear v H2 H3
 by_cases hz:cd=0
 ·subst hz
  go_enter Tryz.func99,Tryz.ntmps99
  go_wp2_with(first
   |(go_at_call 100;(refine HV.out.mono ?_);rintro e w3 ⟨hb3,⟨hne,_⟩|⟨_,A2,m2,c2',rfl,hy2,hl2,hm2⟩⟩;(exact absurd rfl hne);have B3:=Lib.hid hb3;have HY3:=Lib.hid hy2;have HC3:=Lib.hid hm2;clear hb3 hy2 hm2)
   |fail)
  go_ret
  exact⟨B3.out,.inr ⟨trivial,A2,m2,c2',rfl,HY3.out,hl2,HC3.out⟩⟩
 ·go_enter Tryz.func99,Tryz.ntmps99
  go_wp2_with(first
   |(go_at_call 100;(refine HV.out.mono ?_);rintro e w3 ⟨hb3,⟨_,rfl⟩|⟨he,_⟩⟩;rotate_left;(exact absurd he hz);have B3:=Lib.hid hb3;clear hb3)
   |fail)
  exact⟨rfl,B3.out,.inl ⟨hz,rfl⟩⟩
theorem asked_any {gv:Nat}{h:HD}{A:Option Addr}{n c:Nat}{l:List Int}(a:Nat)(g2 g3:Nat)(w:World)(v:ViewAt w gv h A n c l)(hcm:c≤maxLen)(h8:n≤800000)(H2:Blk w g2 [.pointer (some ⟨gv,0,none⟩)] 27)(H3:Blk w g3 [.int .u64 (a:Int)] 40):
 Calls Tryz.prog 98 #[.func (.func 99) #[] #[.pointer (some ⟨g2,0,none⟩),.pointer (some ⟨g3,0,none⟩)]] w fun e w'=>Below w.heap.size w w'∧AskP w.heap.size l a (hcode9 h l n a) e w':=by
 have b2:=Lib.hid ((Below.refl w.heap.size w).alloc (Nat.le_refl _) (.cells #[.int .i64 0] 3))
 have v2:=v.below b2.out
 have HV:=Lib.hid (vpay_cl a g2 g3 _ v2 hcm h8 (H2.below b2.out H2.lt) (H3.below b2.out H3.lt))
 have S2:(w.alloc (.cells #[.int .i64 0] 3)).heap.size=w.heap.size+1:=by simp only[World.alloc,Array.size_push]
 have R2:=Lib.hid (Blk.new w [.int .i64 0] 3)
 have hfn: ∀(fn:Fn) (first cap:Array Value) (w:World),(Instr.makeFunc fn first cap).run Tryz.prog w= .ok (.func fn first cap) w:=fun _ _ _ _=>rfl
 unfold ReadP at HV
 unfold AskP
 generalize hcode9 h l n a=cd at*
 generalize bpay l a 1 6=pl at*
 clear v v2 H2 H3
 by_cases hz:cd=0
 ·subst hz
  go_enter_defers Tryz.func98,Tryz.ntmps98
  go_wp2_with(first
   |(go_at_call 99;(refine HV.out.mono ?_);rintro e w3 ⟨hb3,⟨hne,_⟩|⟨_,A2,m2,c2',rfl,hy2,hl2,hm2⟩⟩;(exact absurd rfl hne);have B3:=Lib.hid (b2.out.trans (hb3.mono b2.out.size));have HY3:=Lib.hid hy2;have HC3:=Lib.hid (hm2.mono b2.out.size);have R3:=Lib.hid (R2.out.below hb3 (by rw[S2];omega));have c4:=R3.out.cell (i:=0) rfl;have z4:=R3.out.frozen 0;clear hb3 hy2 hm2)
   |fail)
  refine leaves_cons (f:=151) (args:= #[.pointer (some ⟨w.heap.size,0,none⟩)]) (by simp) (by simp[go_sem]) ?_
  refine(caught_idle _ _).mono ?_
  rintro e u' w'' ⟨rfl,rfl,rfl⟩
  have b4:=B3.out.setCell (p:=⟨w.heap.size,0,none⟩) (Nat.le_refl _) (.int .i64 0)
  exact⟨.tuple #[.slice A2 m2 c2',.int .i64 0],(by exact res_slot_cell Tryz.results98 _ _ w.heap.size _ _ rfl rfl (load_code _ _ _ (R3.out.set_ 0 _))),b4,.inr ⟨trivial,A2,m2,c2',rfl,bytes_code HY3.out R3.out _,hl2,HC3.out⟩⟩
 ·go_enter_defers Tryz.func98,Tryz.ntmps98
  go_wp2_with(first
   |(go_at_call 99;(refine HV.out.mono ?_);rintro e w3 ⟨hb3,⟨_,rfl⟩|⟨he,_⟩⟩;rotate_left;(exact absurd he hz);have B3:=Lib.hid (b2.out.trans (hb3.mono b2.out.size));have R3:=Lib.hid (R2.out.below hb3 (by rw[S2];omega));clear hb3)
   |fail)
  refine leaves_cons (f:=151) (args:= #[.pointer (some ⟨w.heap.size,0,none⟩)]) (by simp) (by simp[go_sem]) ?_
  refine(caught_halt _ cd 0 [] _ R3.out).mono ?_
  rintro e u' w'' ⟨rfl,rfl,rfl⟩
  have b4:=B3.out.setCell (p:=⟨w.heap.size,0,none⟩) (Nat.le_refl _) (.int .i64 cd)
  exact⟨.tuple #[.slice none 0 0,.int .i64 cd],(by exact res_slot_cell Tryz.results98 _ _ w.heap.size _ _ rfl rfl (load_code _ _ _ (R3.out.set_ 0 _))),b4,.inl ⟨hz,rfl⟩⟩
theorem payAsk {gv:Nat}{h:HD}{A:Option Addr}{n c:Nat}{l:List Int}(a:Nat)(w:World)(v:ViewAt w gv h A n c l)(hcm:c≤maxLen)(h8:n≤800000):
 Calls Tryz.prog 39 #[.pointer (some ⟨gv,0,none⟩),.int .u64 (a:Int)] w fun e w'=>Below w.heap.size w w'∧AskP w.heap.size l a (hcode9 h l n a) e w':=by
 have b1:=Lib.hid ((Below.refl w.heap.size w).alloc (Nat.le_refl _) (.cells #[.pointer (some ⟨gv,0,none⟩)] 27))
 have b2:=Lib.hid (b1.out.alloc b1.out.size (.cells #[.int .u64 (a:Int)] 40))
 have v2:=v.below b2.out
 have S1:(w.alloc (.cells #[.pointer (some ⟨gv,0,none⟩)] 27)).heap.size=w.heap.size+1:=by simp only[World.alloc,Array.size_push]
 have K1:=(Blk.new w [.pointer (some ⟨gv,0,none⟩)] 27).alloc (.cells #[.int .u64 (a:Int)] 40)
 have K2:=Blk.new_at (w.alloc (.cells #[.pointer (some ⟨gv,0,none⟩)] 27)) [.int .u64 (a:Int)] 40 _ S1
 have HV:=Lib.hid (asked_any a w.heap.size (w.heap.size+1) _ v2 hcm h8 K1 K2)
 have hfn: ∀(fn:Fn) (first cap:Array Value) (w:World),(Instr.makeFunc fn first cap).run Tryz.prog w= .ok (.func fn first cap) w:=fun _ _ _ _=>rfl
 unfold AskP at HV⊢
 generalize hcode9 h l n a=cd at*
 generalize bpay l a 1 6=pl at*
 clear v v2 K1 K2
 by_cases hz:cd=0
 ·subst hz
  go_enter Tryz.func39,Tryz.ntmps39
  go_wp2_with(first
   |(go_at_call 98;(refine HV.out.mono ?_);rintro e w4 ⟨hb4,⟨hne,_⟩|⟨_,A2,m2,c2',rfl,hy2,hl2,hm2⟩⟩;(exact absurd rfl hne);have B4:=Lib.hid (b2.out.trans (hb4.mono b2.out.size));have HY4:=Lib.hid hy2;have HC4:=Lib.hid (hm2.mono b2.out.size);clear hb4 hy2 hm2)
   |fail)
  go_ret2
  exact⟨B4.out,.inr ⟨trivial,A2,m2,c2',rfl,HY4.out,hl2,HC4.out⟩⟩
 ·go_enter Tryz.func39,Tryz.ntmps39
  go_wp2_with(first
   |(go_at_call 98;(refine HV.out.mono ?_);rintro e w4 ⟨hb4,⟨_,rfl⟩|⟨he,_⟩⟩;rotate_left;(exact absurd he hz);have B4:=Lib.hid (b2.out.trans (hb4.mono b2.out.size));clear hb4)
   |fail)
  go_ret2
  exact⟨B4.out,.inl ⟨hz,rfl⟩⟩
end Rl
namespace Rr
open Bytes8 Blk8 Own8 OwnE Rows2 Ob Ga Gb Ok7 Ma Na Np Pr8 Nt Nu Ra Rc Rk Rl Rm
open Ye Yg Yh
open Rd (dcode dz)
open Go1 (hcode rhd hread_any HTold magicB)
def payT (h:HD)(l:List Int)(n a:Nat):List Int:=if hcode9 h l n a=0 then bpay l a 1 6 else []
def TellP (pl:List Int)(cd:Int)(w:World)(e:Ending)(w':World):Prop:= ∃A m c,e= .returned (.tuple #[.slice A m c,.int .i64 cd])∧Bytes w' A pl∧pl.length=m∧Below w.heap.size w w'
theorem payTell {gv:Nat}{h:HD}{A:Option Addr}{n c:Nat}{l:List Int}(a:Nat)(w:World)(v:ViewAt w gv h A n c l)(hcm:c≤maxLen)(h8:n≤800000):
 Calls Tryz.prog 39 #[.pointer (some ⟨gv,0,none⟩),.int .u64 (a:Int)] w (TellP (payT h l n a) (hcode9 h l n a) w):=by
 refine(payAsk a w v hcm h8).mono ?_
 rintro e w' ⟨hb,⟨hz,rfl⟩|⟨hz,F,m2,c2,rfl,hp,hl,_⟩⟩
 ·unfold TellP payT
  rw[if_neg hz]
  exact⟨none,0,0,rfl,Bytes.nil _ _,rfl,hb⟩
 ·unfold TellP payT
  rw[if_pos hz,hz]
  exact⟨F,m2,c2,rfl,hp,hl,hb⟩
attribute [local irreducible] HD.cells wpList Code.wp
theorem view_head {w:World}{gv:Nat}{h:HD}{b:Value}(hv:Blk w gv (viewC h b) 123):w.rangeAt gv 0 (h.cells 21):=fun j x hj=>by
 rw[Nat.zero_add]
 refine hv.cell ?_
 unfold viewC
 rw[List.getElem?_append_left (List.getElem?_eq_some_iff.1 hj).1]
 exact hj
theorem vhead_any {gv:Nat}{h:HD}{b:Value}(w:World)(hv:Blk w gv (viewC h b) 123):Calls Tryz.prog 36 #[.pointer (some ⟨gv,0,none⟩)] w fun e w'=>e= .returned (.agg (h.cells 21).toArray)∧Below w.heap.size w w':=by
 have b1:=Lib.hid ((Below.refl w.heap.size w).alloc (Nat.le_refl _) (.cells Tryz.zeroCells78 78))
 have HR:=Lib.hid (view_head (hv.below b1.out hv.lt))
 have Z:=Lib.hid (heap_alloc_new w (.cells Tryz.zeroCells78 78))
 clear hv
 go_enter Tryz.func36,Tryz.ntmps36
 go_wp2_with(first
  |((with_reducible apply at_slot 6);refine wpList_load_mid rfl 78 (.tmp 5) rfl gv 0 rfl (h.cells 21) _ HR.out Tryz.underlying78 rfl (hcells_len _) ?_)
  |((with_reducible apply at_store (.tmp 2) (.tmp 6));refine wpList_store_row rfl 78 (.tmp 2) (.tmp 6) rfl w.heap.size (h.cells 21).toArray rfl rfl 78 Tryz.zeroCells78 Z.out (cells_info _) zeros_size (HD.one _ 21) ?_)
  |fail)
 refine bodyPost_ret (v:= .agg (h.cells 21).toArray) (by exact results_cell_row Tryz.results36 _ _ w.heap.size 78 _ (0,0) _ rfl (setRow_heap _ w.heap.size _ _ _ (0,0) Z.out) Tryz.underlying78 rfl (cells_info _)) rfl ?_
 exact⟨rfl,below_setRow b1.out (Nat.le_refl _) _⟩
end Rr
namespace Va
open Rows2 Ob Ga Gb Ok7 Np Rc Rm
open Yp Yd Ye Yg Yh
open Rd (dcode dz)
open Re (AskD)
open Rg (arcode az AskA arrAsk)
def aX9 (h:HD)(l:List Int)(n a:Nat):Int:=if rng h n a then arX l a else 0
def aC9 (h:HD)(l:List Int)(n a:Nat):Nat:=if rng h n a then arM l a else 0
def TellA (B:Nat)(h:HD)(l:List Int)(n a:Nat)(w:World)(e:Ending)(w':World):Prop:=Below w.heap.size w w'∧ ∃A' c,e= .returned (.tuple #[arrV (aX9 h l n a) A' (aC9 h l n a) c,.int .i64 (arcode h l n a)])∧InInts .u64 w' A' (aC9 h l n a) (arF (bodyL l a))∧NewIn B A'
theorem none_new (B:Nat):NewIn B none:=fun b off e=>by cases e
theorem arrTell {gv:Nat}{h:HD}{A:Option Addr}{n c:Nat}{l:List Int}(a:Nat)(w:World)(v:ViewAt w gv h A n c l)(hcm:c≤maxLen):
 Calls Tryz.prog 188 #[.pointer (some ⟨gv,0,none⟩),.int .u64 (a:Int)] w (TellA w.heap.size h l n a w):=by
 refine(arrAsk a w v hcm).mono ?_
 rintro e w' ⟨hb,hh⟩
 refine⟨hb,?_⟩
 unfold aX9 aC9 arcode
 by_cases hr:rng h n a
 ·rcases hh with⟨hz,rfl⟩|⟨hz,A',c',rfl,h1,h2⟩
  ·have e0:arcode h l n a=ecode l a 6 8 8:=if_pos hr
   rw[e0]at hz
   have t1:arX l a=0:=if_neg hz
   have t2:arM l a=0:=if_neg hz
   simp only[if_pos hr,t1,t2]
   rw[e0]
   exact⟨none,0,rfl,fun i hi=>absurd hi (Nat.not_lt_zero i),none_new _⟩
  ·have e0:arcode h l n a=ecode l a 6 8 8:=if_pos hr
   rw[e0]at hz
   simp only[if_pos hr]
   rw[hz]
   exact⟨A',c',rfl,h1,h2⟩
 ·rcases hh with⟨hz,rfl⟩|⟨hz,_⟩
  ·simp only[if_neg hr]
   rw[show arcode h l n a=2 from if_neg hr]
   exact⟨none,0,rfl,fun i hi=>absurd hi (Nat.not_lt_zero i),none_new _⟩
  ·rw[show arcode h l n a=2 from if_neg hr]at hz;cases hz
attribute [local irreducible] HD.cells wpList Code.wp
end Va
namespace Wa
open Bytes8 Own8 OwnE Ob Ga Gb Ok7 Rc Va
open Yp Ye Yh
open Rg (arcode)
open Ym (wordElt)
def lastI (out:List Int):Int:=out.getLastD 0
def inA (K:List Int→List Int×Int)(E:Nat)(n ni:Int)(g:Nat→Int):Nat→Nat→List Int→List Int×Int
 |0,_,out=>K out
 |m+1,i,out=>if(out.length:Int)=n then(out,0)else if nothB E (g i)=true then(out,ni)else if g i≤lastI out then(out,13)else inA K E n ni g m (i+1) (out++ [g i])
def chase (h:HD)(l:List Int)(E:Nat)(n na ni:Int):Nat→List Int→Nat→Nat→List Int×Int
 |0,out,_,_=>(out,0)
 |f+1,out,a,last=>if(out.length:Int)=n then(out,0)else if nothB E a=true then(out,na)else if a≤last then(out,12)else if arcode h l E a≠0 then(out,arcode h l E a)else inA (fun o=>chase h l E n na ni f o (aX9 h l E a).toNat a) E n ni (arF (bodyL l a)) (aC9 h l E a) 0 out
theorem inA_full (K:List Int→List Int×Int)(E:Nat)(n ni:Int)(g:Nat→Int)(m i:Nat)(out:List Int)(h:(out.length:Int)=n)(hK:K out=(out,0)):inA K E n ni g m i out=(out,0):=by
 cases m with
 |zero=>exact hK
 |succ m=>exact if_pos h
theorem chase_full (h:HD)(l:List Int)(E:Nat)(n na ni:Int)(f:Nat)(out:List Int)(a last:Nat)(hl:(out.length:Int)=n):chase h l E n na ni f out a last=(out,0):=by
 cases f with
 |zero=>rfl
 |succ f=>exact if_pos hl
theorem aX9_nn {h:HD}{l:List Int}{E a:Nat}(hA:AllB l):aX9 h l E a=((aX9 h l E a).toNat:Int)∧(aX9 h l E a).toNat≤18446744073709551615:=by
 have hb:AllB (bodyL l a):=fun x hx=>hA x (List.mem_of_mem_drop (List.mem_of_mem_take hx))
 have h1:=u8_bd hb 0
 have h2:0≤aX9 h l E a∧aX9 h l E a≤18446744073709551615:=by
  unfold aX9 arX
  split
  ·split
   ·exact h1
   ·omega
  ·omega
 omega
theorem arF_nn {l:List Int}{a:Nat}(hA:AllB l)(i:Nat):0≤arF (bodyL l a) i∧arF (bodyL l a) i≤18446744073709551615:=u8_bd (fun x hx=>hA x (List.mem_of_mem_drop (List.mem_of_mem_take hx))) _
theorem aC_le {h:HD}{l:List Int}{n a:Nat}(hl:l.length≤1000000):aC9 h l n a≤1000000:=by
 have hb:(bodyL l a).length≤l.length:=by unfold bodyL;rw[List.length_take,List.length_drop];omega
 unfold aC9
 split
 ·unfold arM arN
  split<;>omega
 ·omega
theorem lastI_snoc (out:List Int)(x:Int):lastI (out++ [x])=x:=by simp[lastI]
def Up (E:Nat)(out:List Int):Prop:=(out.length:Int)≤lastI out∧lastI out≤(E:Int)
theorem Up.nil (E:Nat):Up E []:=⟨by simp[lastI],by simp[lastI]⟩
theorem Up.snoc {E:Nat}{out:List Int}{x:Int}(h:Up E out)(h1:lastI out<x)(h2:nothB E x=false):Up E (out++ [x]):=by
 have h3: ¬(E:Int)≤x:=by simp[nothB]at h2;omega
 refine⟨?_,?_⟩
 ·rw[lastI_snoc,List.length_append,List.length_singleton];have:=h.1;omega
 ·rw[lastI_snoc];omega
theorem last_cell (out:List Int)(m:Nat)(h:out.length=m+1):(out.map (Value.int .u64))[m]? =some (.int .u64 (lastI out)):=by
 rw[List.getElem?_map]
 have:out[m]? =some (lastI out):=by
  rw[show m=out.length-1 by omega,←List.getLast?_eq_getElem?]
  cases out with
  |nil=>simp at h
  |cons x t=>simp[lastI,List.getLastD_cons,List.getLast?_cons]
 rw[this];rfl
attribute [local irreducible] HD.cells wpList Code.wp
theorem noth_any {gv:Nat}{h:HD}{A:Option Addr}{n c:Nat}{l:List Int}(x:Int)(w:World)(v:ViewAt w gv h A n c l):Calls Tryz.prog 101 #[.pointer (some ⟨gv,0,none⟩),.int .u64 x] w fun e w'=>e= .returned (.bool (nothB n x))∧w=w':=by
 have HE:=Lib.hid (vend_any w v)
 clear v
 unfold nothB
 by_cases hx:x=0
 ·subst hx
  go_enter Tryz.func101,Tryz.ntmps101
  go_wp2_with(first
   |(go_at_call 37;(refine HE.out.mono ?_);rintro e w1 ⟨rfl,rfl⟩)
   |fail)
  go_ret
  exact⟨rfl,rfl⟩
 ·have hd:(x==0)=false:=by simpa using hx
  have hd2:decide (x=0)=false:=by simpa using hx
  rw[hd2,Bool.false_or]
  go_enter Tryz.func101,Tryz.ntmps101
  go_wp2_with(first
   |(go_at_call 37;(refine HE.out.mono ?_);rintro e w1 ⟨rfl,rfl⟩)
   |fail)
  go_ret
  exact⟨rfl,rfl⟩
end Wa
end Go.Proofs.YtjecmgkmcfkcjaaGreat
