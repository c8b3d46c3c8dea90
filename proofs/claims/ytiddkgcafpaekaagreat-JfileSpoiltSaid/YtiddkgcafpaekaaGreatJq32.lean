/-
  Texts beneath the proof.
-/
import Derived.Test.YtiddkgcafpaekaaGreatJq31
set_option linter.unusedVariables false
set_option linter.unusedSimpArgs false
set_option maxRecDepth 100000
set_option maxHeartbeats 4000000
open Go.ChangeShapes Go.WideShapes Go.ChangeAt Go.RowKit
namespace Go.Proofs.YtiddkgcafpaekaaGreat
namespace Rf
open Re (res_row_cell load_code)
attribute [local irreducible] wpList Code.wp
end Rf
namespace Rg
open Bytes8 Blk8 Own8 OwnE Rows2 Ob Ga Gb Gi Ok7 Rc Rd
open Kf Yp Yd Ye Yg Yh
open Re (res_row_cell load_code)
theorem caught_idle (g3:Nat)(w:World):CallsD Tryz.prog 240 #[.pointer (some ⟨g3,0,none⟩)] .returning w fun e u' w'=>e= .returned (.tuple #[])∧u'= .returning∧w'=w:=by
 refine callsD_of_wpS Tryz.func240 rfl fun c₀ cs hu=>?_
 apply wpS_seq
 apply wpS_region
 simp[wpOpsS,go_sem,recoverD,hu,Tryz.ntmps240,Exit.thenS]
 refine wpS_of_wp ?_
 go_wp2
 cases c₀
 simp_all[bodyPostS,results,Tryz.results240]
theorem caught_halt (g3:Nat)(c y:Int)(older:List PanicEntry)(w:World)(h:Blk w g3 [.int .i64 y] 3):CallsD Tryz.prog 240 #[.pointer (some ⟨g3,0,none⟩)] (.panicking ({v:= .iface 337 (.int .i64 c),recovered:=false}::older)) w fun e u' w'=>e= .returned (.tuple #[])∧u'= .panicking ({v:= .iface 337 (.int .i64 c),recovered:=true}::older)∧w'=w.setCell ⟨g3,0,none⟩ (.int .i64 c):=by
 have c0:=h.cell (i:=0) rfl
 have z0:=h.frozen 0
 have hta: ∀w:World,(Instr.typeAssert (.iface 337 (.int .i64 c)) 20 337 true).run Tryz.prog w= .ok (.tuple #[.int .i64 c,.bool true]) w:=fun _=>by kernel_rfl
 refine callsD_of_wpS Tryz.func240 rfl fun c₀ cs hu=>?_
 apply wpS_seq
 apply wpS_region
 simp[wpOpsS,go_sem,recoverD,hu,Tryz.ntmps240,Exit.thenS]
 refine wpS_of_wp ?_
 go_wp2
 cases c₀
 simp_all[bodyPostS,results,Tryz.results240]
abbrev az:Array Value:= #[.int .u64 0,.slice none 0 0]
attribute [local irreducible] wpList Code.wp
theorem got_no (a:Int)(A:Option Addr)(n k:Nat)(cd:Int)(h0:cd≠0)(w:World):Calls Tryz.prog 198 #[arrV a A n k,.int .i64 cd] w fun e w'=>e= .panicked [haltE cd]∧Below w.heap.size w w':=by
 have HN:=yH (need_no cd)
 have d0:(cd==0)=false:=by simpa using h0
 have b2:=yH (((Below.refl w.heap.size w).alloc (yR _) (.cells #[.int .u64 a,.slice A n k] 259)).alloc (by simp) (.cells az 259))
 go_enter Tryz.func198,Tryz.ntmps198
 go_wp2_with(first
  |(go_at_call 222;(refine(HN.out _).mono ?_);rintro e w1 ⟨rfl,rfl⟩)
  |fail)
 exact⟨rfl,rfl,b2.out⟩
theorem got_yes (a:Int)(A:Option Addr)(n k:Nat)(w:World):Calls Tryz.prog 198 #[arrV a A n k,.int .i64 0] w fun e' w'=>e'= .returned (arrV a A n k)∧Below w.heap.size w w':=by
 have HN:=yH (need_yes 0)
 go_enter Tryz.func198,Tryz.ntmps198
 go_wp2_with(first
  |(go_at_call 222;(refine(HN.out _).mono ?_);rintro e w1 ⟨rfl,rfl⟩)
  |fail)
 refine bodyPost_ret (v:=arrV a A n k) (by exact results_cell_row Tryz.results198 _ _ (w.heap.size+1) 259 _ (0,0) _ rfl (heap_alloc2_new w _ _) Tryz.underlying259 rfl (by kernel_rfl)) rfl ?_
 exact⟨rfl,((Below.refl w.heap.size w).alloc (yR _) _).alloc (by simp) _⟩
def arcode (h:HD)(l:List Int)(n a:Nat):Int:=if h.N 0≤(a:Int)∧a<n then ecode l a 6 8 8 else 2
def ReadA (B:Nat)(l:List Int)(a:Nat)(cd:Int)(e:Ending)(w':World):Prop:=
 (cd≠0∧e= .panicked [haltE cd])∨(cd=0∧ ∃A' c',e= .returned (arrV (arX l a) A' (arM l a) c')∧InInts .u64 w' A' (arM l a) (arF (bodyL l a))∧NewIn B A')
theorem ints_off {k:IntKind}{w:World}{a:Option Addr}{n:Nat}{f:Nat→Int}(hi:InInts k w a n f){g:Nat}(hg: ∀b off,a=some ⟨b,off,none⟩→b≠g)(i:Nat)(v:Value):InInts k (w.setCell ⟨g,i,none⟩ v) a n f:=fun j hx=>by
 obtain⟨b,off,e,h1,h2,h3⟩:=hi j hx
 exact⟨b,off,e,by simpa using h1,(World.cell?_of_block (Below.heap_setCell w ⟨g,i,none⟩ v b (hg b off e))).trans h2,h3⟩
theorem new_ne {B:Nat}{A:Option Addr}(h:NewIn B A){g:Nat}(hg:g<B): ∀b off,A=some ⟨b,off,none⟩→b≠g:=fun b off e=>Nat.ne_of_gt (yL hg (h b off e))
theorem new_mono {B C:Nat}{A:Option Addr}(h:NewIn B A)(hc:C≤B):NewIn C A:=fun b off e=>Nat.le_trans hc (h b off e)
theorem varr_cl {gv:Nat}{h:HD}{A:Option Addr}{n c:Nat}{l:List Int}(a:Nat)(g2 g3:Nat)(w:World)(v:ViewAt w gv h A n c l)(hcm:c≤maxLen)(H2:Blk w g2 [.pointer (some ⟨gv,0,none⟩)] 51)(H3:Blk w g3 [.int .u64 (a:Int)] 27):
 Calls Tryz.prog 197 #[.pointer (some ⟨g2,0,none⟩),.pointer (some ⟨g3,0,none⟩)] w fun e w'=>Below w.heap.size w w'∧ReadA w.heap.size l a (arcode h l n a) e w':=by
 have b1:=yH ((Below.refl w.heap.size w).alloc (yR _) (.cells az 259))
 have v1:=v.below b1.out
 have v1d:ViewAt (w.alloc (.cells az 259)).drew gv h A n c l:=⟨v1.blk,v1.by_,v1.len,v1.cap,v1.big,v1.ok⟩
 have b1d:=yH b1.out.drew
 have G2:=yH (H2.alloc (.cells az 259))
 have G3:=yH (H3.alloc (.cells az 259))
 have s2:=yH G2.out.lt
 have s3:=yH G3.out.lt
 have Z1:=yH (heap_alloc_new w (.cells az 259))
 have s1:=yH (show w.heap.size<(w.alloc (.cells az 259)).heap.size by simp)
 have l2:=yH (Nat.ne_of_lt H2.lt)
 have l3:=yH (Nat.ne_of_lt H3.lt)
 by_cases hin:h.N 0≤(a:Int)∧a<n
 ·have HF:=yH (from_yes (a:Int) _ v1d hin.1 (by omega))
  have HR:=yH (readArray_n A l n c a _ v1d.by_ v1.len v1.big v1.cap hcm (by have:=v1.big;omega))
  unfold ArrTold2 at HR
  unfold ReadA arcode
  rw[if_pos hin]
  generalize arX l a=x0 at*
  generalize ecode l a 6 8 8=cd at*
  generalize arM l a=mm at*
  generalize arF (bodyL l a)=ff at*
  clear v v1 v1d hin H2 H3
  go_enter Tryz.func197,Tryz.ntmps197
  go_upto_region 1 with fail
  generalize w.alloc (.cells az 259)=w1 at*
  have t2:=G2.out.cell (i:=0) rfl
  have t3:=G3.out.cell (i:=0) rfl
  by_cases hz:cd=0
  ·subst hz
   go_region_held3 (fun W=>W.cell? ⟨g2,0,none⟩=some (.pointer (some ⟨gv,0,none⟩))∧W.cell? ⟨g3,0,none⟩=some (.int .u64 (a:Int))) (first|(with_reducible exact⟨t2,t3⟩)|(with_reducible exact⟨u2,u3⟩)|(with_reducible exact⟨p2,p3⟩)|(with_reducible exact⟨q2,q3⟩)|go_keep) (first
    |(go_at_call 200;(refine HF.out.mono ?_);rintro e wf ⟨rfl,rfl⟩)
    |(go_at_call 199;(refine HR.out.mono ?_);rintro e w2 ⟨A2,c2',rfl,hb2,hy2,hw2⟩;have B2:=yH (b1d.out.trans (hb2.mono b1d.out.size));have ZZ2:=yH ((hb2.block _ s1.out).trans Z1.out);have HY2:=yH hy2;have HW2:=yH (show NewIn w1.heap.size A2 from hw2);have U2:=yH (G2.out.drew.below hb2 s2.out);have U3:=yH (G3.out.drew.below hb2 s3.out);have u2:=U2.out.cell (i:=0) rfl;have u3:=U3.out.cell (i:=0) rfl;have B2s:=yH hb2.size;clear hb2 hy2 hw2)
    |(go_at_call 198;(refine(got_yes x0 A2 mm c2' w2).mono ?_);rintro e w3 ⟨rfl,hb3⟩;have B3:=yH (B2.out.trans (hb3.mono B2.out.size));have HY3:=yH (HY2.out.below hb3);have P2:=yH (U2.out.below hb3 U2.out.lt);have P3:=yH (U3.out.below hb3 U3.out.lt);have p2:=P2.out.cell (i:=0) rfl;have p3:=P3.out.cell (i:=0) rfl;have Z3:=yH ((hb3.block _ (yL s1.out B2s.out)).trans ZZ2.out);have R3:=yH (show Blk w3 w.heap.size [.int .u64 0,.slice none 0 0] 259 from Z3.out);have e0:=R3.out.cell (i:=0) rfl;have z0:=R3.out.frozen 0;have e1:=R3.out.cell (i:=1) rfl;have z1:=R3.out.frozen 1;have q2:=((P2.out.far (p:=⟨w.heap.size,0,none⟩) l2.out (.int .u64 x0)).far (p:=⟨w.heap.size,1,none⟩) l2.out (.slice A2 mm c2')).cell (i:=0) rfl;have q3:=((P3.out.far (p:=⟨w.heap.size,0,none⟩) l3.out (.int .u64 x0)).far (p:=⟨w.heap.size,1,none⟩) l3.out (.slice A2 mm c2')).cell (i:=0) rfl;clear hb3)
    |fail)
   have F4:=(R3.out.set_ 0 (.int .u64 x0)).set_ 1 (.slice A2 mm c2')
   have Y4:=ints_off (ints_off HY3.out (new_ne HW2.out s1.out) 0 (.int .u64 x0)) (new_ne HW2.out s1.out) 1 (.slice A2 mm c2')
   have b4:=(B3.out.setCell (p:=⟨w.heap.size,0,none⟩) (yR _) (.int .u64 x0)).setCell (p:=⟨w.heap.size,1,none⟩) (yR _) (.slice A2 mm c2')
   have N4:=new_mono HW2.out (Nat.le_of_lt s1.out)
   go_wp2_with fail
   refine bodyPost_ret (v:=arrV x0 A2 mm c2') (by exact results_cell_row Tryz.results197 _ _ w.heap.size 259 _ (0,0) _ rfl F4 Tryz.underlying259 rfl (by kernel_rfl)) rfl ?_
   exact⟨b4,A2,⟨c2',rfl⟩,Y4,N4⟩
  ·refine wp_region_held_drew (S:=fun W:World=>W.cell? ⟨g2,0,none⟩=some (.pointer (some ⟨gv,0,none⟩))∧W.cell? ⟨g3,0,none⟩=some (.int .u64 (a:Int))) (by kernel_rfl) (by exact⟨t2,t3⟩) (fun hHeld=>?_)
   refine tk (i:=0) (oi:=⟨some 3,_,_,_,_,_⟩) (v:=?_) rfl (Or.inl ⟨by rfl,?_⟩) ?_
   rotate_left
   ·intro W hSw;obtain⟨x0,x1⟩:=hSw;go_simp;try (with_reducible rfl)
   try simp only[Act.put,sA,sZ,sS]
   refine tk (i:=1) (oi:=⟨some 4,_,_,_,_,_⟩) (v:=?_) rfl (Or.inl ⟨by rfl,?_⟩) ?_
   rotate_left
   ·intro W hSw;obtain⟨x0,x1⟩:=hSw;go_simp;try (with_reducible rfl)
   try simp only[Act.put,sA,sZ,sS]
   refine tk (i:=3) (oi:=⟨some 6,_,_,_,_,_⟩) (v:=?_) rfl (Or.inl ⟨by rfl,?_⟩) ?_
   rotate_left
   ·intro W hSw;obtain⟨x0,x1⟩:=hSw;go_simp;try (with_reducible rfl)
   try simp only[Act.put,sA,sZ,sS]
   refine wpAnyH_ready (rs:=[2]) (by kernel_rfl) (by simp) ?_
   refine AllReadyH.cons (o:=⟨some 5,_,_,_,_,_⟩) rfl (fun K hK=>?_) AllReadyH.nil
   go_simp
   ((refine HF.out.mono ?_);rintro e wf ⟨rfl,rfl⟩)
   try go_wp2_with fail
   refine hK.out _ _ (by exact⟨t2,t3⟩) (fun hHeld=>?_)
   clear hK K
   try simp only[Act.put,sA,sZ,sS]
   refine wpAnyH_ready (rs:=[4]) (by kernel_rfl) (by simp) ?_
   refine AllReadyH.cons (o:=⟨some 7,_,_,_,_,_⟩) rfl (fun K hK=>?_) AllReadyH.nil
   go_simp
   ((refine HR.out.mono ?_);rintro e w2 ⟨A2,c2',rfl,hb2,hy2,hw2⟩;have B2:=yH (b1d.out.trans (hb2.mono b1d.out.size));have U2:=yH (G2.out.drew.below hb2 s2.out);have U3:=yH (G3.out.drew.below hb2 s3.out);have u2:=U2.out.cell (i:=0) rfl;have u3:=U3.out.cell (i:=0) rfl;clear hb2 hy2 hw2)
   try go_wp2_with fail
   refine hK.out _ _ (by exact⟨u2,u3⟩) (fun hHeld=>?_)
   clear hK K
   try simp only[Act.put,sA,sZ,sS]
   refine tk (i:=5) (oi:=⟨some 8,_,_,_,_,_⟩) (v:=?_) rfl (Or.inl ⟨by rfl,?_⟩) ?_
   rotate_left
   ·intro W hSw;obtain⟨x0,x1⟩:=hSw;go_simp;try (with_reducible rfl)
   try simp only[Act.put,sA,sZ,sS]
   refine tk (i:=6) (oi:=⟨some 9,_,_,_,_,_⟩) (v:=?_) rfl (Or.inl ⟨by rfl,?_⟩) ?_
   rotate_left
   ·intro W hSw;obtain⟨x0,x1⟩:=hSw;go_simp;try (with_reducible rfl)
   try simp only[Act.put,sA,sZ,sS]
   refine wpAnyH_ready (rs:=[7]) (by kernel_rfl) (by simp) ?_
   refine AllReadyH.cons (o:=⟨some 10,_,_,_,_,_⟩) rfl (fun K hK=>?_) AllReadyH.nil
   go_simp
   ((refine(got_no x0 A2 mm c2' cd hz w2).mono ?_);rintro e w3 ⟨rfl,hb3⟩;have B3:=yH (B2.out.trans (hb3.mono B2.out.size));clear hb3;exact⟨rfl,B3.out,.inl ⟨hz,rfl⟩⟩)
 ·have HF:=yH (from_no (a:Int) _ v1d (by omega))
  unfold ReadA arcode
  rw[if_neg hin]
  generalize arX l a=x0 at*
  generalize arM l a=mm at*
  generalize arF (bodyL l a)=ff at*
  clear v v1 v1d H2 H3
  go_enter Tryz.func197,Tryz.ntmps197
  go_upto_region 1 with fail
  generalize w.alloc (.cells az 259)=w1 at*
  have t2:=G2.out.cell (i:=0) rfl
  have t3:=G3.out.cell (i:=0) rfl
  refine wp_region_held_drew (S:=fun W:World=>W.cell? ⟨g2,0,none⟩=some (.pointer (some ⟨gv,0,none⟩))∧W.cell? ⟨g3,0,none⟩=some (.int .u64 (a:Int))) (by kernel_rfl) (by exact⟨t2,t3⟩) (fun hHeld=>?_)
  refine tk (i:=0) (oi:=⟨some 3,_,_,_,_,_⟩) (v:=?_) rfl (Or.inl ⟨by rfl,?_⟩) ?_
  rotate_left
  ·intro W hSw;obtain⟨x0,x1⟩:=hSw;go_simp;try (with_reducible rfl)
  try simp only[Act.put,sA,sZ,sS]
  refine tk (i:=1) (oi:=⟨some 4,_,_,_,_,_⟩) (v:=?_) rfl (Or.inl ⟨by rfl,?_⟩) ?_
  rotate_left
  ·intro W hSw;obtain⟨x0,x1⟩:=hSw;go_simp;try (with_reducible rfl)
  try simp only[Act.put,sA,sZ,sS]
  refine tk (i:=3) (oi:=⟨some 6,_,_,_,_,_⟩) (v:=?_) rfl (Or.inl ⟨by rfl,?_⟩) ?_
  rotate_left
  ·intro W hSw;obtain⟨x0,x1⟩:=hSw;go_simp;try (with_reducible rfl)
  try simp only[Act.put,sA,sZ,sS]
  refine wpAnyH_ready (rs:=[2]) (by kernel_rfl) (by simp) ?_
  refine AllReadyH.cons (o:=⟨some 5,_,_,_,_,_⟩) rfl (fun K hK=>?_) AllReadyH.nil
  go_simp
  ((refine HF.out.mono ?_);rintro e wf ⟨rfl,rfl⟩;exact⟨rfl,b1d.out,.inl ⟨by decide,rfl⟩⟩)
def AskA (B:Nat)(l:List Int)(a:Nat)(cd:Int)(e:Ending)(w':World):Prop:=
 (cd≠0∧e= .returned (.tuple #[.agg az,.int .i64 cd]))∨(cd=0∧ ∃A' c',e= .returned (.tuple #[arrV (arX l a) A' (arM l a) c',.int .i64 0])∧InInts .u64 w' A' (arM l a) (arF (bodyL l a))∧NewIn B A')
theorem asked_any {gv:Nat}{h:HD}{A:Option Addr}{n c:Nat}{l:List Int}(a:Nat)(g2 g3:Nat)(w:World)(v:ViewAt w gv h A n c l)(hcm:c≤maxLen)(H2:Blk w g2 [.pointer (some ⟨gv,0,none⟩)] 51)(H3:Blk w g3 [.int .u64 (a:Int)] 27):
 Calls Tryz.prog 196 #[.func (.func 197) #[] #[.pointer (some ⟨g2,0,none⟩),.pointer (some ⟨g3,0,none⟩)]] w fun e w'=>Below w.heap.size w w'∧AskA w.heap.size l a (arcode h l n a) e w':=by
 have b1:=yH ((Below.refl w.heap.size w).alloc (yR _) (.cells az 259))
 have b2:=yH (b1.out.alloc b1.out.size (.cells #[.int .i64 0] 3))
 have v2:=v.below b2.out
 have HV:=yH (varr_cl a g2 g3 _ v2 hcm (H2.below b2.out H2.lt) (H3.below b2.out H3.lt))
 have S1:(w.alloc (.cells az 259)).heap.size=w.heap.size+1:=by simp only[World.alloc,Array.size_push]
 have S2:((w.alloc (.cells az 259)).alloc (.cells #[.int .i64 0] 3)).heap.size=w.heap.size+1+1:=by simp only[World.alloc,Array.size_push]
 have Z2:=yH ((Below.heap_alloc (w.alloc (.cells az 259)) (.cells #[.int .i64 0] 3) w.heap.size (by rw[S1];omega)).trans (heap_alloc_new w (.cells az 259)))
 have R2:=yH (Blk.new_at (w.alloc (.cells az 259)) [.int .i64 0] 3 _ S1)
 have hfn: ∀(fn:Fn) (first cap:Array Value) (w:World),(Instr.makeFunc fn first cap).run Tryz.prog w= .ok (.func fn first cap) w:=fun _ _ _ _=>rfl
 unfold ReadA at HV
 unfold AskA
 generalize arX l a=x0 at*
 generalize arcode h l n a=cd at*
 generalize arM l a=mm at*
 generalize arF (bodyL l a)=ff at*
 clear v v2 H2 H3
 by_cases hz:cd=0
 ·subst hz
  go_enter_defers Tryz.func196,Tryz.ntmps196
  go_wp2_with(first
   |(go_at_call 197;(refine HV.out.mono ?_);rintro e w3 ⟨hb3,⟨hne,_⟩|⟨_,A2,c2',rfl,hy2,hw2⟩⟩;(exact absurd rfl hne);have B3:=yH (b2.out.trans (hb3.mono b2.out.size));have HY3:=yH hy2;have HW3:=yH (show NewIn (w.heap.size+1+1) A2 from S2▸hw2);have Z3:=yH ((hb3.block _ (by rw[S2];omega)).trans Z2.out);have R3:=yH (R2.out.below hb3 (by rw[S2];omega));clear hb3 hy2 hw2)
   |((with_reducible apply at_store (.tmp 2) (.tmp 6));refine wpList_store_row rfl 259 (.tmp 2) (.tmp 6) rfl w.heap.size #[.int .u64 x0,.slice A2 mm c2'] rfl rfl 259 az Z3.out (by kernel_rfl) rfl (by simp[Value.oneCell']) ?_;have R4:=yH (show Blk (w3.setRow w.heap.size #[.int .u64 x0,.slice A2 mm c2']) (w.heap.size+1) [.int .i64 0] 3 from(setRow_other w3 w.heap.size (w.heap.size+1) _ (Nat.succ_ne_self _)).trans R3.out);have c4:=R4.out.cell (i:=0) rfl;have z4:=R4.out.frozen 0)
   |fail)
  refine leaves_cons (f:=240) (args:= #[.pointer (some ⟨w.heap.size+1,0,none⟩)]) (by simp) (by simp[go_sem]) ?_
  refine(caught_idle _ _).mono ?_
  rintro e u' w'' ⟨rfl,rfl,rfl⟩
  have b4:=(below_setRow (B:=w.heap.size) B3.out (yR _) #[.int .u64 x0,.slice A2 mm c2']).setCell (p:=⟨w.heap.size+1,0,none⟩) (Nat.le_succ _) (.int .i64 0)
  exact⟨.tuple #[arrV x0 A2 mm c2',.int .i64 0],(by exact res_row_cell Tryz.results196 _ _ w.heap.size (w.heap.size+1) 259 _ (0,0) _ _ rfl rfl ((Below.heap_setCell _ _ _ _ (Nat.succ_ne_self _).symm).trans (setRow_heap _ w.heap.size _ _ _ (0,0) Z3.out)) Tryz.underlying259 rfl (by kernel_rfl) (load_code _ _ _ (R4.out.set_ 0 _))),b4,.inr ⟨trivial,A2,c2',rfl,ints_off (InInts.setRow HY3.out (new_ne HW3.out (by omega)) _) (new_ne HW3.out (by omega)) _ _,new_mono HW3.out (by omega)⟩⟩
 ·go_enter_defers Tryz.func196,Tryz.ntmps196
  go_wp2_with(first
   |(go_at_call 197;(refine HV.out.mono ?_);rintro e w3 ⟨hb3,⟨_,rfl⟩|⟨he,_⟩⟩;rotate_left;(exact absurd he hz);have B3:=yH (b2.out.trans (hb3.mono b2.out.size));have Z3:=yH ((hb3.block _ (by rw[S2];omega)).trans Z2.out);have R3:=yH (R2.out.below hb3 (by rw[S2];omega));clear hb3)
   |fail)
  refine leaves_cons (f:=240) (args:= #[.pointer (some ⟨w.heap.size+1,0,none⟩)]) (by simp) (by simp[go_sem]) ?_
  refine(caught_halt _ cd 0 [] _ R3.out).mono ?_
  rintro e u' w'' ⟨rfl,rfl,rfl⟩
  have b4:=B3.out.setCell (p:=⟨w.heap.size+1,0,none⟩) (Nat.le_succ _) (.int .i64 cd)
  exact⟨.tuple #[.agg az,.int .i64 cd],(by exact res_row_cell Tryz.results196 _ _ w.heap.size (w.heap.size+1) 259 _ (0,0) _ _ rfl rfl ((Below.heap_setCell _ _ _ _ (Nat.succ_ne_self _).symm).trans Z3.out) Tryz.underlying259 rfl (by kernel_rfl) (load_code _ _ _ (R3.out.set_ 0 _))),b4,.inl ⟨hz,rfl⟩⟩
theorem arrAsk {gv:Nat}{h:HD}{A:Option Addr}{n c:Nat}{l:List Int}(a:Nat)(w:World)(v:ViewAt w gv h A n c l)(hcm:c≤maxLen):
 Calls Tryz.prog 158 #[.pointer (some ⟨gv,0,none⟩),.int .u64 (a:Int)] w fun e w'=>Below w.heap.size w w'∧AskA w.heap.size l a (arcode h l n a) e w':=by
 have b1:=yH ((Below.refl w.heap.size w).alloc (yR _) (.cells #[.pointer (some ⟨gv,0,none⟩)] 51))
 have b2:=yH (b1.out.alloc b1.out.size (.cells #[.int .u64 (a:Int)] 27))
 have b3:=yH (b2.out.alloc b2.out.size (.cells az 259))
 have v3:=v.below b3.out
 have S1:(w.alloc (.cells #[.pointer (some ⟨gv,0,none⟩)] 51)).heap.size=w.heap.size+1:=by simp only[World.alloc,Array.size_push]
 have S2:((w.alloc (.cells #[.pointer (some ⟨gv,0,none⟩)] 51)).alloc (.cells #[.int .u64 (a:Int)] 27)).heap.size=w.heap.size+1+1:=by simp only[World.alloc,Array.size_push]
 have S3:(((w.alloc (.cells #[.pointer (some ⟨gv,0,none⟩)] 51)).alloc (.cells #[.int .u64 (a:Int)] 27)).alloc (.cells az 259)).heap.size=w.heap.size+1+1+1:=by simp only[World.alloc,Array.size_push]
 have K1:=((Blk.new w [.pointer (some ⟨gv,0,none⟩)] 51).alloc (.cells #[.int .u64 (a:Int)] 27)).alloc (.cells az 259)
 have K2:=(Blk.new_at (w.alloc (.cells #[.pointer (some ⟨gv,0,none⟩)] 51)) [.int .u64 (a:Int)] 27 _ S1).alloc (.cells az 259)
 have HV:=yH (asked_any a w.heap.size (w.heap.size+1) _ v3 hcm K1 K2)
 have Z3:=yH (show(((w.alloc (.cells #[.pointer (some ⟨gv,0,none⟩)] 51)).alloc (.cells #[.int .u64 (a:Int)] 27)).alloc (.cells az 259)).heap[w.heap.size+1+1]? =some (.cells az 259 (0,0))from S2▸heap_alloc_new _ (.cells az 259))
 have hfn: ∀(fn:Fn) (first cap:Array Value) (w:World),(Instr.makeFunc fn first cap).run Tryz.prog w= .ok (.func fn first cap) w:=fun _ _ _ _=>rfl
 unfold AskA at HV⊢
 generalize arX l a=x0 at*
 generalize arcode h l n a=cd at*
 generalize arM l a=mm at*
 generalize arF (bodyL l a)=ff at*
 clear v v3 K1 K2
 by_cases hz:cd=0
 ·subst hz
  go_enter Tryz.func158,Tryz.ntmps158
  go_wp2_with(first
   |(go_at_call 196;(refine HV.out.mono ?_);rintro e w4 ⟨hb4,⟨hne,_⟩|⟨_,A2,c2',rfl,hy2,hw2⟩⟩;(exact absurd rfl hne);have B4:=yH (b3.out.trans (hb4.mono b3.out.size));have HY4:=yH hy2;have HW4:=yH (show NewIn (w.heap.size+1+1+1) A2 from S3▸hw2);have Z4:=yH ((hb4.block _ (by rw[S3];omega)).trans Z3.out);clear hb4 hy2 hw2)
   |((with_reducible apply at_store (.tmp 4) (.tmp 8));refine wpList_store_row rfl 259 (.tmp 4) (.tmp 8) rfl (w.heap.size+1+1) #[.int .u64 x0,.slice A2 mm c2'] rfl rfl 259 az Z4.out (by kernel_rfl) rfl (by simp[Value.oneCell']) ?_)
   |fail)
  refine bodyPost_ret (v:= .tuple #[arrV x0 A2 mm c2',.int .i64 0]) (by exact res_rowG Tryz.results158 _ _ (w.heap.size+1+1) 259 _ (0,0) _ _ rfl rfl (setRow_heap _ (w.heap.size+1+1) _ _ _ (0,0) Z4.out) Tryz.underlying259 rfl (by kernel_rfl)) rfl ?_
  have b5:=below_setRow (B:=w.heap.size) (g:=w.heap.size+1+1) B4.out (by omega) #[.int .u64 x0,.slice A2 mm c2']
  exact⟨b5,.inr ⟨trivial,A2,c2',rfl,InInts.setRow HY4.out (new_ne HW4.out (by omega)) _,new_mono HW4.out (by omega)⟩⟩
 ·go_enter Tryz.func158,Tryz.ntmps158
  go_wp2_with(first
   |(go_at_call 196;(refine HV.out.mono ?_);rintro e w4 ⟨hb4,⟨_,rfl⟩|⟨he,_⟩⟩;rotate_left;(exact absurd he hz);have B4:=yH (b3.out.trans (hb4.mono b3.out.size));have Z4:=yH ((hb4.block _ (by rw[S3];omega)).trans Z3.out);clear hb4)
   |((with_reducible apply at_store (.tmp 4) (.tmp 8));refine wpList_store_row rfl 259 (.tmp 4) (.tmp 8) rfl (w.heap.size+1+1) az rfl rfl 259 az Z4.out (by kernel_rfl) rfl (by simp[Value.oneCell']) ?_)
   |fail)
  refine bodyPost_ret (v:= .tuple #[.agg az,.int .i64 cd]) (by exact res_rowG Tryz.results158 _ _ (w.heap.size+1+1) 259 _ (0,0) _ _ rfl rfl (setRow_heap _ (w.heap.size+1+1) _ _ _ (0,0) Z4.out) Tryz.underlying259 rfl (by kernel_rfl)) rfl ?_
  have b5:=below_setRow (B:=w.heap.size) (g:=w.heap.size+1+1) B4.out (by omega) az
  exact⟨b5,.inl ⟨hz,rfl⟩⟩
end Rg
namespace Rh
open Blk8 Own8 OwnE Ga Gb Ok7 Rc
open Kf Ye Yg Yh
open Re (res_row_cell load_code)
attribute [local irreducible] wpList Code.wp
theorem gote_no (cs:Array Value)(cd:Int)(h0:cd≠0)(w:World):Calls Tryz.prog 238 #[.agg cs,.int .i64 cd] w fun e w'=>e= .panicked [haltE cd]∧Below w.heap.size w w':=by
 have HN:=yH (need_no cd)
 have d0:(cd==0)=false:=by simpa using h0
 have b2:=yH (((Below.refl w.heap.size w).alloc (yR _) (.cells cs 256)).alloc (by simp) (zC 256))
 go_enter Tryz.func238,Tryz.ntmps238
 go_wp2_with(first
  |(go_at_call 222;(refine(HN.out _).mono ?_);rintro e w1 ⟨rfl,rfl⟩)
  |fail)
 exact⟨rfl,rfl,b2.out⟩
theorem gote_yes (cs:Array Value)(hs:cs.size=21)(h1:cs.all (·.oneCell')=true)(w:World):Calls Tryz.prog 238 #[.agg cs,.int .i64 0] w fun e' w'=>e'= .returned (.agg cs)∧Below w.heap.size w w':=by
 have HN:=yH (need_yes 0)
 have hinfo:(Tryz.prog.info? 256).map (·.size)=some cs.size:=by rw[entInfo,hs]
 have S1:(w.alloc (.cells cs 256)).heap.size=w.heap.size+1:=by simp only[World.alloc,Array.size_push]
 have Za:=yH (show((w.alloc (.cells cs 256)).alloc (zC 256)).heap[w.heap.size]? =some (.cells cs 256 (0,0))from(Below.heap_alloc _ _ w.heap.size (by rw[S1];omega)).trans (heap_alloc_new w (.cells cs 256)))
 have Zb:=yH (show((w.alloc (.cells cs 256)).alloc (zC 256)).heap[w.heap.size+1]? =some (.cells zL.toArray 256 (0,0))from heap_alloc2_new w _ _)
 have b2:=yH (((Below.refl w.heap.size w).alloc (yR _) (.cells cs 256)).alloc (by simp) (zC 256))
 have HI:=yH hinfo
 have H1:=yH h1
 have HS:=yH (show zL.toArray.size=cs.size from hs.symm)
 clear hinfo h1 hs
 go_enter Tryz.func238,Tryz.ntmps238
 go_wp2_with(first
  |(go_at_call 222;(refine(HN.out _).mono ?_);rintro e w1 ⟨rfl,rfl⟩)
  |(refine wpList_load_row rfl 256 (.tmp 2) rfl w.heap.size rfl 256 cs (0,0) _ Za.out Tryz.underlying256 rfl HI.out ?_)
  |((with_reducible apply at_store (.tmp 4) (.tmp 9));refine wpList_store_row rfl 256 (.tmp 4) (.tmp 9) rfl (w.heap.size+1) cs rfl rfl 256 zL.toArray Zb.out HI.out HS.out H1.out ?_)
  |fail)
 refine bodyPost_ret (v:= .agg cs) (by exact results_cell_row Tryz.results238 _ _ (w.heap.size+1) 256 _ (0,0) _ rfl (setRow_heap _ (w.heap.size+1) _ _ _ (0,0) Zb.out) Tryz.underlying256 rfl HI.out) rfl ?_
 exact⟨rfl,below_setRow b2.out (by omega) cs⟩
end Rh
end Go.Proofs.YtiddkgcafpaekaaGreat
