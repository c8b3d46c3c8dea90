/-
  Texts beneath.
-/
import Derived.Test.YteaikbodkgjkdaaGreatQl31
set_option linter.unusedVariables false
set_option linter.unusedSimpArgs false
set_option maxRecDepth 100000
set_option maxHeartbeats 4000000
open Go.ChangeShapes Go.WideShapes Go.ChangeAt Go.RowKit
namespace Go.Proofs.YteaikbodkgjkdaaGreat
namespace Rf
open Re (aAw aAI)
attribute [local irreducible] wpList Code.wp
end Rf
namespace Rg
open Bytes8 Blk8 Own8 OwnE Rows2 Ob Ga Gb Gi Ok7 Rc Rd
open Kf Yp Yd Ye Yg Yh
open Re (aAw aAI)
theorem caught_idle (a:Nat)(w:World):CallsD Tryz.prog 209 #[.pointer (some ⟨a,0,none⟩)] .returning w fun e u' w'=>e= .returned (.tuple #[])∧u'= .returning∧w'=w:=by
 refine callsD_of_wpS Tryz.func209 rfl fun c₀ cs hu=>?_
 apply wpS_seq
 apply wpS_region
 simp[wpOpsS,go_sem,recoverD,hu,Tryz.ntmps209,Exit.thenS]
 refine wpS_of_wp ?_
 go_wp2
 cases c₀
 simp_all[bodyPostS,results,Tryz.results209]
theorem caught_halt (b:Nat)(c y:Int)(a:List PanicEntry)(w:World)(h:Blk w b [.int .i64 y] 3):CallsD Tryz.prog 209 #[.pointer (some ⟨b,0,none⟩)] (.panicking ({v:= .iface 296 (.int .i64 c),recovered:=false}::a)) w fun e u' w'=>e= .returned (.tuple #[])∧u'= .panicking ({v:= .iface 296 (.int .i64 c),recovered:=true}::a)∧w'=w.setCell ⟨b,0,none⟩ (.int .i64 c):=by
 have f:=h.cell (i:=0) rfl
 have g:=h.frozen 0
 have d: ∀w:World,(Instr.typeAssert (.iface 296 (.int .i64 c)) 20 296 true).run Tryz.prog w= .ok (.tuple #[.int .i64 c,.bool true]) w:=fun _=>by kernel_rfl
 refine callsD_of_wpS Tryz.func209 rfl fun c₀ cs hu=>?_
 apply wpS_seq
 apply wpS_region
 simp[wpOpsS,go_sem,recoverD,hu,Tryz.ntmps209,Exit.thenS]
 refine wpS_of_wp ?_
 go_wp2
 cases c₀
 simp_all[bodyPostS,results,Tryz.results209]
abbrev az:Array Value:= #[.int .u64 0,.slice none 0 0]
attribute [local irreducible] wpList Code.wp
theorem got_no (a:Int)(A:Option Addr)(n k:Nat)(cd:Int)(c:cd≠0)(w:World):Calls Tryz.prog 186 #[arrV a A n k,.int .i64 cd] w fun e w'=>e= .panicked [haltE cd]∧Below w.heap.size w w':=by
 have b:=yH (aBF cd)
 have d:(cd==0)=false:=by simpa using c
 have b2:=yH (((yB w.heap.size w).alloc (yR _) (.cells #[.int .u64 a,.slice A n k] 270)).alloc (by simp) (.cells az 270))
 go_enter Tryz.func186,Tryz.ntmps186
 go_wp2_with(first
  |(go_at_call 178;(refine(b.out _).mono ?_);rintro e w1 ⟨rfl,rfl⟩)
  |fail)
 exact⟨rfl,rfl,b2.out⟩
theorem got_yes (a:Int)(A:Option Addr)(n k:Nat)(w:World):Calls Tryz.prog 186 #[arrV a A n k,.int .i64 0] w fun e' w'=>e'= .returned (arrV a A n k)∧Below w.heap.size w w':=by
 have b:=yH (aA4 0)
 go_enter Tryz.func186,Tryz.ntmps186
 go_wp2_with(first
  |(go_at_call 178;(refine(b.out _).mono ?_);rintro e w1 ⟨rfl,rfl⟩)
  |fail)
 refine bodyPost_ret (v:=arrV a A n k) (by exact results_cell_row Tryz.results186 _ _ (w.heap.size+1) 270 _ (0,0) _ rfl (heap_alloc2_new w _ _) Tryz.underlying270 rfl (by kernel_rfl)) rfl ?_
 exact⟨rfl,((yB w.heap.size w).alloc (yR _) _).alloc (by simp) _⟩
def arcode (h:HD)(l:List Int)(n a:Nat):Int:=if h.N 0≤(a:Int)∧a<n then ecode l a 6 8 8 else 2
def ReadA (B:Nat)(l:List Int)(a:Nat)(cd:Int)(e:Ending)(w':World):Prop:=
 (cd≠0∧e= .panicked [haltE cd])∨(cd=0∧ ∃A' c',e= .returned (arrV (arX l a) A' (arM l a) c')∧InInts .u64 w' A' (arM l a) (arF (bodyL l a))∧NewIn B A')
theorem aFG {k:IntKind}{w:World}{a:Option Addr}{n:Nat}{f:Nat→Int}(o:InInts k w a n f){g:Nat}(m: ∀b c,a=some ⟨b,c,none⟩→b≠g)(i:Nat)(v:Value):InInts k (w.setCell ⟨g,i,none⟩ v) a n f:=fun j hx=>by
 obtain⟨b,c,e,p,d,l⟩:=o j hx
 exact⟨b,c,e,by simpa using p,(World.cell?_of_block (Below.heap_setCell w ⟨g,i,none⟩ v b (m b c e))).trans d,l⟩
theorem new_ne {B:Nat}{A:Option Addr}(h:NewIn B A){g:Nat}(a:g<B): ∀b off,A=some ⟨b,off,none⟩→b≠g:=fun b off e=>Nat.ne_of_gt (yL a (h b off e))
theorem new_mono {B C:Nat}{A:Option Addr}(h:NewIn B A)(a:C≤B):NewIn C A:=fun b off e=>Nat.le_trans a (h b off e)
theorem aO7 {y:Nat}{h:HD}{A:Option Addr}{n c:Nat}{l:List Int}(a:Nat)(D L:Nat)(w:World)(v:ViewAt w y h A n c l)(X:c≤maxLen)(V:Blk w D [.pointer (some ⟨y,0,none⟩)] 88)(R:Blk w L [.int .u64 (a:Int)] 59):
 Calls Tryz.prog 185 #[.pointer (some ⟨D,0,none⟩),.pointer (some ⟨L,0,none⟩)] w fun e w'=>Below w.heap.size w w'∧ReadA w.heap.size l a (arcode h l n a) e w':=by
 have b1:=yH ((yB w.heap.size w).alloc (yR _) (.cells az 270))
 have j:=v.below b1.out
 have k:ViewAt (w.alloc (.cells az 270)).drew y h A n c l:=⟨j.blk,j.by_,j.len,j.cap,j.big,j.ok⟩
 have m:=yH b1.out.drew
 have H:=yH (V.alloc (.cells az 270))
 have E:=yH (R.alloc (.cells az 270))
 have s2:=yH H.out.lt
 have s3:=yH E.out.lt
 have Z1:=yH (heap_alloc_new w (.cells az 270))
 have I:=yH (show w.heap.size<(w.alloc (.cells az 270)).heap.size by simp)
 have l2:=yH (Nat.ne_of_lt V.lt)
 have l3:=yH (Nat.ne_of_lt R.lt)
 by_cases s:h.N 0≤(a:Int)∧a<n
 ·have M:=yH (aFF (a:Int) _ k s.1 (by omega))
  have HR:=yH (aHe A l n c a _ k.by_ j.len j.big j.cap X (by have:=j.big;omega))
  unfold ArrTold2 at HR
  unfold ReadA arcode
  rw[if_pos s]
  generalize arX l a=g at*
  generalize ecode l a 6 8 8=cd at*
  generalize arM l a=t at*
  generalize arF (bodyL l a)=ff at*
  clear v j k s V R
  go_enter Tryz.func185,Tryz.ntmps185
  go_upto_region 1 with fail
  generalize w.alloc (.cells az 270)=w1 at*
  have z:=H.out.cell (i:=0) rfl
  have B:=E.out.cell (i:=0) rfl
  by_cases hz:cd=0
  ·subst hz
   go_region_held3 (fun W=>W.cell? ⟨D,0,none⟩=some (.pointer (some ⟨y,0,none⟩))∧W.cell? ⟨L,0,none⟩=some (.int .u64 (a:Int))) (first|(with_reducible exact⟨z,B⟩)|(with_reducible exact⟨u2,u3⟩)|(with_reducible exact⟨p2,p3⟩)|(with_reducible exact⟨q2,q3⟩)|go_keep) (first
    |(go_at_call 188;(refine M.out.mono ?_);rintro e wf ⟨rfl,rfl⟩)
    |(go_at_call 187;(refine HR.out.mono ?_);rintro e w2 ⟨o,d,rfl,b,q,r⟩;have J:=yH (m.out.trans (b.mono m.out.size));have ab:=yH ((b.block _ I.out).trans Z1.out);have Z:=yH q;have u:=yH (show NewIn w1.heap.size o from r);have G:=yH (H.out.drew.below b s2.out);have F:=yH (E.out.drew.below b s3.out);have u2:=G.out.cell (i:=0) rfl;have u3:=F.out.cell (i:=0) rfl;have Y:=yH b.size;clear b q r)
    |(go_at_call 186;(refine(got_yes g o t d w2).mono ?_);rintro e w3 ⟨rfl,f⟩;have B3:=yH (J.out.trans (f.mono J.out.size));have aa:=yH (Z.out.below f);have P2:=yH (G.out.below f G.out.lt);have P3:=yH (F.out.below f F.out.lt);have p2:=P2.out.cell (i:=0) rfl;have p3:=P3.out.cell (i:=0) rfl;have Z3:=yH ((f.block _ (yL I.out Y.out)).trans ab.out);have C:=yH (show Blk w3 w.heap.size [.int .u64 0,.slice none 0 0] 270 from Z3.out);have e0:=C.out.cell (i:=0) rfl;have z0:=C.out.frozen 0;have e1:=C.out.cell (i:=1) rfl;have z1:=C.out.frozen 1;have q2:=((P2.out.far (p:=⟨w.heap.size,0,none⟩) l2.out (.int .u64 g)).far (p:=⟨w.heap.size,1,none⟩) l2.out (.slice o t d)).cell (i:=0) rfl;have q3:=((P3.out.far (p:=⟨w.heap.size,0,none⟩) l3.out (.int .u64 g)).far (p:=⟨w.heap.size,1,none⟩) l3.out (.slice o t d)).cell (i:=0) rfl;clear f)
    |fail)
   have F4:=(C.out.set_ 0 (.int .u64 g)).set_ 1 (.slice o t d)
   have Y4:=aFG (aFG aa.out (new_ne u.out I.out) 0 (.int .u64 g)) (new_ne u.out I.out) 1 (.slice o t d)
   have b4:=(B3.out.setCell (p:=⟨w.heap.size,0,none⟩) (yR _) (.int .u64 g)).setCell (p:=⟨w.heap.size,1,none⟩) (yR _) (.slice o t d)
   have N4:=new_mono u.out (Nat.le_of_lt I.out)
   go_wp2_with fail
   refine bodyPost_ret (v:=arrV g o t d) (by exact results_cell_row Tryz.results185 _ _ w.heap.size 270 _ (0,0) _ rfl F4 Tryz.underlying270 rfl (by kernel_rfl)) rfl ?_
   exact⟨b4,o,⟨d,rfl⟩,Y4,N4⟩
  ·refine wp_region_held_drew (S:=fun W:World=>W.cell? ⟨D,0,none⟩=some (.pointer (some ⟨y,0,none⟩))∧W.cell? ⟨L,0,none⟩=some (.int .u64 (a:Int))) (by kernel_rfl) (by exact⟨z,B⟩) (fun hHeld=>?_)
   refine tq 0 3 rfl (fun W hSw=>by obtain⟨g,x⟩:=hSw;go_simp;try (with_reducible rfl)) ?_
   try simp only[Act.put,sA,sZ,sS]
   refine tq 1 4 rfl (fun W hSw=>by obtain⟨g,x⟩:=hSw;go_simp;try (with_reducible rfl)) ?_
   try simp only[Act.put,sA,sZ,sS]
   refine tq 3 6 rfl (fun W hSw=>by obtain⟨g,x⟩:=hSw;go_simp;try (with_reducible rfl)) ?_
   try simp only[Act.put,sA,sZ,sS]
   refine rd 2 rfl (fun K hK=>?_)
   go_simp
   ((refine M.out.mono ?_);rintro e wf ⟨rfl,rfl⟩)
   try go_wp2_with fail
   refine hK.out _ _ (by exact⟨z,B⟩) (fun hHeld=>?_)
   clear hK K
   try simp only[Act.put,sA,sZ,sS]
   refine rd 4 rfl (fun K hK=>?_)
   go_simp
   ((refine HR.out.mono ?_);rintro e w2 ⟨o,d,rfl,b,q,r⟩;have J:=yH (m.out.trans (b.mono m.out.size));have G:=yH (H.out.drew.below b s2.out);have F:=yH (E.out.drew.below b s3.out);have u2:=G.out.cell (i:=0) rfl;have u3:=F.out.cell (i:=0) rfl;clear b q r)
   try go_wp2_with fail
   refine hK.out _ _ (by exact⟨u2,u3⟩) (fun hHeld=>?_)
   clear hK K
   try simp only[Act.put,sA,sZ,sS]
   refine tq 5 8 rfl (fun W hSw=>by obtain⟨g,x⟩:=hSw;go_simp;try (with_reducible rfl)) ?_
   try simp only[Act.put,sA,sZ,sS]
   refine tq 6 9 rfl (fun W hSw=>by obtain⟨g,x⟩:=hSw;go_simp;try (with_reducible rfl)) ?_
   try simp only[Act.put,sA,sZ,sS]
   refine rd 7 rfl (fun K hK=>?_)
   go_simp
   ((refine(got_no g o t d cd hz w2).mono ?_);rintro e w3 ⟨rfl,f⟩;have B3:=yH (J.out.trans (f.mono J.out.size));clear f;exact⟨rfl,B3.out,.inl ⟨hz,rfl⟩⟩)
 ·have M:=yH (aHE (a:Int) _ k (by omega))
  unfold ReadA arcode
  rw[if_neg s]
  generalize arX l a=g at*
  generalize arM l a=t at*
  generalize arF (bodyL l a)=ff at*
  clear v j k V R
  go_enter Tryz.func185,Tryz.ntmps185
  go_upto_region 1 with fail
  generalize w.alloc (.cells az 270)=w1 at*
  have z:=H.out.cell (i:=0) rfl
  have B:=E.out.cell (i:=0) rfl
  refine wp_region_held_drew (S:=fun W:World=>W.cell? ⟨D,0,none⟩=some (.pointer (some ⟨y,0,none⟩))∧W.cell? ⟨L,0,none⟩=some (.int .u64 (a:Int))) (by kernel_rfl) (by exact⟨z,B⟩) (fun hHeld=>?_)
  refine tq 0 3 rfl (fun W hSw=>by obtain⟨g,x⟩:=hSw;go_simp;try (with_reducible rfl)) ?_
  try simp only[Act.put,sA,sZ,sS]
  refine tq 1 4 rfl (fun W hSw=>by obtain⟨g,x⟩:=hSw;go_simp;try (with_reducible rfl)) ?_
  try simp only[Act.put,sA,sZ,sS]
  refine tq 3 6 rfl (fun W hSw=>by obtain⟨g,x⟩:=hSw;go_simp;try (with_reducible rfl)) ?_
  try simp only[Act.put,sA,sZ,sS]
  refine rd 2 rfl (fun K hK=>?_)
  go_simp
  ((refine M.out.mono ?_);rintro e wf ⟨rfl,rfl⟩;exact⟨rfl,m.out,.inl ⟨by decide,rfl⟩⟩)
def AskA (B:Nat)(l:List Int)(a:Nat)(cd:Int)(e:Ending)(w':World):Prop:=
 (cd≠0∧e= .returned (.tuple #[.agg az,.int .i64 cd]))∨(cd=0∧ ∃A' c',e= .returned (.tuple #[arrV (arX l a) A' (arM l a) c',.int .i64 0])∧InInts .u64 w' A' (arM l a) (arF (bodyL l a))∧NewIn B A')
theorem asked_any {R:Nat}{h:HD}{A:Option Addr}{n c:Nat}{l:List Int}(a:Nat)(z L:Nat)(w:World)(v:ViewAt w R h A n c l)(x:c≤maxLen)(H:Blk w z [.pointer (some ⟨R,0,none⟩)] 88)(y:Blk w L [.int .u64 (a:Int)] 59):
 Calls Tryz.prog 184 #[.func (.func 185) #[] #[.pointer (some ⟨z,0,none⟩),.pointer (some ⟨L,0,none⟩)]] w fun e w'=>Below w.heap.size w w'∧AskA w.heap.size l a (arcode h l n a) e w':=by
 have M:=yH ((yB w.heap.size w).alloc (yR _) (.cells az 270))
 have b2:=yH (M.out.alloc M.out.size (.cells #[.int .i64 0] 3))
 have X:=v.below b2.out
 have J:=yH (aO7 a z L _ X x (H.below b2.out H.lt) (y.below b2.out y.lt))
 have Y:(w.alloc (.cells az 270)).heap.size=w.heap.size+1:=by simp only[World.alloc,Array.size_push]
 have o:((w.alloc (.cells az 270)).alloc (.cells #[.int .i64 0] 3)).heap.size=w.heap.size+1+1:=by simp only[World.alloc,Array.size_push]
 have N:=yH ((Below.heap_alloc (w.alloc (.cells az 270)) (.cells #[.int .i64 0] 3) w.heap.size (by rw[Y];omega)).trans (heap_alloc_new w (.cells az 270)))
 have V:=yH (Blk.new_at (w.alloc (.cells az 270)) [.int .i64 0] 3 _ Y)
 have aa: ∀(fn:Fn) (first cap:Array Value) (w:World),(Instr.makeFunc fn first cap).run Tryz.prog w= .ok (.func fn first cap) w:=fun _ _ _ _=>rfl
 unfold ReadA at J
 unfold AskA
 generalize arX l a=q at*
 generalize arcode h l n a=cd at*
 generalize arM l a=s at*
 generalize arF (bodyL l a)=ff at*
 clear v X H y
 by_cases C:cd=0
 ·subst C
  go_enter_defers Tryz.func184,Tryz.ntmps184
  go_wp2_with(first
   |(go_at_call 185;(refine J.out.mono ?_);rintro e w3 ⟨b,⟨u,_⟩|⟨_,j,d,rfl,k,m⟩⟩;(exact absurd rfl u);have E:=yH (b2.out.trans (b.mono b2.out.size));have D:=yH k;have g:=yH (show NewIn (w.heap.size+1+1) j from o▸m);have t:=yH ((b.block _ (by rw[o];omega)).trans N.out);have r:=yH (V.out.below b (by rw[o];omega));clear b k m)
   |((with_reducible apply aAa (.tmp 2) (.tmp 6));refine wpList_store_row rfl 270 (.tmp 2) (.tmp 6) rfl w.heap.size #[.int .u64 q,.slice j s d] rfl rfl 270 az t.out (by kernel_rfl) rfl (by simp[Value.oneCell']) ?_;have I:=yH (show Blk (w3.setRow w.heap.size #[.int .u64 q,.slice j s d]) (w.heap.size+1) [.int .i64 0] 3 from(setRow_other w3 w.heap.size (w.heap.size+1) _ (Nat.succ_ne_self _)).trans r.out);have c4:=I.out.cell (i:=0) rfl;have z4:=I.out.frozen 0)
   |fail)
  refine leaves_cons (f:=209) (args:= #[.pointer (some ⟨w.heap.size+1,0,none⟩)]) (by simp) (by simp[go_sem]) ?_
  refine(caught_idle _ _).mono ?_
  rintro e Z G ⟨rfl,rfl,rfl⟩
  have F:=(below_setRow (B:=w.heap.size) E.out (yR _) #[.int .u64 q,.slice j s d]).setCell (p:=⟨w.heap.size+1,0,none⟩) (Nat.le_succ _) (.int .i64 0)
  exact⟨.tuple #[arrV q j s d,.int .i64 0],(by exact aAw Tryz.results184 _ _ w.heap.size (w.heap.size+1) 270 _ (0,0) _ _ rfl rfl ((Below.heap_setCell _ _ _ _ (Nat.succ_ne_self _).symm).trans (setRow_heap _ w.heap.size _ _ _ (0,0) t.out)) Tryz.underlying270 rfl (by kernel_rfl) (aAI _ _ _ (I.out.set_ 0 _))),F,.inr ⟨trivial,j,d,rfl,aFG (InInts.setRow D.out (new_ne g.out (by omega)) _) (new_ne g.out (by omega)) _ _,new_mono g.out (by omega)⟩⟩
 ·go_enter_defers Tryz.func184,Tryz.ntmps184
  go_wp2_with(first
   |(go_at_call 185;(refine J.out.mono ?_);rintro e w3 ⟨b,⟨_,rfl⟩|⟨he,_⟩⟩;rotate_left;(exact absurd he C);have E:=yH (b2.out.trans (b.mono b2.out.size));have t:=yH ((b.block _ (by rw[o];omega)).trans N.out);have r:=yH (V.out.below b (by rw[o];omega));clear b)
   |fail)
  refine leaves_cons (f:=209) (args:= #[.pointer (some ⟨w.heap.size+1,0,none⟩)]) (by simp) (by simp[go_sem]) ?_
  refine(caught_halt _ cd 0 [] _ r.out).mono ?_
  rintro e Z G ⟨rfl,rfl,rfl⟩
  have F:=E.out.setCell (p:=⟨w.heap.size+1,0,none⟩) (Nat.le_succ _) (.int .i64 cd)
  exact⟨.tuple #[.agg az,.int .i64 cd],(by exact aAw Tryz.results184 _ _ w.heap.size (w.heap.size+1) 270 _ (0,0) _ _ rfl rfl ((Below.heap_setCell _ _ _ _ (Nat.succ_ne_self _).symm).trans t.out) Tryz.underlying270 rfl (by kernel_rfl) (aAI _ _ _ (r.out.set_ 0 _))),F,.inl ⟨C,rfl⟩⟩
theorem aOi {d:Nat}{h:HD}{A:Option Addr}{n c:Nat}{l:List Int}(a:Nat)(w:World)(v:ViewAt w d h A n c l)(t:c≤maxLen):
 Calls Tryz.prog 156 #[.pointer (some ⟨d,0,none⟩),.int .u64 (a:Int)] w fun e w'=>Below w.heap.size w w'∧AskA w.heap.size l a (arcode h l n a) e w':=by
 have E:=yH ((yB w.heap.size w).alloc (yR _) (.cells #[.pointer (some ⟨d,0,none⟩)] 88))
 have b2:=yH (E.out.alloc E.out.size (.cells #[.int .u64 (a:Int)] 59))
 have i:=yH (b2.out.alloc b2.out.size (.cells az 270))
 have F:=v.below i.out
 have M:(w.alloc (.cells #[.pointer (some ⟨d,0,none⟩)] 88)).heap.size=w.heap.size+1:=by simp only[World.alloc,Array.size_push]
 have J:((w.alloc (.cells #[.pointer (some ⟨d,0,none⟩)] 88)).alloc (.cells #[.int .u64 (a:Int)] 59)).heap.size=w.heap.size+1+1:=by simp only[World.alloc,Array.size_push]
 have z:(((w.alloc (.cells #[.pointer (some ⟨d,0,none⟩)] 88)).alloc (.cells #[.int .u64 (a:Int)] 59)).alloc (.cells az 270)).heap.size=w.heap.size+1+1+1:=by simp only[World.alloc,Array.size_push]
 have H:=((Blk.new w [.pointer (some ⟨d,0,none⟩)] 88).alloc (.cells #[.int .u64 (a:Int)] 59)).alloc (.cells az 270)
 have G:=(Blk.new_at (w.alloc (.cells #[.pointer (some ⟨d,0,none⟩)] 88)) [.int .u64 (a:Int)] 59 _ M).alloc (.cells az 270)
 have C:=yH (asked_any a w.heap.size (w.heap.size+1) _ F t H G)
 have I:=yH (show(((w.alloc (.cells #[.pointer (some ⟨d,0,none⟩)] 88)).alloc (.cells #[.int .u64 (a:Int)] 59)).alloc (.cells az 270)).heap[w.heap.size+1+1]? =some (.cells az 270 (0,0))from J▸heap_alloc_new _ (.cells az 270))
 have L: ∀(fn:Fn) (first cap:Array Value) (w:World),(Instr.makeFunc fn first cap).run Tryz.prog w= .ok (.func fn first cap) w:=fun _ _ _ _=>rfl
 unfold AskA at C⊢
 generalize arX l a=q at*
 generalize arcode h l n a=cd at*
 generalize arM l a=y at*
 generalize arF (bodyL l a)=R at*
 clear v F H G
 by_cases u:cd=0
 ·subst u
  go_enter Tryz.func156,Tryz.ntmps156
  go_wp2_with(first
   |(go_at_call 184;(refine C.out.mono ?_);rintro e w4 ⟨b,⟨s,_⟩|⟨_,p,f,rfl,j,k⟩⟩;(exact absurd rfl s);have D:=yH (i.out.trans (b.mono i.out.size));have x:=yH j;have o:=yH (show NewIn (w.heap.size+1+1+1) p from z▸k);have m:=yH ((b.block _ (by rw[z];omega)).trans I.out);clear b j k)
   |((with_reducible apply aAa (.tmp 4) (.tmp 8));refine wpList_store_row rfl 270 (.tmp 4) (.tmp 8) rfl (w.heap.size+1+1) #[.int .u64 q,.slice p y f] rfl rfl 270 az m.out (by kernel_rfl) rfl (by simp[Value.oneCell']) ?_)
   |fail)
  refine bodyPost_ret (v:= .tuple #[arrV q p y f,.int .i64 0]) (by exact aAq Tryz.results156 _ _ (w.heap.size+1+1) 270 _ (0,0) _ _ rfl rfl (setRow_heap _ (w.heap.size+1+1) _ _ _ (0,0) m.out) Tryz.underlying270 rfl (by kernel_rfl)) rfl ?_
  have r:=below_setRow (B:=w.heap.size) (g:=w.heap.size+1+1) D.out (by omega) #[.int .u64 q,.slice p y f]
  exact⟨r,.inr ⟨trivial,p,f,rfl,InInts.setRow x.out (new_ne o.out (by omega)) _,new_mono o.out (by omega)⟩⟩
 ·go_enter Tryz.func156,Tryz.ntmps156
  go_wp2_with(first
   |(go_at_call 184;(refine C.out.mono ?_);rintro e w4 ⟨b,⟨_,rfl⟩|⟨N,_⟩⟩;rotate_left;(exact absurd N u);have D:=yH (i.out.trans (b.mono i.out.size));have m:=yH ((b.block _ (by rw[z];omega)).trans I.out);clear b)
   |((with_reducible apply aAa (.tmp 4) (.tmp 8));refine wpList_store_row rfl 270 (.tmp 4) (.tmp 8) rfl (w.heap.size+1+1) az rfl rfl 270 az m.out (by kernel_rfl) rfl (by simp[Value.oneCell']) ?_)
   |fail)
  refine bodyPost_ret (v:= .tuple #[.agg az,.int .i64 cd]) (by exact aAq Tryz.results156 _ _ (w.heap.size+1+1) 270 _ (0,0) _ _ rfl rfl (setRow_heap _ (w.heap.size+1+1) _ _ _ (0,0) m.out) Tryz.underlying270 rfl (by kernel_rfl)) rfl ?_
  have r:=below_setRow (B:=w.heap.size) (g:=w.heap.size+1+1) D.out (by omega) az
  exact⟨r,.inl ⟨u,rfl⟩⟩
end Rg
namespace Rh
open Blk8 Own8 OwnE Ga Gb Ok7 Rc
open Kf Ye Yg Yh
open Re (aAw aAI)
attribute [local irreducible] wpList Code.wp
theorem aO8 (a:Array Value)(cd:Int)(c:cd≠0)(w:World):Calls Tryz.prog 204 #[.agg a,.int .i64 cd] w fun e w'=>e= .panicked [haltE cd]∧Below w.heap.size w w':=by
 have b:=yH (aBF cd)
 have d:(cd==0)=false:=by simpa using c
 have b2:=yH (((yB w.heap.size w).alloc (yR _) (.cells a 299)).alloc (by simp) (zC 299))
 go_enter Tryz.func204,Tryz.ntmps204
 go_wp2_with(first
  |(go_at_call 178;(refine(b.out _).mono ?_);rintro e w1 ⟨rfl,rfl⟩)
  |fail)
 exact⟨rfl,rfl,b2.out⟩
theorem aNr (a:Array Value)(hs:a.size=21)(d:a.all (·.oneCell')=true)(w:World):Calls Tryz.prog 204 #[.agg a,.int .i64 0] w fun e' w'=>e'= .returned (.agg a)∧Below w.heap.size w w':=by
 have j:=yH (aA4 0)
 have b:(Tryz.prog.info? 299).map (·.size)=some a.size:=by rw[aA8,hs]
 have i:(w.alloc (.cells a 299)).heap.size=w.heap.size+1:=by simp only[World.alloc,Array.size_push]
 have k:=yH (show((w.alloc (.cells a 299)).alloc (zC 299)).heap[w.heap.size]? =some (.cells a 299 (0,0))from(Below.heap_alloc _ _ w.heap.size (by rw[i];omega)).trans (heap_alloc_new w (.cells a 299)))
 have f:=yH (show((w.alloc (.cells a 299)).alloc (zC 299)).heap[w.heap.size+1]? =some (.cells zL.toArray 299 (0,0))from heap_alloc2_new w _ _)
 have b2:=yH (((yB w.heap.size w).alloc (yR _) (.cells a 299)).alloc (by simp) (zC 299))
 have c:=yH b
 have g:=yH d
 have l:=yH (show zL.toArray.size=a.size from hs.symm)
 clear b d hs
 go_enter Tryz.func204,Tryz.ntmps204
 go_wp2_with(first
  |(go_at_call 178;(refine(j.out _).mono ?_);rintro e w1 ⟨rfl,rfl⟩)
  |(refine wpList_load_row rfl 299 (.tmp 2) rfl w.heap.size rfl 299 a (0,0) _ k.out Tryz.underlying299 rfl c.out ?_)
  |((with_reducible apply aAa (.tmp 4) (.tmp 9));refine wpList_store_row rfl 299 (.tmp 4) (.tmp 9) rfl (w.heap.size+1) a rfl rfl 299 zL.toArray f.out c.out l.out g.out ?_)
  |fail)
 refine bodyPost_ret (v:= .agg a) (by exact results_cell_row Tryz.results204 _ _ (w.heap.size+1) 299 _ (0,0) _ rfl (setRow_heap _ (w.heap.size+1) _ _ _ (0,0) f.out) Tryz.underlying299 rfl c.out) rfl ?_
 exact⟨rfl,below_setRow b2.out (by omega) a⟩
end Rh
end Go.Proofs.YteaikbodkgjkdaaGreat
