/-
  Texts beneath the proof.
-/
import Derived.Test.YtlelnfokffflnaaGreatQl31
set_option linter.unusedVariables false
set_option linter.unusedSimpArgs false
set_option maxRecDepth 100000
set_option maxHeartbeats 4000000
open Go.ChangeShapes Go.WideShapes Go.ChangeAt Go.RowKit
namespace Go.Proofs.YtlelnfokffflnaaGreat
namespace Rf
open Re (aAw aAI)
attribute [local irreducible] wpList Code.wp
end Rf
namespace Rg
open Bytes8 Blk8 Own8 OwnE Rows2 Ob Ga Gb Gi Ok7 Rc Rd
open Kf Yp Yd Ye Yg Yh
open Re (aAw aAI)
theorem caught_idle (a:Nat)(w:World):CallsD Tryz.prog 223 #[.pointer (some ⟨a,0,none⟩)] .returning w fun e u' w'=>e= .returned (.tuple #[])∧u'= .returning∧w'=w:=by
 refine callsD_of_wpS Tryz.func223 rfl fun c₀ cs hu=>?_
 apply wpS_seq
 apply wpS_region
 simp[wpOpsS,go_sem,recoverD,hu,Tryz.ntmps223,Exit.thenS]
 refine wpS_of_wp ?_
 go_wp2
 cases c₀
 simp_all[bodyPostS,results,Tryz.results223]
theorem caught_halt (b:Nat)(c y:Int)(a:List PanicEntry)(w:World)(h:Blk w b [.int .i64 y] 3):CallsD Tryz.prog 223 #[.pointer (some ⟨b,0,none⟩)] (.panicking ({v:= .iface 326 (.int .i64 c),recovered:=false}::a)) w fun e u' w'=>e= .returned (.tuple #[])∧u'= .panicking ({v:= .iface 326 (.int .i64 c),recovered:=true}::a)∧w'=w.setCell ⟨b,0,none⟩ (.int .i64 c):=by
 have g:=h.cell (i:=0) rfl
 have f:=h.frozen 0
 have d: ∀w:World,(Instr.typeAssert (.iface 326 (.int .i64 c)) 20 326 true).run Tryz.prog w= .ok (.tuple #[.int .i64 c,.bool true]) w:=fun _=>by kernel_rfl
 refine callsD_of_wpS Tryz.func223 rfl fun c₀ cs hu=>?_
 apply wpS_seq
 apply wpS_region
 simp[wpOpsS,go_sem,recoverD,hu,Tryz.ntmps223,Exit.thenS]
 refine wpS_of_wp ?_
 go_wp2
 cases c₀
 simp_all[bodyPostS,results,Tryz.results223]
abbrev az:Array Value:= #[.int .u64 0,.slice none 0 0]
attribute [local irreducible] wpList Code.wp
theorem got_no (a:Int)(A:Option Addr)(n k:Nat)(cd:Int)(b:cd≠0)(w:World):Calls Tryz.prog 180 #[arrV a A n k,.int .i64 cd] w fun e w'=>e= .panicked [haltE cd]∧Below w.heap.size w w':=by
 have c:=yH (aBF cd)
 have d:(cd==0)=false:=by simpa using b
 have b2:=yH (((Below.refl w.heap.size w).alloc (yR _) (.cells #[.int .u64 a,.slice A n k] 242)).alloc (by simp) (.cells az 242))
 go_enter Tryz.func180,Tryz.ntmps180
 go_wp2_with(first
  |(go_at_call 205;(refine(c.out _).mono ?_);rintro e w1 ⟨rfl,rfl⟩)
  |fail)
 exact⟨rfl,rfl,b2.out⟩
theorem got_yes (a:Int)(A:Option Addr)(n k:Nat)(w:World):Calls Tryz.prog 180 #[arrV a A n k,.int .i64 0] w fun e' w'=>e'= .returned (arrV a A n k)∧Below w.heap.size w w':=by
 have b:=yH (aA4 0)
 go_enter Tryz.func180,Tryz.ntmps180
 go_wp2_with(first
  |(go_at_call 205;(refine(b.out _).mono ?_);rintro e w1 ⟨rfl,rfl⟩)
  |fail)
 refine bodyPost_ret (v:=arrV a A n k) (by exact results_cell_row Tryz.results180 _ _ (w.heap.size+1) 242 _ (0,0) _ rfl (heap_alloc2_new w _ _) Tryz.underlying242 rfl (by kernel_rfl)) rfl ?_
 exact⟨rfl,((Below.refl w.heap.size w).alloc (yR _) _).alloc (by simp) _⟩
def arcode (h:HD)(l:List Int)(n a:Nat):Int:=if h.N 0≤(a:Int)∧a<n then ecode l a 6 8 8 else 2
def ReadA (B:Nat)(l:List Int)(a:Nat)(cd:Int)(e:Ending)(w':World):Prop:=
 (cd≠0∧e= .panicked [haltE cd])∨(cd=0∧ ∃A' c',e= .returned (arrV (arX l a) A' (arM l a) c')∧InInts .u64 w' A' (arM l a) (arF (bodyL l a))∧NewIn B A')
theorem aFG {k:IntKind}{w:World}{a:Option Addr}{n:Nat}{f:Nat→Int}(l:InInts k w a n f){g:Nat}(h: ∀b c,a=some ⟨b,c,none⟩→b≠g)(i:Nat)(v:Value):InInts k (w.setCell ⟨g,i,none⟩ v) a n f:=fun j hx=>by
 obtain⟨b,c,e,m,d,o⟩:=l j hx
 exact⟨b,c,e,by simpa using m,(World.cell?_of_block (Below.heap_setCell w ⟨g,i,none⟩ v b (h b c e))).trans d,o⟩
theorem new_ne {B:Nat}{A:Option Addr}(h:NewIn B A){g:Nat}(a:g<B): ∀b off,A=some ⟨b,off,none⟩→b≠g:=fun b off e=>Nat.ne_of_gt (yL a (h b off e))
theorem new_mono {B C:Nat}{A:Option Addr}(h:NewIn B A)(a:C≤B):NewIn C A:=fun b off e=>Nat.le_trans a (h b off e)
theorem aO7 {y:Nat}{h:HD}{A:Option Addr}{n c:Nat}{l:List Int}(a:Nat)(L B:Nat)(w:World)(v:ViewAt w y h A n c l)(ad:c≤maxLen)(M:Blk w L [.pointer (some ⟨y,0,none⟩)] 51)(R:Blk w B [.int .u64 (a:Int)] 27):
 Calls Tryz.prog 179 #[.pointer (some ⟨L,0,none⟩),.pointer (some ⟨B,0,none⟩)] w fun e w'=>Below w.heap.size w w'∧ReadA w.heap.size l a (arcode h l n a) e w':=by
 have b1:=yH ((Below.refl w.heap.size w).alloc (yR _) (.cells az 242))
 have j:=v.below b1.out
 have o:ViewAt (w.alloc (.cells az 242)).drew y h A n c l:=⟨j.blk,j.by_,j.len,j.cap,j.big,j.ok⟩
 have k:=yH b1.out.drew
 have D:=yH (M.alloc (.cells az 242))
 have C:=yH (R.alloc (.cells az 242))
 have s2:=yH D.out.lt
 have s3:=yH C.out.lt
 have Z1:=yH (heap_alloc_new w (.cells az 242))
 have G:=yH (show w.heap.size<(w.alloc (.cells az 242)).heap.size by simp)
 have l2:=yH (Nat.ne_of_lt M.lt)
 have l3:=yH (Nat.ne_of_lt R.lt)
 by_cases q:h.N 0≤(a:Int)∧a<n
 ·have V:=yH (aFF (a:Int) _ o q.1 (by omega))
  have X:=yH (aHh A l n c a _ o.by_ j.len j.big j.cap ad (by have:=j.big;omega))
  unfold ArrTold2 at X
  unfold ReadA arcode
  rw[if_pos q]
  generalize arX l a=g at*
  generalize ecode l a 6 8 8=cd at*
  generalize arM l a=t at*
  generalize arF (bodyL l a)=ff at*
  clear v j o q M R
  go_enter Tryz.func179,Tryz.ntmps179
  go_upto_region 1 with fail
  generalize w.alloc (.cells az 242)=w1 at*
  have E:=D.out.cell (i:=0) rfl
  have z:=C.out.cell (i:=0) rfl
  by_cases hz:cd=0
  ·subst hz
   go_region_held3 (fun W=>W.cell? ⟨L,0,none⟩=some (.pointer (some ⟨y,0,none⟩))∧W.cell? ⟨B,0,none⟩=some (.int .u64 (a:Int))) (first|(with_reducible exact⟨E,z⟩)|(with_reducible exact⟨u2,u3⟩)|(with_reducible exact⟨p2,p3⟩)|(with_reducible exact⟨q2,q3⟩)|go_keep) (first
    |(go_at_call 182;(refine V.out.mono ?_);rintro e wf ⟨rfl,rfl⟩)
    |(go_at_call 181;(refine X.out.mono ?_);rintro e w2 ⟨m,d,rfl,b,s,r⟩;have J:=yH (k.out.trans (b.mono k.out.size));have Y:=yH ((b.block _ G.out).trans Z1.out);have ac:=yH s;have u:=yH (show NewIn w1.heap.size m from r);have H:=yH (D.out.drew.below b s2.out);have F:=yH (C.out.drew.below b s3.out);have u2:=H.out.cell (i:=0) rfl;have u3:=F.out.cell (i:=0) rfl;have ab:=yH b.size;clear b s r)
    |(go_at_call 180;(refine(got_yes g m t d w2).mono ?_);rintro e w3 ⟨rfl,f⟩;have Z:=yH (J.out.trans (f.mono J.out.size));have aa:=yH (ac.out.below f);have P2:=yH (H.out.below f H.out.lt);have P3:=yH (F.out.below f F.out.lt);have p2:=P2.out.cell (i:=0) rfl;have p3:=P3.out.cell (i:=0) rfl;have Z3:=yH ((f.block _ (yL G.out ab.out)).trans Y.out);have I:=yH (show Blk w3 w.heap.size [.int .u64 0,.slice none 0 0] 242 from Z3.out);have e0:=I.out.cell (i:=0) rfl;have z0:=I.out.frozen 0;have e1:=I.out.cell (i:=1) rfl;have z1:=I.out.frozen 1;have q2:=((P2.out.far (p:=⟨w.heap.size,0,none⟩) l2.out (.int .u64 g)).far (p:=⟨w.heap.size,1,none⟩) l2.out (.slice m t d)).cell (i:=0) rfl;have q3:=((P3.out.far (p:=⟨w.heap.size,0,none⟩) l3.out (.int .u64 g)).far (p:=⟨w.heap.size,1,none⟩) l3.out (.slice m t d)).cell (i:=0) rfl;clear f)
    |fail)
   have F4:=(I.out.set_ 0 (.int .u64 g)).set_ 1 (.slice m t d)
   have Y4:=aFG (aFG aa.out (new_ne u.out G.out) 0 (.int .u64 g)) (new_ne u.out G.out) 1 (.slice m t d)
   have b4:=(Z.out.setCell (p:=⟨w.heap.size,0,none⟩) (yR _) (.int .u64 g)).setCell (p:=⟨w.heap.size,1,none⟩) (yR _) (.slice m t d)
   have N4:=new_mono u.out (Nat.le_of_lt G.out)
   go_wp2_with fail
   refine bodyPost_ret (v:=arrV g m t d) (by exact results_cell_row Tryz.results179 _ _ w.heap.size 242 _ (0,0) _ rfl F4 Tryz.underlying242 rfl (by kernel_rfl)) rfl ?_
   exact⟨b4,m,⟨d,rfl⟩,Y4,N4⟩
  ·refine wp_region_held_drew (S:=fun W:World=>W.cell? ⟨L,0,none⟩=some (.pointer (some ⟨y,0,none⟩))∧W.cell? ⟨B,0,none⟩=some (.int .u64 (a:Int))) (by kernel_rfl) (by exact⟨E,z⟩) (fun hHeld=>?_)
   refine tq 0 3 rfl (fun W hSw=>by obtain⟨g,x⟩:=hSw;go_simp;try (with_reducible rfl)) ?_
   try simp only[Act.put,sA,sZ,sS]
   refine tq 1 4 rfl (fun W hSw=>by obtain⟨g,x⟩:=hSw;go_simp;try (with_reducible rfl)) ?_
   try simp only[Act.put,sA,sZ,sS]
   refine tq 3 6 rfl (fun W hSw=>by obtain⟨g,x⟩:=hSw;go_simp;try (with_reducible rfl)) ?_
   try simp only[Act.put,sA,sZ,sS]
   refine rd 2 rfl (fun K hK=>?_)
   go_simp
   ((refine V.out.mono ?_);rintro e wf ⟨rfl,rfl⟩)
   try go_wp2_with fail
   refine hK.out _ _ (by exact⟨E,z⟩) (fun hHeld=>?_)
   clear hK K
   try simp only[Act.put,sA,sZ,sS]
   refine rd 4 rfl (fun K hK=>?_)
   go_simp
   ((refine X.out.mono ?_);rintro e w2 ⟨m,d,rfl,b,s,r⟩;have J:=yH (k.out.trans (b.mono k.out.size));have H:=yH (D.out.drew.below b s2.out);have F:=yH (C.out.drew.below b s3.out);have u2:=H.out.cell (i:=0) rfl;have u3:=F.out.cell (i:=0) rfl;clear b s r)
   try go_wp2_with fail
   refine hK.out _ _ (by exact⟨u2,u3⟩) (fun hHeld=>?_)
   clear hK K
   try simp only[Act.put,sA,sZ,sS]
   refine tq 5 8 rfl (fun W hSw=>by obtain⟨g,x⟩:=hSw;go_simp;try (with_reducible rfl)) ?_
   try simp only[Act.put,sA,sZ,sS]
   refine tq 6 9 rfl (fun W hSw=>by obtain⟨g,x⟩:=hSw;go_simp;try (with_reducible rfl)) ?_
   try simp only[Act.put,sA,sZ,sS]
   refine rd 7 rfl (fun K hK=>?_)
   go_simp
   ((refine(got_no g m t d cd hz w2).mono ?_);rintro e w3 ⟨rfl,f⟩;have Z:=yH (J.out.trans (f.mono J.out.size));clear f;exact⟨rfl,Z.out,.inl ⟨hz,rfl⟩⟩)
 ·have V:=yH (aHH (a:Int) _ o (by omega))
  unfold ReadA arcode
  rw[if_neg q]
  generalize arX l a=g at*
  generalize arM l a=t at*
  generalize arF (bodyL l a)=ff at*
  clear v j o M R
  go_enter Tryz.func179,Tryz.ntmps179
  go_upto_region 1 with fail
  generalize w.alloc (.cells az 242)=w1 at*
  have E:=D.out.cell (i:=0) rfl
  have z:=C.out.cell (i:=0) rfl
  refine wp_region_held_drew (S:=fun W:World=>W.cell? ⟨L,0,none⟩=some (.pointer (some ⟨y,0,none⟩))∧W.cell? ⟨B,0,none⟩=some (.int .u64 (a:Int))) (by kernel_rfl) (by exact⟨E,z⟩) (fun hHeld=>?_)
  refine tq 0 3 rfl (fun W hSw=>by obtain⟨g,x⟩:=hSw;go_simp;try (with_reducible rfl)) ?_
  try simp only[Act.put,sA,sZ,sS]
  refine tq 1 4 rfl (fun W hSw=>by obtain⟨g,x⟩:=hSw;go_simp;try (with_reducible rfl)) ?_
  try simp only[Act.put,sA,sZ,sS]
  refine tq 3 6 rfl (fun W hSw=>by obtain⟨g,x⟩:=hSw;go_simp;try (with_reducible rfl)) ?_
  try simp only[Act.put,sA,sZ,sS]
  refine rd 2 rfl (fun K hK=>?_)
  go_simp
  ((refine V.out.mono ?_);rintro e wf ⟨rfl,rfl⟩;exact⟨rfl,k.out,.inl ⟨by decide,rfl⟩⟩)
def AskA (B:Nat)(l:List Int)(a:Nat)(cd:Int)(e:Ending)(w':World):Prop:=
 (cd≠0∧e= .returned (.tuple #[.agg az,.int .i64 cd]))∨(cd=0∧ ∃A' c',e= .returned (.tuple #[arrV (arX l a) A' (arM l a) c',.int .i64 0])∧InInts .u64 w' A' (arM l a) (arF (bodyL l a))∧NewIn B A')
theorem asked_any {V:Nat}{h:HD}{A:Option Addr}{n c:Nat}{l:List Int}(a:Nat)(J x:Nat)(w:World)(v:ViewAt w V h A n c l)(I:c≤maxLen)(y:Blk w J [.pointer (some ⟨V,0,none⟩)] 51)(E:Blk w x [.int .u64 (a:Int)] 27):
 Calls Tryz.prog 178 #[.func (.func 179) #[] #[.pointer (some ⟨J,0,none⟩),.pointer (some ⟨x,0,none⟩)]] w fun e w'=>Below w.heap.size w w'∧AskA w.heap.size l a (arcode h l n a) e w':=by
 have X:=yH ((Below.refl w.heap.size w).alloc (yR _) (.cells az 242))
 have b2:=yH (X.out.alloc X.out.size (.cells #[.int .i64 0] 3))
 have N:=v.below b2.out
 have D:=yH (aO7 a J x _ N I (y.below b2.out y.lt) (E.below b2.out E.lt))
 have M:(w.alloc (.cells az 242)).heap.size=w.heap.size+1:=by simp only[World.alloc,Array.size_push]
 have o:((w.alloc (.cells az 242)).alloc (.cells #[.int .i64 0] 3)).heap.size=w.heap.size+1+1:=by simp only[World.alloc,Array.size_push]
 have Y:=yH ((Below.heap_alloc (w.alloc (.cells az 242)) (.cells #[.int .i64 0] 3) w.heap.size (by rw[M];omega)).trans (heap_alloc_new w (.cells az 242)))
 have R:=yH (Blk.new_at (w.alloc (.cells az 242)) [.int .i64 0] 3 _ M)
 have aa: ∀(fn:Fn) (first cap:Array Value) (w:World),(Instr.makeFunc fn first cap).run Tryz.prog w= .ok (.func fn first cap) w:=fun _ _ _ _=>rfl
 unfold ReadA at D
 unfold AskA
 generalize arX l a=r at*
 generalize arcode h l n a=cd at*
 generalize arM l a=t at*
 generalize arF (bodyL l a)=ff at*
 clear v N y E
 by_cases G:cd=0
 ·subst G
  go_enter_defers Tryz.func178,Tryz.ntmps178
  go_wp2_with(first
   |(go_at_call 179;(refine D.out.mono ?_);rintro e w3 ⟨b,⟨H,_⟩|⟨_,j,d,rfl,m,k⟩⟩;(exact absurd rfl H);have u:=yH (b2.out.trans (b.mono b2.out.size));have z:=yH m;have g:=yH (show NewIn (w.heap.size+1+1) j from o▸k);have q:=yH ((b.block _ (by rw[o];omega)).trans Y.out);have s:=yH (R.out.below b (by rw[o];omega));clear b m k)
   |((with_reducible apply aAa (.tmp 2) (.tmp 6));refine wpList_store_row rfl 242 (.tmp 2) (.tmp 6) rfl w.heap.size #[.int .u64 r,.slice j t d] rfl rfl 242 az q.out (by kernel_rfl) rfl (by simp[Value.oneCell']) ?_;have F:=yH (show Blk (w3.setRow w.heap.size #[.int .u64 r,.slice j t d]) (w.heap.size+1) [.int .i64 0] 3 from(setRow_other w3 w.heap.size (w.heap.size+1) _ (Nat.succ_ne_self _)).trans s.out);have c4:=F.out.cell (i:=0) rfl;have z4:=F.out.frozen 0)
   |fail)
  refine leaves_cons (f:=223) (args:= #[.pointer (some ⟨w.heap.size+1,0,none⟩)]) (by simp) (by simp[go_sem]) ?_
  refine(caught_idle _ _).mono ?_
  rintro e u' C ⟨rfl,rfl,rfl⟩
  have L:=(below_setRow (B:=w.heap.size) u.out (yR _) #[.int .u64 r,.slice j t d]).setCell (p:=⟨w.heap.size+1,0,none⟩) (Nat.le_succ _) (.int .i64 0)
  exact⟨.tuple #[arrV r j t d,.int .i64 0],(by exact aAw Tryz.results178 _ _ w.heap.size (w.heap.size+1) 242 _ (0,0) _ _ rfl rfl ((Below.heap_setCell _ _ _ _ (Nat.succ_ne_self _).symm).trans (setRow_heap _ w.heap.size _ _ _ (0,0) q.out)) Tryz.underlying242 rfl (by kernel_rfl) (aAI _ _ _ (F.out.set_ 0 _))),L,.inr ⟨trivial,j,d,rfl,aFG (InInts.setRow z.out (new_ne g.out (by omega)) _) (new_ne g.out (by omega)) _ _,new_mono g.out (by omega)⟩⟩
 ·go_enter_defers Tryz.func178,Tryz.ntmps178
  go_wp2_with(first
   |(go_at_call 179;(refine D.out.mono ?_);rintro e w3 ⟨b,⟨_,rfl⟩|⟨Z,_⟩⟩;rotate_left;(exact absurd Z G);have u:=yH (b2.out.trans (b.mono b2.out.size));have q:=yH ((b.block _ (by rw[o];omega)).trans Y.out);have s:=yH (R.out.below b (by rw[o];omega));clear b)
   |fail)
  refine leaves_cons (f:=223) (args:= #[.pointer (some ⟨w.heap.size+1,0,none⟩)]) (by simp) (by simp[go_sem]) ?_
  refine(caught_halt _ cd 0 [] _ s.out).mono ?_
  rintro e u' C ⟨rfl,rfl,rfl⟩
  have L:=u.out.setCell (p:=⟨w.heap.size+1,0,none⟩) (Nat.le_succ _) (.int .i64 cd)
  exact⟨.tuple #[.agg az,.int .i64 cd],(by exact aAw Tryz.results178 _ _ w.heap.size (w.heap.size+1) 242 _ (0,0) _ _ rfl rfl ((Below.heap_setCell _ _ _ _ (Nat.succ_ne_self _).symm).trans q.out) Tryz.underlying242 rfl (by kernel_rfl) (aAI _ _ _ (s.out.set_ 0 _))),L,.inl ⟨G,rfl⟩⟩
theorem aOi {f:Nat}{h:HD}{A:Option Addr}{n c:Nat}{l:List Int}(a:Nat)(w:World)(v:ViewAt w f h A n c l)(C:c≤maxLen):
 Calls Tryz.prog 141 #[.pointer (some ⟨f,0,none⟩),.int .u64 (a:Int)] w fun e w'=>Below w.heap.size w w'∧AskA w.heap.size l a (arcode h l n a) e w':=by
 have G:=yH ((Below.refl w.heap.size w).alloc (yR _) (.cells #[.pointer (some ⟨f,0,none⟩)] 51))
 have b2:=yH (G.out.alloc G.out.size (.cells #[.int .u64 (a:Int)] 27))
 have k:=yH (b2.out.alloc b2.out.size (.cells az 242))
 have I:=v.below k.out
 have L:(w.alloc (.cells #[.pointer (some ⟨f,0,none⟩)] 51)).heap.size=w.heap.size+1:=by simp only[World.alloc,Array.size_push]
 have N:((w.alloc (.cells #[.pointer (some ⟨f,0,none⟩)] 51)).alloc (.cells #[.int .u64 (a:Int)] 27)).heap.size=w.heap.size+1+1:=by simp only[World.alloc,Array.size_push]
 have r:(((w.alloc (.cells #[.pointer (some ⟨f,0,none⟩)] 51)).alloc (.cells #[.int .u64 (a:Int)] 27)).alloc (.cells az 242)).heap.size=w.heap.size+1+1+1:=by simp only[World.alloc,Array.size_push]
 have H:=((Blk.new w [.pointer (some ⟨f,0,none⟩)] 51).alloc (.cells #[.int .u64 (a:Int)] 27)).alloc (.cells az 242)
 have F:=(Blk.new_at (w.alloc (.cells #[.pointer (some ⟨f,0,none⟩)] 51)) [.int .u64 (a:Int)] 27 _ L).alloc (.cells az 242)
 have x:=yH (asked_any a w.heap.size (w.heap.size+1) _ I C H F)
 have E:=yH (show(((w.alloc (.cells #[.pointer (some ⟨f,0,none⟩)] 51)).alloc (.cells #[.int .u64 (a:Int)] 27)).alloc (.cells az 242)).heap[w.heap.size+1+1]? =some (.cells az 242 (0,0))from N▸heap_alloc_new _ (.cells az 242))
 have M: ∀(fn:Fn) (first cap:Array Value) (w:World),(Instr.makeFunc fn first cap).run Tryz.prog w= .ok (.func fn first cap) w:=fun _ _ _ _=>rfl
 unfold AskA at x⊢
 generalize arX l a=s at*
 generalize arcode h l n a=cd at*
 generalize arM l a=D at*
 generalize arF (bodyL l a)=R at*
 clear v I H F
 by_cases y:cd=0
 ·subst y
  go_enter Tryz.func141,Tryz.ntmps141
  go_wp2_with(first
   |(go_at_call 178;(refine x.out.mono ?_);rintro e w4 ⟨b,⟨z,_⟩|⟨_,o,d,rfl,m,i⟩⟩;(exact absurd rfl z);have u:=yH (k.out.trans (b.mono k.out.size));have t:=yH m;have p:=yH (show NewIn (w.heap.size+1+1+1) o from r▸i);have j:=yH ((b.block _ (by rw[r];omega)).trans E.out);clear b m i)
   |((with_reducible apply aAa (.tmp 4) (.tmp 8));refine wpList_store_row rfl 242 (.tmp 4) (.tmp 8) rfl (w.heap.size+1+1) #[.int .u64 s,.slice o D d] rfl rfl 242 az j.out (by kernel_rfl) rfl (by simp[Value.oneCell']) ?_)
   |fail)
  refine bodyPost_ret (v:= .tuple #[arrV s o D d,.int .i64 0]) (by exact aAq Tryz.results141 _ _ (w.heap.size+1+1) 242 _ (0,0) _ _ rfl rfl (setRow_heap _ (w.heap.size+1+1) _ _ _ (0,0) j.out) Tryz.underlying242 rfl (by kernel_rfl)) rfl ?_
  have q:=below_setRow (B:=w.heap.size) (g:=w.heap.size+1+1) u.out (by omega) #[.int .u64 s,.slice o D d]
  exact⟨q,.inr ⟨trivial,o,d,rfl,InInts.setRow t.out (new_ne p.out (by omega)) _,new_mono p.out (by omega)⟩⟩
 ·go_enter Tryz.func141,Tryz.ntmps141
  go_wp2_with(first
   |(go_at_call 178;(refine x.out.mono ?_);rintro e w4 ⟨b,⟨_,rfl⟩|⟨J,_⟩⟩;rotate_left;(exact absurd J y);have u:=yH (k.out.trans (b.mono k.out.size));have j:=yH ((b.block _ (by rw[r];omega)).trans E.out);clear b)
   |((with_reducible apply aAa (.tmp 4) (.tmp 8));refine wpList_store_row rfl 242 (.tmp 4) (.tmp 8) rfl (w.heap.size+1+1) az rfl rfl 242 az j.out (by kernel_rfl) rfl (by simp[Value.oneCell']) ?_)
   |fail)
  refine bodyPost_ret (v:= .tuple #[.agg az,.int .i64 cd]) (by exact aAq Tryz.results141 _ _ (w.heap.size+1+1) 242 _ (0,0) _ _ rfl rfl (setRow_heap _ (w.heap.size+1+1) _ _ _ (0,0) j.out) Tryz.underlying242 rfl (by kernel_rfl)) rfl ?_
  have q:=below_setRow (B:=w.heap.size) (g:=w.heap.size+1+1) u.out (by omega) az
  exact⟨q,.inl ⟨y,rfl⟩⟩
end Rg
namespace Rh
open Blk8 Own8 OwnE Ga Gb Ok7 Rc
open Kf Ye Yg Yh
open Re (aAw aAI)
attribute [local irreducible] wpList Code.wp
theorem aO8 (a:Array Value)(cd:Int)(b:cd≠0)(w:World):Calls Tryz.prog 221 #[.agg a,.int .i64 cd] w fun e w'=>e= .panicked [haltE cd]∧Below w.heap.size w w':=by
 have c:=yH (aBF cd)
 have d:(cd==0)=false:=by simpa using b
 have b2:=yH (((Below.refl w.heap.size w).alloc (yR _) (.cells a 239)).alloc (by simp) (zC 239))
 go_enter Tryz.func221,Tryz.ntmps221
 go_wp2_with(first
  |(go_at_call 205;(refine(c.out _).mono ?_);rintro e w1 ⟨rfl,rfl⟩)
  |fail)
 exact⟨rfl,rfl,b2.out⟩
theorem aNr (a:Array Value)(hs:a.size=21)(f:a.all (·.oneCell')=true)(w:World):Calls Tryz.prog 221 #[.agg a,.int .i64 0] w fun e' w'=>e'= .returned (.agg a)∧Below w.heap.size w w':=by
 have k:=yH (aA4 0)
 have b:(Tryz.prog.info? 239).map (·.size)=some a.size:=by rw[aA8,hs]
 have i:(w.alloc (.cells a 239)).heap.size=w.heap.size+1:=by simp only[World.alloc,Array.size_push]
 have g:=yH (show((w.alloc (.cells a 239)).alloc (zC 239)).heap[w.heap.size]? =some (.cells a 239 (0,0))from(Below.heap_alloc _ _ w.heap.size (by rw[i];omega)).trans (heap_alloc_new w (.cells a 239)))
 have d:=yH (show((w.alloc (.cells a 239)).alloc (zC 239)).heap[w.heap.size+1]? =some (.cells zL.toArray 239 (0,0))from heap_alloc2_new w _ _)
 have b2:=yH (((Below.refl w.heap.size w).alloc (yR _) (.cells a 239)).alloc (by simp) (zC 239))
 have c:=yH b
 have h:=yH f
 have j:=yH (show zL.toArray.size=a.size from hs.symm)
 clear b f hs
 go_enter Tryz.func221,Tryz.ntmps221
 go_wp2_with(first
  |(go_at_call 205;(refine(k.out _).mono ?_);rintro e w1 ⟨rfl,rfl⟩)
  |(refine wpList_load_row rfl 239 (.tmp 2) rfl w.heap.size rfl 239 a (0,0) _ g.out Tryz.underlying239 rfl c.out ?_)
  |((with_reducible apply aAa (.tmp 4) (.tmp 9));refine wpList_store_row rfl 239 (.tmp 4) (.tmp 9) rfl (w.heap.size+1) a rfl rfl 239 zL.toArray d.out c.out j.out h.out ?_)
  |fail)
 refine bodyPost_ret (v:= .agg a) (by exact results_cell_row Tryz.results221 _ _ (w.heap.size+1) 239 _ (0,0) _ rfl (setRow_heap _ (w.heap.size+1) _ _ _ (0,0) d.out) Tryz.underlying239 rfl c.out) rfl ?_
 exact⟨rfl,below_setRow b2.out (by omega) a⟩
end Rh
end Go.Proofs.YtlelnfokffflnaaGreat
