/-
  Texts beneath the proof.
-/
import Derived.Test.YtlelnfokffflnaaGreatQl31
set_option linter.unusedVariables false
set_option linter.unusedSimpArgs false
set_option maxRecDepth 100000
set_option maxHeartbeats 4000000
open Go.ChangeShapes Go.WideShapes Go.ChangeAt Go.RowKit
namespace Go.Proofs.YtlelnfokffflnaaGreat
namespace Rf
open Re (aAw aAI)
attribute [local irreducible] wpList Code.wp
end Rf
namespace Rg
open Bytes8 Blk8 Own8 OwnE Rows2 Ob Ga Gb Gi Ok7 Rc Rd
open Kf Yp Yd Ye Yg Yh
open Re (aAw aAI)
theorem caught_idle (b:Nat)(w:World):CallsD Tryz.prog 223 #[.pointer (some ⟨b,0,none⟩)] .returning w fun e u' w'=>e= .returned (.tuple #[])∧u'= .returning∧w'=w:=by
 refine callsD_of_wpS Tryz.func223 rfl fun c₀ cs hu=>?_
 apply wpS_seq
 apply wpS_region
 simp[wpOpsS,go_sem,recoverD,hu,Tryz.ntmps223,Exit.thenS]
 refine wpS_of_wp ?_
 go_wp2
 cases c₀
 simp_all[bodyPostS,results,Tryz.results223]
theorem caught_halt (d:Nat)(c y:Int)(b:List PanicEntry)(w:World)(h:Blk w d [.int .i64 y] 3):CallsD Tryz.prog 223 #[.pointer (some ⟨d,0,none⟩)] (.panicking ({v:= .iface 326 (.int .i64 c),recovered:=false}::b)) w fun e u' w'=>e= .returned (.tuple #[])∧u'= .panicking ({v:= .iface 326 (.int .i64 c),recovered:=true}::b)∧w'=w.setCell ⟨d,0,none⟩ (.int .i64 c):=by
 have j:=h.cell (i:=0) rfl
 have g:=h.frozen 0
 have f: ∀w:World,(Instr.typeAssert (.iface 326 (.int .i64 c)) 20 326 true).run Tryz.prog w= .ok (.tuple #[.int .i64 c,.bool true]) w:=fun _=>by kernel_rfl
 refine callsD_of_wpS Tryz.func223 rfl fun c₀ cs hu=>?_
 apply wpS_seq
 apply wpS_region
 simp[wpOpsS,go_sem,recoverD,hu,Tryz.ntmps223,Exit.thenS]
 refine wpS_of_wp ?_
 go_wp2
 cases c₀
 simp_all[bodyPostS,results,Tryz.results223]
abbrev az:Array Value:= #[.int .u64 0,.slice none 0 0]
attribute [local irreducible] wpList Code.wp
theorem got_no (a:Int)(A:Option Addr)(n k:Nat)(cd:Int)(b:cd≠0)(w:World):Calls Tryz.prog 180 #[arrV a A n k,.int .i64 cd] w fun e w'=>e= .panicked [haltE cd]∧Below w.heap.size w w':=by
 have c:=yH (aBF cd)
 have d:(cd==0)=false:=by simpa using b
 have b2:=yH (((Below.refl w.heap.size w).alloc (yR _) (.cells #[.int .u64 a,.slice A n k] 242)).alloc (by simp) (.cells az 242))
 go_enter Tryz.func180,Tryz.ntmps180
 go_wp2_with(first
  |(go_at_call 205;(refine(c.out _).mono ?_);rintro e w1 ⟨rfl,rfl⟩)
  |fail)
 exact⟨rfl,rfl,b2.out⟩
theorem got_yes (a:Int)(A:Option Addr)(n k:Nat)(w:World):Calls Tryz.prog 180 #[arrV a A n k,.int .i64 0] w fun e' w'=>e'= .returned (arrV a A n k)∧Below w.heap.size w w':=by
 have b:=yH (aA4 0)
 go_enter Tryz.func180,Tryz.ntmps180
 go_wp2_with(first
  |(go_at_call 205;(refine(b.out _).mono ?_);rintro e w1 ⟨rfl,rfl⟩)
  |fail)
 refine bodyPost_ret (v:=arrV a A n k) (by exact results_cell_row Tryz.results180 _ _ (w.heap.size+1) 242 _ (0,0) _ rfl (heap_alloc2_new w _ _) Tryz.underlying242 rfl (by kernel_rfl)) rfl ?_
 exact⟨rfl,((Below.refl w.heap.size w).alloc (yR _) _).alloc (by simp) _⟩
def arcode (h:HD)(l:List Int)(n a:Nat):Int:=if h.N 0≤(a:Int)∧a<n then ecode l a 6 8 8 else 2
def ReadA (B:Nat)(l:List Int)(a:Nat)(cd:Int)(e:Ending)(w':World):Prop:=
 (cd≠0∧e= .panicked [haltE cd])∨(cd=0∧ ∃A' c',e= .returned (arrV (arX l a) A' (arM l a) c')∧InInts .u64 w' A' (arM l a) (arF (bodyL l a))∧NewIn B A')
theorem aFG {k:IntKind}{w:World}{a:Option Addr}{n:Nat}{f:Nat→Int}(l:InInts k w a n f){g:Nat}(o: ∀b c,a=some ⟨b,c,none⟩→b≠g)(i:Nat)(v:Value):InInts k (w.setCell ⟨g,i,none⟩ v) a n f:=fun j hx=>by
 obtain⟨b,c,e,p,d,m⟩:=l j hx
 exact⟨b,c,e,by simpa using p,(World.cell?_of_block (Below.heap_setCell w ⟨g,i,none⟩ v b (o b c e))).trans d,m⟩
theorem new_ne {B:Nat}{A:Option Addr}(h:NewIn B A){g:Nat}(c:g<B): ∀b off,A=some ⟨b,off,none⟩→b≠g:=fun b off e=>Nat.ne_of_gt (yL c (h b off e))
theorem new_mono {B C:Nat}{A:Option Addr}(h:NewIn B A)(c:C≤B):NewIn C A:=fun b off e=>Nat.le_trans c (h b off e)
theorem aO7 {y:Nat}{h:HD}{A:Option Addr}{n c:Nat}{l:List Int}(a:Nat)(B J:Nat)(w:World)(v:ViewAt w y h A n c l)(Z:c≤maxLen)(R:Blk w B [.pointer (some ⟨y,0,none⟩)] 51)(V:Blk w J [.int .u64 (a:Int)] 27):
 Calls Tryz.prog 179 #[.pointer (some ⟨B,0,none⟩),.pointer (some ⟨J,0,none⟩)] w fun e w'=>Below w.heap.size w w'∧ReadA w.heap.size l a (arcode h l n a) e w':=by
 have b1:=yH ((Below.refl w.heap.size w).alloc (yR _) (.cells az 242))
 have j:=v.below b1.out
 have m:ViewAt (w.alloc (.cells az 242)).drew y h A n c l:=⟨j.blk,j.by_,j.len,j.cap,j.big,j.ok⟩
 have o:=yH b1.out.drew
 have L:=yH (R.alloc (.cells az 242))
 have z:=yH (V.alloc (.cells az 242))
 have s2:=yH L.out.lt
 have s3:=yH z.out.lt
 have Z1:=yH (heap_alloc_new w (.cells az 242))
 have F:=yH (show w.heap.size<(w.alloc (.cells az 242)).heap.size by simp)
 have l2:=yH (Nat.ne_of_lt R.lt)
 have l3:=yH (Nat.ne_of_lt V.lt)
 by_cases r:h.N 0≤(a:Int)∧a<n
 ·have M:=yH (aFF (a:Int) _ m r.1 (by omega))
  have HR:=yH (aHh A l n c a _ m.by_ j.len j.big j.cap Z (by have:=j.big;omega))
  unfold ArrTold2 at HR
  unfold ReadA arcode
  rw[if_pos r]
  generalize arX l a=g at*
  generalize ecode l a 6 8 8=cd at*
  generalize arM l a=t at*
  generalize arF (bodyL l a)=ff at*
  clear v j m r R V
  go_enter Tryz.func179,Tryz.ntmps179
  go_upto_region 1 with fail
  generalize w.alloc (.cells az 242)=w1 at*
  have C:=L.out.cell (i:=0) rfl
  have I:=z.out.cell (i:=0) rfl
  by_cases hz:cd=0
  ·subst hz
   go_region_held3 (fun W=>W.cell? ⟨B,0,none⟩=some (.pointer (some ⟨y,0,none⟩))∧W.cell? ⟨J,0,none⟩=some (.int .u64 (a:Int))) (first|(with_reducible exact⟨C,I⟩)|(with_reducible exact⟨u2,u3⟩)|(with_reducible exact⟨p2,p3⟩)|(with_reducible exact⟨q2,q3⟩)|go_keep) (first
    |(go_at_call 182;(refine M.out.mono ?_);rintro e wf ⟨rfl,rfl⟩)
    |(go_at_call 181;(refine HR.out.mono ?_);rintro e w2 ⟨k,d,rfl,b,s,q⟩;have D:=yH (o.out.trans (b.mono o.out.size));have aa:=yH ((b.block _ F.out).trans Z1.out);have Y:=yH s;have u:=yH (show NewIn w1.heap.size k from q);have H:=yH (L.out.drew.below b s2.out);have E:=yH (z.out.drew.below b s3.out);have u2:=H.out.cell (i:=0) rfl;have u3:=E.out.cell (i:=0) rfl;have ab:=yH b.size;clear b s q)
    |(go_at_call 180;(refine(got_yes g k t d w2).mono ?_);rintro e w3 ⟨rfl,f⟩;have B3:=yH (D.out.trans (f.mono D.out.size));have X:=yH (Y.out.below f);have P2:=yH (H.out.below f H.out.lt);have P3:=yH (E.out.below f E.out.lt);have p2:=P2.out.cell (i:=0) rfl;have p3:=P3.out.cell (i:=0) rfl;have Z3:=yH ((f.block _ (yL F.out ab.out)).trans aa.out);have G:=yH (show Blk w3 w.heap.size [.int .u64 0,.slice none 0 0] 242 from Z3.out);have e0:=G.out.cell (i:=0) rfl;have z0:=G.out.frozen 0;have e1:=G.out.cell (i:=1) rfl;have z1:=G.out.frozen 1;have q2:=((P2.out.far (p:=⟨w.heap.size,0,none⟩) l2.out (.int .u64 g)).far (p:=⟨w.heap.size,1,none⟩) l2.out (.slice k t d)).cell (i:=0) rfl;have q3:=((P3.out.far (p:=⟨w.heap.size,0,none⟩) l3.out (.int .u64 g)).far (p:=⟨w.heap.size,1,none⟩) l3.out (.slice k t d)).cell (i:=0) rfl;clear f)
    |fail)
   have F4:=(G.out.set_ 0 (.int .u64 g)).set_ 1 (.slice k t d)
   have Y4:=aFG (aFG X.out (new_ne u.out F.out) 0 (.int .u64 g)) (new_ne u.out F.out) 1 (.slice k t d)
   have b4:=(B3.out.setCell (p:=⟨w.heap.size,0,none⟩) (yR _) (.int .u64 g)).setCell (p:=⟨w.heap.size,1,none⟩) (yR _) (.slice k t d)
   have N4:=new_mono u.out (Nat.le_of_lt F.out)
   go_wp2_with fail
   refine bodyPost_ret (v:=arrV g k t d) (by exact results_cell_row Tryz.results179 _ _ w.heap.size 242 _ (0,0) _ rfl F4 Tryz.underlying242 rfl (by kernel_rfl)) rfl ?_
   exact⟨b4,k,⟨d,rfl⟩,Y4,N4⟩
  ·refine wp_region_held_drew (S:=fun W:World=>W.cell? ⟨B,0,none⟩=some (.pointer (some ⟨y,0,none⟩))∧W.cell? ⟨J,0,none⟩=some (.int .u64 (a:Int))) (by kernel_rfl) (by exact⟨C,I⟩) (fun hHeld=>?_)
   refine tq 0 3 rfl (fun W hSw=>by obtain⟨g,x⟩:=hSw;go_simp;try (with_reducible rfl)) ?_
   try simp only[Act.put,sA,sZ,sS]
   refine tq 1 4 rfl (fun W hSw=>by obtain⟨g,x⟩:=hSw;go_simp;try (with_reducible rfl)) ?_
   try simp only[Act.put,sA,sZ,sS]
   refine tq 3 6 rfl (fun W hSw=>by obtain⟨g,x⟩:=hSw;go_simp;try (with_reducible rfl)) ?_
   try simp only[Act.put,sA,sZ,sS]
   refine rd 2 rfl (fun K hK=>?_)
   go_simp
   ((refine M.out.mono ?_);rintro e wf ⟨rfl,rfl⟩)
   try go_wp2_with fail
   refine hK.out _ _ (by exact⟨C,I⟩) (fun hHeld=>?_)
   clear hK K
   try simp only[Act.put,sA,sZ,sS]
   refine rd 4 rfl (fun K hK=>?_)
   go_simp
   ((refine HR.out.mono ?_);rintro e w2 ⟨k,d,rfl,b,s,q⟩;have D:=yH (o.out.trans (b.mono o.out.size));have H:=yH (L.out.drew.below b s2.out);have E:=yH (z.out.drew.below b s3.out);have u2:=H.out.cell (i:=0) rfl;have u3:=E.out.cell (i:=0) rfl;clear b s q)
   try go_wp2_with fail
   refine hK.out _ _ (by exact⟨u2,u3⟩) (fun hHeld=>?_)
   clear hK K
   try simp only[Act.put,sA,sZ,sS]
   refine tq 5 8 rfl (fun W hSw=>by obtain⟨g,x⟩:=hSw;go_simp;try (with_reducible rfl)) ?_
   try simp only[Act.put,sA,sZ,sS]
   refine tq 6 9 rfl (fun W hSw=>by obtain⟨g,x⟩:=hSw;go_simp;try (with_reducible rfl)) ?_
   try simp only[Act.put,sA,sZ,sS]
   refine rd 7 rfl (fun K hK=>?_)
   go_simp
   ((refine(got_no g k t d cd hz w2).mono ?_);rintro e w3 ⟨rfl,f⟩;have B3:=yH (D.out.trans (f.mono D.out.size));clear f;exact⟨rfl,B3.out,.inl ⟨hz,rfl⟩⟩)
 ·have M:=yH (aHH (a:Int) _ m (by omega))
  unfold ReadA arcode
  rw[if_neg r]
  generalize arX l a=g at*
  generalize arM l a=t at*
  generalize arF (bodyL l a)=ff at*
  clear v j m R V
  go_enter Tryz.func179,Tryz.ntmps179
  go_upto_region 1 with fail
  generalize w.alloc (.cells az 242)=w1 at*
  have C:=L.out.cell (i:=0) rfl
  have I:=z.out.cell (i:=0) rfl
  refine wp_region_held_drew (S:=fun W:World=>W.cell? ⟨B,0,none⟩=some (.pointer (some ⟨y,0,none⟩))∧W.cell? ⟨J,0,none⟩=some (.int .u64 (a:Int))) (by kernel_rfl) (by exact⟨C,I⟩) (fun hHeld=>?_)
  refine tq 0 3 rfl (fun W hSw=>by obtain⟨g,x⟩:=hSw;go_simp;try (with_reducible rfl)) ?_
  try simp only[Act.put,sA,sZ,sS]
  refine tq 1 4 rfl (fun W hSw=>by obtain⟨g,x⟩:=hSw;go_simp;try (with_reducible rfl)) ?_
  try simp only[Act.put,sA,sZ,sS]
  refine tq 3 6 rfl (fun W hSw=>by obtain⟨g,x⟩:=hSw;go_simp;try (with_reducible rfl)) ?_
  try simp only[Act.put,sA,sZ,sS]
  refine rd 2 rfl (fun K hK=>?_)
  go_simp
  ((refine M.out.mono ?_);rintro e wf ⟨rfl,rfl⟩;exact⟨rfl,o.out,.inl ⟨by decide,rfl⟩⟩)
def AskA (B:Nat)(l:List Int)(a:Nat)(cd:Int)(e:Ending)(w':World):Prop:=
 (cd≠0∧e= .returned (.tuple #[.agg az,.int .i64 cd]))∨(cd=0∧ ∃A' c',e= .returned (.tuple #[arrV (arX l a) A' (arM l a) c',.int .i64 0])∧InInts .u64 w' A' (arM l a) (arF (bodyL l a))∧NewIn B A')
theorem asked_any {R:Nat}{h:HD}{A:Option Addr}{n c:Nat}{l:List Int}(a:Nat)(u J:Nat)(w:World)(v:ViewAt w R h A n c l)(z:c≤maxLen)(C:Blk w u [.pointer (some ⟨R,0,none⟩)] 51)(E:Blk w J [.int .u64 (a:Int)] 27):
 Calls Tryz.prog 178 #[.func (.func 179) #[] #[.pointer (some ⟨u,0,none⟩),.pointer (some ⟨J,0,none⟩)]] w fun e w'=>Below w.heap.size w w'∧AskA w.heap.size l a (arcode h l n a) e w':=by
 have X:=yH ((Below.refl w.heap.size w).alloc (yR _) (.cells az 242))
 have b2:=yH (X.out.alloc X.out.size (.cells #[.int .i64 0] 3))
 have N:=v.below b2.out
 have G:=yH (aO7 a u J _ N z (C.below b2.out C.lt) (E.below b2.out E.lt))
 have M:(w.alloc (.cells az 242)).heap.size=w.heap.size+1:=by simp only[World.alloc,Array.size_push]
 have m:((w.alloc (.cells az 242)).alloc (.cells #[.int .i64 0] 3)).heap.size=w.heap.size+1+1:=by simp only[World.alloc,Array.size_push]
 have Y:=yH ((Below.heap_alloc (w.alloc (.cells az 242)) (.cells #[.int .i64 0] 3) w.heap.size (by rw[M];omega)).trans (heap_alloc_new w (.cells az 242)))
 have V:=yH (Blk.new_at (w.alloc (.cells az 242)) [.int .i64 0] 3 _ M)
 have aa: ∀(fn:Fn) (first cap:Array Value) (w:World),(Instr.makeFunc fn first cap).run Tryz.prog w= .ok (.func fn first cap) w:=fun _ _ _ _=>rfl
 unfold ReadA at G
 unfold AskA
 generalize arX l a=r at*
 generalize arcode h l n a=cd at*
 generalize arM l a=t at*
 generalize arF (bodyL l a)=ff at*
 clear v N C E
 by_cases D:cd=0
 ·subst D
  go_enter_defers Tryz.func178,Tryz.ntmps178
  go_wp2_with(first
   |(go_at_call 179;(refine G.out.mono ?_);rintro e w3 ⟨b,⟨y,_⟩|⟨_,j,d,rfl,o,k⟩⟩;(exact absurd rfl y);have H:=yH (b2.out.trans (b.mono b2.out.size));have x:=yH o;have g:=yH (show NewIn (w.heap.size+1+1) j from m▸k);have s:=yH ((b.block _ (by rw[m];omega)).trans Y.out);have q:=yH (V.out.below b (by rw[m];omega));clear b o k)
   |((with_reducible apply aAa (.tmp 2) (.tmp 6));refine wpList_store_row rfl 242 (.tmp 2) (.tmp 6) rfl w.heap.size #[.int .u64 r,.slice j t d] rfl rfl 242 az s.out (by kernel_rfl) rfl (by simp[Value.oneCell']) ?_;have L:=yH (show Blk (w3.setRow w.heap.size #[.int .u64 r,.slice j t d]) (w.heap.size+1) [.int .i64 0] 3 from(setRow_other w3 w.heap.size (w.heap.size+1) _ (Nat.succ_ne_self _)).trans q.out);have c4:=L.out.cell (i:=0) rfl;have z4:=L.out.frozen 0)
   |fail)
  refine leaves_cons (f:=223) (args:= #[.pointer (some ⟨w.heap.size+1,0,none⟩)]) (by simp) (by simp[go_sem]) ?_
  refine(caught_idle _ _).mono ?_
  rintro e Z F ⟨rfl,rfl,rfl⟩
  have I:=(below_setRow (B:=w.heap.size) H.out (yR _) #[.int .u64 r,.slice j t d]).setCell (p:=⟨w.heap.size+1,0,none⟩) (Nat.le_succ _) (.int .i64 0)
  exact⟨.tuple #[arrV r j t d,.int .i64 0],(by exact aAw Tryz.results178 _ _ w.heap.size (w.heap.size+1) 242 _ (0,0) _ _ rfl rfl ((Below.heap_setCell _ _ _ _ (Nat.succ_ne_self _).symm).trans (setRow_heap _ w.heap.size _ _ _ (0,0) s.out)) Tryz.underlying242 rfl (by kernel_rfl) (aAI _ _ _ (L.out.set_ 0 _))),I,.inr ⟨trivial,j,d,rfl,aFG (InInts.setRow x.out (new_ne g.out (by omega)) _) (new_ne g.out (by omega)) _ _,new_mono g.out (by omega)⟩⟩
 ·go_enter_defers Tryz.func178,Tryz.ntmps178
  go_wp2_with(first
   |(go_at_call 179;(refine G.out.mono ?_);rintro e w3 ⟨b,⟨_,rfl⟩|⟨he,_⟩⟩;rotate_left;(exact absurd he D);have H:=yH (b2.out.trans (b.mono b2.out.size));have s:=yH ((b.block _ (by rw[m];omega)).trans Y.out);have q:=yH (V.out.below b (by rw[m];omega));clear b)
   |fail)
  refine leaves_cons (f:=223) (args:= #[.pointer (some ⟨w.heap.size+1,0,none⟩)]) (by simp) (by simp[go_sem]) ?_
  refine(caught_halt _ cd 0 [] _ q.out).mono ?_
  rintro e Z F ⟨rfl,rfl,rfl⟩
  have I:=H.out.setCell (p:=⟨w.heap.size+1,0,none⟩) (Nat.le_succ _) (.int .i64 cd)
  exact⟨.tuple #[.agg az,.int .i64 cd],(by exact aAw Tryz.results178 _ _ w.heap.size (w.heap.size+1) 242 _ (0,0) _ _ rfl rfl ((Below.heap_setCell _ _ _ _ (Nat.succ_ne_self _).symm).trans s.out) Tryz.underlying242 rfl (by kernel_rfl) (aAI _ _ _ (q.out.set_ 0 _))),I,.inl ⟨D,rfl⟩⟩
theorem aOi {d:Nat}{h:HD}{A:Option Addr}{n c:Nat}{l:List Int}(a:Nat)(w:World)(v:ViewAt w d h A n c l)(u:c≤maxLen):
 Calls Tryz.prog 141 #[.pointer (some ⟨d,0,none⟩),.int .u64 (a:Int)] w fun e w'=>Below w.heap.size w w'∧AskA w.heap.size l a (arcode h l n a) e w':=by
 have F:=yH ((Below.refl w.heap.size w).alloc (yR _) (.cells #[.pointer (some ⟨d,0,none⟩)] 51))
 have b2:=yH (F.out.alloc F.out.size (.cells #[.int .u64 (a:Int)] 27))
 have o:=yH (b2.out.alloc b2.out.size (.cells az 242))
 have G:=v.below o.out
 have J:(w.alloc (.cells #[.pointer (some ⟨d,0,none⟩)] 51)).heap.size=w.heap.size+1:=by simp only[World.alloc,Array.size_push]
 have M:((w.alloc (.cells #[.pointer (some ⟨d,0,none⟩)] 51)).alloc (.cells #[.int .u64 (a:Int)] 27)).heap.size=w.heap.size+1+1:=by simp only[World.alloc,Array.size_push]
 have r:(((w.alloc (.cells #[.pointer (some ⟨d,0,none⟩)] 51)).alloc (.cells #[.int .u64 (a:Int)] 27)).alloc (.cells az 242)).heap.size=w.heap.size+1+1+1:=by simp only[World.alloc,Array.size_push]
 have E:=((Blk.new w [.pointer (some ⟨d,0,none⟩)] 51).alloc (.cells #[.int .u64 (a:Int)] 27)).alloc (.cells az 242)
 have I:=(Blk.new_at (w.alloc (.cells #[.pointer (some ⟨d,0,none⟩)] 51)) [.int .u64 (a:Int)] 27 _ J).alloc (.cells az 242)
 have C:=yH (asked_any a w.heap.size (w.heap.size+1) _ G u E I)
 have H:=yH (show(((w.alloc (.cells #[.pointer (some ⟨d,0,none⟩)] 51)).alloc (.cells #[.int .u64 (a:Int)] 27)).alloc (.cells az 242)).heap[w.heap.size+1+1]? =some (.cells az 242 (0,0))from M▸heap_alloc_new _ (.cells az 242))
 have L: ∀(fn:Fn) (first cap:Array Value) (w:World),(Instr.makeFunc fn first cap).run Tryz.prog w= .ok (.func fn first cap) w:=fun _ _ _ _=>rfl
 unfold AskA at C⊢
 generalize arX l a=z at*
 generalize arcode h l n a=cd at*
 generalize arM l a=D at*
 generalize arF (bodyL l a)=R at*
 clear v G E I
 by_cases x:cd=0
 ·subst x
  go_enter Tryz.func141,Tryz.ntmps141
  go_wp2_with(first
   |(go_at_call 178;(refine C.out.mono ?_);rintro e w4 ⟨b,⟨s,_⟩|⟨_,i,f,rfl,p,j⟩⟩;(exact absurd rfl s);have y:=yH (o.out.trans (b.mono o.out.size));have q:=yH p;have m:=yH (show NewIn (w.heap.size+1+1+1) i from r▸j);have k:=yH ((b.block _ (by rw[r];omega)).trans H.out);clear b p j)
   |((with_reducible apply aAa (.tmp 4) (.tmp 8));refine wpList_store_row rfl 242 (.tmp 4) (.tmp 8) rfl (w.heap.size+1+1) #[.int .u64 z,.slice i D f] rfl rfl 242 az k.out (by kernel_rfl) rfl (by simp[Value.oneCell']) ?_)
   |fail)
  refine bodyPost_ret (v:= .tuple #[arrV z i D f,.int .i64 0]) (by exact aAq Tryz.results141 _ _ (w.heap.size+1+1) 242 _ (0,0) _ _ rfl rfl (setRow_heap _ (w.heap.size+1+1) _ _ _ (0,0) k.out) Tryz.underlying242 rfl (by kernel_rfl)) rfl ?_
  have t:=below_setRow (B:=w.heap.size) (g:=w.heap.size+1+1) y.out (by omega) #[.int .u64 z,.slice i D f]
  exact⟨t,.inr ⟨trivial,i,f,rfl,InInts.setRow q.out (new_ne m.out (by omega)) _,new_mono m.out (by omega)⟩⟩
 ·go_enter Tryz.func141,Tryz.ntmps141
  go_wp2_with(first
   |(go_at_call 178;(refine C.out.mono ?_);rintro e w4 ⟨b,⟨_,rfl⟩|⟨N,_⟩⟩;rotate_left;(exact absurd N x);have y:=yH (o.out.trans (b.mono o.out.size));have k:=yH ((b.block _ (by rw[r];omega)).trans H.out);clear b)
   |((with_reducible apply aAa (.tmp 4) (.tmp 8));refine wpList_store_row rfl 242 (.tmp 4) (.tmp 8) rfl (w.heap.size+1+1) az rfl rfl 242 az k.out (by kernel_rfl) rfl (by simp[Value.oneCell']) ?_)
   |fail)
  refine bodyPost_ret (v:= .tuple #[.agg az,.int .i64 cd]) (by exact aAq Tryz.results141 _ _ (w.heap.size+1+1) 242 _ (0,0) _ _ rfl rfl (setRow_heap _ (w.heap.size+1+1) _ _ _ (0,0) k.out) Tryz.underlying242 rfl (by kernel_rfl)) rfl ?_
  have t:=below_setRow (B:=w.heap.size) (g:=w.heap.size+1+1) y.out (by omega) az
  exact⟨t,.inl ⟨x,rfl⟩⟩
end Rg
namespace Rh
open Blk8 Own8 OwnE Ga Gb Ok7 Rc
open Kf Ye Yg Yh
open Re (aAw aAI)
attribute [local irreducible] wpList Code.wp
theorem aO8 (b:Array Value)(cd:Int)(c:cd≠0)(w:World):Calls Tryz.prog 221 #[.agg b,.int .i64 cd] w fun e w'=>e= .panicked [haltE cd]∧Below w.heap.size w w':=by
 have d:=yH (aBF cd)
 have f:(cd==0)=false:=by simpa using c
 have b2:=yH (((Below.refl w.heap.size w).alloc (yR _) (.cells b 239)).alloc (by simp) (zC 239))
 go_enter Tryz.func221,Tryz.ntmps221
 go_wp2_with(first
  |(go_at_call 205;(refine(d.out _).mono ?_);rintro e w1 ⟨rfl,rfl⟩)
  |fail)
 exact⟨rfl,rfl,b2.out⟩
theorem aNr (b:Array Value)(hs:b.size=21)(f:b.all (·.oneCell')=true)(w:World):Calls Tryz.prog 221 #[.agg b,.int .i64 0] w fun e' w'=>e'= .returned (.agg b)∧Below w.heap.size w w':=by
 have m:=yH (aA4 0)
 have c:(Tryz.prog.info? 239).map (·.size)=some b.size:=by rw[aA8,hs]
 have i:(w.alloc (.cells b 239)).heap.size=w.heap.size+1:=by simp only[World.alloc,Array.size_push]
 have k:=yH (show((w.alloc (.cells b 239)).alloc (zC 239)).heap[w.heap.size]? =some (.cells b 239 (0,0))from(Below.heap_alloc _ _ w.heap.size (by rw[i];omega)).trans (heap_alloc_new w (.cells b 239)))
 have g:=yH (show((w.alloc (.cells b 239)).alloc (zC 239)).heap[w.heap.size+1]? =some (.cells zL.toArray 239 (0,0))from heap_alloc2_new w _ _)
 have b2:=yH (((Below.refl w.heap.size w).alloc (yR _) (.cells b 239)).alloc (by simp) (zC 239))
 have d:=yH c
 have l:=yH f
 have j:=yH (show zL.toArray.size=b.size from hs.symm)
 clear c f hs
 go_enter Tryz.func221,Tryz.ntmps221
 go_wp2_with(first
  |(go_at_call 205;(refine(m.out _).mono ?_);rintro e w1 ⟨rfl,rfl⟩)
  |(refine wpList_load_row rfl 239 (.tmp 2) rfl w.heap.size rfl 239 b (0,0) _ k.out Tryz.underlying239 rfl d.out ?_)
  |((with_reducible apply aAa (.tmp 4) (.tmp 9));refine wpList_store_row rfl 239 (.tmp 4) (.tmp 9) rfl (w.heap.size+1) b rfl rfl 239 zL.toArray g.out d.out j.out l.out ?_)
  |fail)
 refine bodyPost_ret (v:= .agg b) (by exact results_cell_row Tryz.results221 _ _ (w.heap.size+1) 239 _ (0,0) _ rfl (setRow_heap _ (w.heap.size+1) _ _ _ (0,0) g.out) Tryz.underlying239 rfl d.out) rfl ?_
 exact⟨rfl,below_setRow b2.out (by omega) b⟩
end Rh
end Go.Proofs.YtlelnfokffflnaaGreat
