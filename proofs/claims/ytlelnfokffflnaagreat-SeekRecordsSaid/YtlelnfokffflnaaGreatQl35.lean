/-
  Texts beneath the proof.
-/
import Derived.Test.YtlelnfokffflnaaGreatQl34
set_option linter.unusedVariables false
set_option linter.unusedSimpArgs false
set_option maxRecDepth 100000
set_option maxHeartbeats 4000000
open Go.ChangeShapes Go.WideShapes Go.ChangeAt Go.RowKit
namespace Go.Proofs.YtlelnfokffflnaaGreat
namespace Ro
open Bytes8 Blk8 Own8 OwnE Rows2 Ob Ga Gb Gi Ok7 Np Nr Pr8 Rc Rm Rn
open Yp Ye Yg Yh
open Ri (new_ne new_mono)
open Re (aAw aAI)
theorem aHI {w:World}{a:Option Addr}{l:List PR}(h:Prs w a l){s:Nat}(hs: ∀b off,a=some ⟨b,off,none⟩→b≠s)(c:Array Value):Prs (w.setRow s c) a l:=h.keptB (by simp) (fun b off e _=>setRow_other w s b c (hs b off e))
theorem prs_off {w:World}{a:Option Addr}{l:List PR}(h:Prs w a l){g:Nat}(c: ∀b off,a=some ⟨b,off,none⟩→b≠g)(k:Nat)(v:Value):Prs (w.setCell ⟨g,k,none⟩ v) a l:=h.keptB (by simp) (fun b off e _=>Below.heap_setCell w ⟨g,k,none⟩ v b (c b off e))
def ReadR2 (B:Nat)(l:List Int)(a:Nat)(cd:Int)(e:Ending)(w':World):Prop:=
 (cd≠0∧e= .panicked [haltE cd])∨(cd=0∧ ∃A' c',e= .returned (.agg (recL (eNum l a 0) (eNum l a 8) (eNum l a 16) (eK l a) (.slice A' (eN l a) c')).toArray)∧Prs w' A' (prsL (payP l (itA (bodyL l a))) (eN l a))∧NewIn B A')
theorem caught_idle (a:Nat)(w:World):CallsD Tryz.prog 204 #[.pointer (some ⟨a,0,none⟩)] .returning w fun e u' w'=>e= .returned (.tuple #[])∧u'= .returning∧w'=w:=by
 refine callsD_of_wpS Tryz.func204 rfl fun c₀ cs hu=>?_
 apply wpS_seq
 apply wpS_region
 simp[wpOpsS,go_sem,recoverD,hu,Tryz.ntmps204,Exit.thenS]
 refine wpS_of_wp ?_
 go_wp2
 cases c₀
 simp_all[bodyPostS,results,Tryz.results204]
theorem caught_halt (b:Nat)(c y:Int)(a:List PanicEntry)(w:World)(h:Blk w b [.int .i64 y] 3):CallsD Tryz.prog 204 #[.pointer (some ⟨b,0,none⟩)] (.panicking ({v:= .iface 326 (.int .i64 c),recovered:=false}::a)) w fun e u' w'=>e= .returned (.tuple #[])∧u'= .panicking ({v:= .iface 326 (.int .i64 c),recovered:=true}::a)∧w'=w.setCell ⟨b,0,none⟩ (.int .i64 c):=by
 have g:=h.cell (i:=0) rfl
 have f:=h.frozen 0
 have d: ∀w:World,(Instr.typeAssert (.iface 326 (.int .i64 c)) 20 326 true).run Tryz.prog w= .ok (.tuple #[.int .i64 c,.bool true]) w:=fun _=>by kernel_rfl
 refine callsD_of_wpS Tryz.func204 rfl fun c₀ cs hu=>?_
 apply wpS_seq
 apply wpS_region
 simp[wpOpsS,go_sem,recoverD,hu,Tryz.ntmps204,Exit.thenS]
 refine wpS_of_wp ?_
 go_wp2
 cases c₀
 simp_all[bodyPostS,results,Tryz.results204]
attribute [local irreducible] wpList Code.wp
theorem aPb {I:Nat}{h:HD}{A:Option Addr}{n c:Nat}{l:List Int}(a:Nat)(L E:Nat)(w:World)(v:ViewAt w I h A n c l)(C:c≤maxLen)(N:n≤800000)(H:Blk w L [.pointer (some ⟨I,0,none⟩)] 51)(J:Blk w E [.int .u64 (a:Int)] 27):
 Calls Tryz.prog 164 #[.pointer (some ⟨L,0,none⟩),.pointer (some ⟨E,0,none⟩)] w fun e w'=>Below w.heap.size w w'∧ReadR2 w.heap.size l a (rcode h l n a) e w':=by
 have m:=yH ((Below.refl w.heap.size w).alloc (yR _) (.cells zR 70))
 have F:=v.below m.out
 have c2:=(H.alloc (.cells zR 70)).cell (i:=0) rfl
 have X:=(J.alloc (.cells zR 70)).cell (i:=0) rfl
 have t:=yH (aNv a _ F C N)
 have R:=yH (heap_alloc_new w (.cells zR 70))
 have x:=yH (show w.heap.size<(w.alloc (.cells zR 70)).heap.size by simp)
 unfold ReadR at t
 unfold ReadR2
 generalize eNum l a 0=u at*
 generalize eNum l a 8=r at*
 generalize eNum l a 16=f at*
 generalize eK l a=D at*
 generalize eN l a=p at*
 generalize rcode h l n a=cd at*
 generalize prsL (payP l (itA (bodyL l a))) p=Y at*
 clear v F H J
 by_cases y:cd=0
 ·subst y
  go_enter Tryz.func164,Tryz.ntmps164
  go_wp2_with(first
   |(go_at_call 165;(refine t.out.mono ?_);rintro e w3 ⟨b,⟨z,_⟩|⟨_,o,d,rfl,k,g⟩⟩;(exact absurd rfl z);have q:=yH (m.out.trans (b.mono m.out.size));have s:=yH k;have j:=yH g;have G:=yH ((b.block _ x.out).trans R.out);clear b k g)
   |((with_reducible apply aAa (.tmp 2) (.tmp 5));refine wpList_store_row rfl 70 (.tmp 2) (.tmp 5) rfl w.heap.size (recL u r f D (.slice o p d)).toArray rfl rfl 70 zR G.out (by kernel_rfl) rfl (by first|exact aAo _ _ _ _ _ _ _|exact aAo 0 0 0 (fun _=>0) none 0 0) ?_)
   |fail)
  refine bodyPost_ret (v:= .agg (recL u r f D (.slice o p d)).toArray) (by exact results_cell_row Tryz.results164 _ _ w.heap.size 70 _ (0,0) _ rfl (setRow_heap _ w.heap.size _ _ _ (0,0) G.out) Tryz.underlying70 rfl (by kernel_rfl)) rfl ?_
  have V:=below_setRow (B:=w.heap.size) q.out (yR _) (recL u r f D (.slice o p d)).toArray
  exact⟨V,.inr ⟨trivial,o,d,rfl,aHI s.out (new_ne j.out x.out) _,new_mono j.out (Nat.le_of_lt x.out)⟩⟩
 ·go_enter Tryz.func164,Tryz.ntmps164
  go_wp2_with(first
   |(go_at_call 165;(refine t.out.mono ?_);rintro e w3 ⟨b,⟨_,rfl⟩|⟨M,_⟩⟩;rotate_left;(exact absurd M y);have q:=yH (m.out.trans (b.mono m.out.size));clear b)
   |fail)
  exact⟨rfl,q.out,.inl ⟨y,rfl⟩⟩
def AskR (B:Nat)(l:List Int)(a:Nat)(cd:Int)(e:Ending)(w':World):Prop:=
 (cd≠0∧e= .returned (.tuple #[.agg zR,.int .i64 cd]))∨(cd=0∧ ∃A' c',e= .returned (.tuple #[.agg (recL (eNum l a 0) (eNum l a 8) (eNum l a 16) (eK l a) (.slice A' (eN l a) c')).toArray,.int .i64 0])∧Prs w' A' (prsL (payP l (itA (bodyL l a))) (eN l a))∧NewIn B A')
theorem asked_any {Z:Nat}{h:HD}{A:Option Addr}{n c:Nat}{l:List Int}(a:Nat)(N C:Nat)(w:World)(v:ViewAt w Z h A n c l)(M:c≤maxLen)(h8:n≤800000)(D:Blk w N [.pointer (some ⟨Z,0,none⟩)] 51)(H:Blk w C [.int .u64 (a:Int)] 27):
 Calls Tryz.prog 163 #[.func (.func 164) #[] #[.pointer (some ⟨N,0,none⟩),.pointer (some ⟨C,0,none⟩)]] w fun e w'=>Below w.heap.size w w'∧AskR w.heap.size l a (rcode h l n a) e w':=by
 have b1:=yH ((Below.refl w.heap.size w).alloc (yR _) (.cells zR 70))
 have b2:=yH (b1.out.alloc b1.out.size (.cells #[.int .i64 0] 3))
 have X:=v.below b2.out
 have G:=yH (aPb a N C _ X M h8 (D.below b2.out D.lt) (H.below b2.out H.lt))
 have V:(w.alloc (.cells zR 70)).heap.size=w.heap.size+1:=by simp only[World.alloc,Array.size_push]
 have q:((w.alloc (.cells zR 70)).alloc (.cells #[.int .i64 0] 3)).heap.size=w.heap.size+1+1:=by simp only[World.alloc,Array.size_push]
 have Z2:=yH ((Below.heap_alloc (w.alloc (.cells zR 70)) (.cells #[.int .i64 0] 3) w.heap.size (by rw[V];omega)).trans (heap_alloc_new w (.cells zR 70)))
 have Y:=yH (Blk.new_at (w.alloc (.cells zR 70)) [.int .i64 0] 3 _ V)
 have aa: ∀(fn:Fn) (first cap:Array Value) (w:World),(Instr.makeFunc fn first cap).run Tryz.prog w= .ok (.func fn first cap) w:=fun _ _ _ _=>rfl
 unfold ReadR2 at G
 unfold AskR
 generalize eNum l a 0=u at*
 generalize eNum l a 8=t at*
 generalize eNum l a 16=g at*
 generalize eK l a=y at*
 generalize eN l a=r at*
 generalize rcode h l n a=cd at*
 generalize prsL (payP l (itA (bodyL l a))) r=pr at*
 clear v X D H
 by_cases J:cd=0
 ·subst J
  go_enter_defers Tryz.func163,Tryz.ntmps163
  go_wp2_with(first
   |(go_at_call 164;(refine G.out.mono ?_);rintro e w3 ⟨b,⟨L,_⟩|⟨_,k,d,rfl,o,m⟩⟩;(exact absurd rfl L);have z:=yH (b2.out.trans (b.mono b2.out.size));have E:=yH o;have j:=yH (show NewIn (w.heap.size+1+1) k from q▸m);have s:=yH ((b.block _ (by rw[q];omega)).trans Z2.out);have x:=yH (Y.out.below b (by rw[q];omega));clear b o m)
   |((with_reducible apply aAa (.tmp 2) (.tmp 6));refine wpList_store_row rfl 70 (.tmp 2) (.tmp 6) rfl w.heap.size (recL u t g y (.slice k r d)).toArray rfl rfl 70 zR s.out (by kernel_rfl) rfl (by first|exact aAo _ _ _ _ _ _ _|exact aAo 0 0 0 (fun _=>0) none 0 0) ?_;have I:=yH (show Blk (w3.setRow w.heap.size (recL u t g y (.slice k r d)).toArray) (w.heap.size+1) [.int .i64 0] 3 from(setRow_other w3 w.heap.size (w.heap.size+1) _ (Nat.succ_ne_self _)).trans x.out);have c4:=I.out.cell (i:=0) rfl;have z4:=I.out.frozen 0)
   |fail)
  refine leaves_cons (f:=204) (args:= #[.pointer (some ⟨w.heap.size+1,0,none⟩)]) (by simp) (by simp[go_sem]) ?_
  refine(caught_idle _ _).mono ?_
  rintro e u' F ⟨rfl,rfl,rfl⟩
  have R:=(below_setRow (B:=w.heap.size) z.out (yR _) (recL u t g y (.slice k r d)).toArray).setCell (p:=⟨w.heap.size+1,0,none⟩) (Nat.le_succ _) (.int .i64 0)
  exact⟨.tuple #[.agg (recL u t g y (.slice k r d)).toArray,.int .i64 0],(by exact aAw Tryz.results163 _ _ w.heap.size (w.heap.size+1) 70 _ (0,0) _ _ rfl rfl ((Below.heap_setCell _ _ _ _ (Nat.succ_ne_self _).symm).trans (setRow_heap _ w.heap.size _ _ _ (0,0) s.out)) Tryz.underlying70 rfl (by kernel_rfl) (aAI _ _ _ (I.out.set_ 0 _))),R,.inr ⟨trivial,k,d,rfl,prs_off (aHI E.out (new_ne j.out (by omega)) _) (new_ne j.out (by omega)) _ _,new_mono j.out (by omega)⟩⟩
 ·go_enter_defers Tryz.func163,Tryz.ntmps163
  go_wp2_with(first
   |(go_at_call 164;(refine G.out.mono ?_);rintro e w3 ⟨b,⟨_,rfl⟩|⟨he,_⟩⟩;rotate_left;(exact absurd he J);have z:=yH (b2.out.trans (b.mono b2.out.size));have s:=yH ((b.block _ (by rw[q];omega)).trans Z2.out);have x:=yH (Y.out.below b (by rw[q];omega));clear b)
   |fail)
  refine leaves_cons (f:=204) (args:= #[.pointer (some ⟨w.heap.size+1,0,none⟩)]) (by simp) (by simp[go_sem]) ?_
  refine(caught_halt _ cd 0 [] _ x.out).mono ?_
  rintro e u' F ⟨rfl,rfl,rfl⟩
  have R:=z.out.setCell (p:=⟨w.heap.size+1,0,none⟩) (Nat.le_succ _) (.int .i64 cd)
  exact⟨.tuple #[.agg zR,.int .i64 cd],(by exact aAw Tryz.results163 _ _ w.heap.size (w.heap.size+1) 70 _ (0,0) _ _ rfl rfl ((Below.heap_setCell _ _ _ _ (Nat.succ_ne_self _).symm).trans s.out) Tryz.underlying70 rfl (by kernel_rfl) (aAI _ _ _ (x.out.set_ 0 _))),R,.inl ⟨J,rfl⟩⟩
theorem aP4 {f:Nat}{h:HD}{A:Option Addr}{n c:Nat}{l:List Int}(a:Nat)(w:World)(v:ViewAt w f h A n c l)(F:c≤maxLen)(V:n≤800000):
 Calls Tryz.prog 126 #[.pointer (some ⟨f,0,none⟩),.int .u64 (a:Int)] w fun e w'=>Below w.heap.size w w'∧AskR w.heap.size l a (rcode h l n a) e w':=by
 have J:=yH ((Below.refl w.heap.size w).alloc (yR _) (.cells #[.pointer (some ⟨f,0,none⟩)] 51))
 have b2:=yH (J.out.alloc J.out.size (.cells #[.int .u64 (a:Int)] 27))
 have m:=yH (b2.out.alloc b2.out.size (.cells zR 70))
 have M:=v.below m.out
 have R:(w.alloc (.cells #[.pointer (some ⟨f,0,none⟩)] 51)).heap.size=w.heap.size+1:=by simp only[World.alloc,Array.size_push]
 have Y:((w.alloc (.cells #[.pointer (some ⟨f,0,none⟩)] 51)).alloc (.cells #[.int .u64 (a:Int)] 27)).heap.size=w.heap.size+1+1:=by simp only[World.alloc,Array.size_push]
 have t:(((w.alloc (.cells #[.pointer (some ⟨f,0,none⟩)] 51)).alloc (.cells #[.int .u64 (a:Int)] 27)).alloc (.cells zR 70)).heap.size=w.heap.size+1+1+1:=by simp only[World.alloc,Array.size_push]
 have L:=((Blk.new w [.pointer (some ⟨f,0,none⟩)] 51).alloc (.cells #[.int .u64 (a:Int)] 27)).alloc (.cells zR 70)
 have I:=(Blk.new_at (w.alloc (.cells #[.pointer (some ⟨f,0,none⟩)] 51)) [.int .u64 (a:Int)] 27 _ R).alloc (.cells zR 70)
 have z:=yH (asked_any a w.heap.size (w.heap.size+1) _ M F V L I)
 have H:=yH (show(((w.alloc (.cells #[.pointer (some ⟨f,0,none⟩)] 51)).alloc (.cells #[.int .u64 (a:Int)] 27)).alloc (.cells zR 70)).heap[w.heap.size+1+1]? =some (.cells zR 70 (0,0))from Y▸heap_alloc_new _ (.cells zR 70))
 have X: ∀(fn:Fn) (first cap:Array Value) (w:World),(Instr.makeFunc fn first cap).run Tryz.prog w= .ok (.func fn first cap) w:=fun _ _ _ _=>rfl
 unfold AskR at z⊢
 generalize eNum l a 0=C at*
 generalize eNum l a 8=u at*
 generalize eNum l a 16=i at*
 generalize eK l a=G at*
 generalize eN l a=r at*
 generalize rcode h l n a=cd at*
 generalize prsL (payP l (itA (bodyL l a))) r=Z at*
 clear v M L I
 by_cases D:cd=0
 ·subst D
  go_enter Tryz.func126,Tryz.ntmps126
  go_wp2_with(first
   |(go_at_call 163;(refine z.out.mono ?_);rintro e w4 ⟨b,⟨E,_⟩|⟨_,p,d,rfl,o,j⟩⟩;(exact absurd rfl E);have y:=yH (m.out.trans (b.mono m.out.size));have x:=yH o;have q:=yH (show NewIn (w.heap.size+1+1+1) p from t▸j);have k:=yH ((b.block _ (by rw[t];omega)).trans H.out);clear b o j)
   |((with_reducible apply aAa (.tmp 4) (.tmp 8));refine wpList_store_row rfl 70 (.tmp 4) (.tmp 8) rfl (w.heap.size+1+1) (recL C u i G (.slice p r d)).toArray rfl rfl 70 zR k.out (by kernel_rfl) rfl (by first|exact aAo _ _ _ _ _ _ _|exact aAo 0 0 0 (fun _=>0) none 0 0) ?_)
   |fail)
  refine bodyPost_ret (v:= .tuple #[.agg (recL C u i G (.slice p r d)).toArray,.int .i64 0]) (by exact aAq Tryz.results126 _ _ (w.heap.size+1+1) 70 _ (0,0) _ _ rfl rfl (setRow_heap _ (w.heap.size+1+1) _ _ _ (0,0) k.out) Tryz.underlying70 rfl (by kernel_rfl)) rfl ?_
  have s:=below_setRow (B:=w.heap.size) (g:=w.heap.size+1+1) y.out (by omega) (recL C u i G (.slice p r d)).toArray
  exact⟨s,.inr ⟨trivial,p,d,rfl,aHI x.out (new_ne q.out (by omega)) _,new_mono q.out (by omega)⟩⟩
 ·go_enter Tryz.func126,Tryz.ntmps126
  go_wp2_with(first
   |(go_at_call 163;(refine z.out.mono ?_);rintro e w4 ⟨b,⟨_,rfl⟩|⟨N,_⟩⟩;rotate_left;(exact absurd N D);have y:=yH (m.out.trans (b.mono m.out.size));have k:=yH ((b.block _ (by rw[t];omega)).trans H.out);clear b)
   |((with_reducible apply aAa (.tmp 4) (.tmp 8));refine wpList_store_row rfl 70 (.tmp 4) (.tmp 8) rfl (w.heap.size+1+1) zR rfl rfl 70 zR k.out (by kernel_rfl) rfl (by first|exact aAo _ _ _ _ _ _ _|exact aAo 0 0 0 (fun _=>0) none 0 0) ?_)
   |fail)
  refine bodyPost_ret (v:= .tuple #[.agg zR,.int .i64 cd]) (by exact aAq Tryz.results126 _ _ (w.heap.size+1+1) 70 _ (0,0) _ _ rfl rfl (setRow_heap _ (w.heap.size+1+1) _ _ _ (0,0) k.out) Tryz.underlying70 rfl (by kernel_rfl)) rfl ?_
  have s:=below_setRow (B:=w.heap.size) (g:=w.heap.size+1+1) y.out (by omega) zR
  exact⟨s,.inl ⟨D,rfl⟩⟩
end Ro
namespace Rq
attribute [local irreducible] wpList Code.wp
end Rq
namespace Zs
attribute [local irreducible] wpList Code.wp
end Zs
namespace Rr
open Bytes8 Blk8 OwnE Ob Ga Gb Ma Na Np Nr Pr8 Nt Nu Rc Rk Rm Rn
open Yp Ye Yg Yh Ri
open Rd (dcode dz)
open Go1 (hcode rhd aBK HTold magicB)
theorem aQu {l:List Int}{a:Nat}(h:AllB l):IdOk (eK l a):=by
 unfold eK
 split
 ·exact aOp (by
   unfold bodyL
   exact(h.drop _).take _)
 ·exact fun _=>⟨Int.le_refl _,by show(0:Int)<256;decide⟩
structure RecP where
 s:Int
 r:Int
 m:Int
 K:Nat→Int
 n:Nat
 pl:List PR
def recP (h:HD)(l:List Int)(n a:Nat):RecP:=if rcode h l n a=0 then⟨eNum l a 0,eNum l a 8,eNum l a 16,eK l a,eN l a,prsL (payP l (itA (bodyL l a))) (eN l a)⟩else⟨0,0,0,fun _=>0,0,[]⟩
structure RecP.Ok (p:RecP):Prop where
 K:IdOk p.K
 len:p.pl.length=p.n
 n:p.n≤1000000
theorem aHJ {h:HD}{l:List Int}{n a:Nat}(f:rcode h l n a=0):eN l a≤16:=by
 rcases Nat.lt_or_ge 16 (eN l a)with d|d
 ·have k:=aLo h l n (ecode9 h l n a) (eN l a) (itA (bodyL l a)) (itH (bodyL l a)) (eNum l a 40)
  by_cases c:ecode9 h l n a=0
  ·have:=k.b c d
   have e:rcode h l n a=21:=this
   rw[f]at e;cases e
  ·have e:rcode h l n a=ecode9 h l n a:=k.a c
   rw[f]at e
   exact absurd e.symm c
 ·exact d
theorem aLp (h:HD){l:List Int}(n a:Nat)(c:AllB l):(recP h l n a).Ok:=by
 unfold recP
 by_cases b:rcode h l n a=0
 ·rw[if_pos b]
  exact⟨aQu c,aIL _ _,by have:=aHJ b;show eN l a≤_;omega⟩
 ·rw[if_neg b]
  exact⟨fun _=>⟨Int.le_refl _,by show(0:Int)<256;decide⟩,rfl,Nat.zero_le _⟩
abbrev RecP.v (p:RecP)(F:Option Addr)(c:Nat):Value:= .agg (recL p.s p.r p.m p.K (.slice F p.n c)).toArray
def TellR (p:RecP)(cd:Int)(w:World)(e:Ending)(w':World):Prop:= ∃F c,e= .returned (.tuple #[p.v F c,.int .i64 cd])∧Prs w' F p.pl∧Below w.heap.size w w'
def payT (h:HD)(l:List Int)(n a:Nat):List Int:=if hcode9 h l n a=0 then bpay l a 1 6 else []
attribute [local irreducible] HD.cells wpList Code.wp
end Rr
namespace Va
open Bytes8 Blk8 Own8 OwnE Rows2 Ob Ga Gb Gi Oj Ok7 Ol7 Np Pr8 Rc Rm Rr
open Yc Yp Yd Ye Yg Yh Yn Ym
open Rd (dcode dz)
open Rg (arcode az AskA aOi)
open Ri (ecode9 ez)
structure ViewR (w:World)(gv:Nat)(h:HD)(d:Int)(A:Option Addr)(n c:Nat)(l:List Int):Prop where
 blk:Blk w gv (h.cells 20++ [.int .u64 d,.slice A n c]) 101
 by_:Bytes w A l
 len:l.length=n
 cap:n≤c
 capm:c≤maxLen
 big:n≤800000
 ok:h.Ok 21
theorem ViewR.below {w w':World}{b:Nat}{h:HD}{d:Int}{A:Option Addr}{n c:Nat}{l:List Int}(v:ViewR w b h d A n c l)(a:Below w.heap.size w w'):ViewR w' b h d A n c l:=
 ⟨v.blk.below a v.blk.lt,v.by_.below a (yR _),v.len,v.cap,v.capm,v.big,v.ok⟩
theorem aFI (h:HD)(d:Int)(b:Value)(i:Nat)(a:i<20):(h.cells 20++ [.int .u64 d,b])[67+i]? =some (.int .u64 (h.N i)):=by
 rw[List.getElem?_append_left (by rw[HD.len];omega)]
 exact h.get_N 20 i a
theorem aFJ (h:HD)(d:Int)(b:Value):(h.cells 20++ [.int .u64 d,b])[91]? =some b:=by
 rw[List.getElem?_append_right (by rw[HD.len];omega),HD.len]
 rfl
abbrev rng (h:HD)(n a:Nat):Prop:=h.N 0≤(a:Int)∧a<n
def dN (h:HD)(l:List Int)(n a i:Nat):Int:=if rng h n a then bnum l a 1 6 i else 0
def dP (h:HD)(l:List Int)(n a:Nat):List Int:=if rng h n a then bpay l a 1 6 else []
def TellD (B:Nat)(h:HD)(l:List Int)(n a:Nat)(w:World)(e:Ending)(w':World):Prop:=Below w.heap.size w w'∧ ∃A' m c,e= .returned (.tuple #[dataV (dN h l n a 0) (dN h l n a 1) (dN h l n a 2) (dN h l n a 3) (dN h l n a 4) (dN h l n a 5) A' m c,.int .i64 (dcode h l n a)])∧Bytes w' A' (dP h l n a)∧(dP h l n a).length=m∧Cap B A' m c
def eN9 (h:HD)(l:List Int)(n a i:Nat):Int:=if rng h n a then eNum l a i else 0
def eK9 (h:HD)(l:List Int)(n a:Nat):Nat→Int:=if rng h n a then eK l a else fun _=>0
def eC9 (h:HD)(l:List Int)(n a:Nat):Nat:=if rng h n a then eN l a else 0
def TellE (B:Nat)(h:HD)(l:List Int)(n a:Nat)(w:World)(e:Ending)(w':World):Prop:=Below w.heap.size w w'∧ ∃A' c,e= .returned (.tuple #[entV (eN9 h l n a 0) (eN9 h l n a 8) (eN9 h l n a 16) (eK9 h l n a) (eN9 h l n a 40) A' (eC9 h l n a) c,.int .i64 (ecode9 h l n a)])∧In2 w' A' (eC9 h l n a) (itA (bodyL l a)) (itH (bodyL l a))∧NewIn B A'
def aX9 (h:HD)(l:List Int)(n a:Nat):Int:=if rng h n a then arX l a else 0
def aC9 (h:HD)(l:List Int)(n a:Nat):Nat:=if rng h n a then arM l a else 0
def TellA (B:Nat)(h:HD)(l:List Int)(n a:Nat)(w:World)(e:Ending)(w':World):Prop:=Below w.heap.size w w'∧ ∃A' c,e= .returned (.tuple #[arrV (aX9 h l n a) A' (aC9 h l n a) c,.int .i64 (arcode h l n a)])∧InInts .u64 w' A' (aC9 h l n a) (arF (bodyL l a))∧NewIn B A'
theorem aCO (B:Nat):NewIn B none:=fun b off e=>by cases e
theorem aFK (B:Nat):Cap B none 0 0:=⟨by decide,by decide,by decide,fun b off e=>by cases e⟩
theorem aPc {j:Nat}{h:HD}{A:Option Addr}{n c:Nat}{l:List Int}(a:Nat)(w:World)(v:ViewAt w j h A n c l)(g:c≤maxLen):
 Calls Tryz.prog 141 #[.pointer (some ⟨j,0,none⟩),.int .u64 (a:Int)] w (TellA w.heap.size h l n a w):=by
 refine(aOi a w v g).mono ?_
 rintro e w' ⟨o,k⟩
 refine⟨o,?_⟩
 unfold aX9 aC9 arcode
 by_cases d:rng h n a
 ·rcases k with⟨b,rfl⟩|⟨b,s,r,rfl,t,m⟩
  ·have f:arcode h l n a=ecode l a 6 8 8:=if_pos d
   rw[f]at b
   have q:arX l a=0:=if_neg b
   have p:arM l a=0:=if_neg b
   simp only[if_pos d,q,p]
   rw[f]
   exact⟨none,0,rfl,fun i hi=>absurd hi (Nat.not_lt_zero i),aCO _⟩
  ·have f:arcode h l n a=ecode l a 6 8 8:=if_pos d
   rw[f]at b
   simp only[if_pos d]
   rw[b]
   exact⟨s,r,rfl,t,m⟩
 ·rcases k with⟨b,rfl⟩|⟨b,_⟩
  ·simp only[if_neg d]
   rw[show arcode h l n a=2 from if_neg d]
   exact⟨none,0,rfl,fun i hi=>absurd hi (Nat.not_lt_zero i),aCO _⟩
  ·rw[show arcode h l n a=2 from if_neg d]at b;cases b
theorem aLq {w:World}{A:Option Addr}{l:List Int}(h:Bytes w A l){s:Nat}(hs: ∀b off,A=some ⟨b,off,none⟩→b≠s)(a:Array Value):Bytes (w.setRow s a) A l:=aBe h (by simp) (fun b off e _=>setRow_other w s b a (hs b off e))
attribute [local irreducible] HD.cells wpList Code.wp
theorem aEq {a:Nat}{h:HD}{d:Int}{A:Option Addr}{n c:Nat}{l:List Int}(w:World)(v:ViewR w a h d A n c l):Calls Tryz.prog 92 #[.pointer (some ⟨a,0,none⟩)] w fun e w'=>e= .returned (.int .u64 (n:Int))∧w=w':=by
 have b:=v.blk.cell (aFJ _ _ _)
 have f:=v.big
 have g:IntKind.u64.wrap (n:Int)=(n:Int):=by rw[IntKind.wrap_u64];omega
 clear v
 go_enter Tryz.func92,Tryz.ntmps92
 go_wp2
 go_ret
 exact⟨rfl,rfl⟩
theorem aLr {f:Nat}{h:HD}{d:Int}{A:Option Addr}{n c:Nat}{l:List Int}(a:Nat)(w:World)(v:ViewR w f h d A n c l)(b:rng h n a):Calls Tryz.prog 102 #[.pointer (some ⟨f,0,none⟩),.int .u64 (a:Int)] w fun e w'=>e= .returned (.int .i64 0)∧w=w':=by
 have i:w.cell? ⟨f,67,none⟩=some (.int .u64 (h.N 0)):=v.blk.cell (aFI _ _ _ 0 (by decide))
 have g:=yH (aEq w v)
 have k:decide ((a:Int)<h.N 0)=false:=by have:=b.1;simp;omega
 have j:decide ((a:Int)≥(n:Int))=false:=by have:=b.2;simp;omega
 have m:decide (n≤a)=false:=by have:=b.2;simp;omega
 clear v b
 go_enter Tryz.func102,Tryz.ntmps102
 go_wp2_with(first
  |(go_at_call 92;(refine g.out.mono ?_);rintro e w1 ⟨rfl,rfl⟩)
  |fail)
 go_ret
 exact⟨rfl,rfl⟩
theorem aPd {g:Nat}{h:HD}{d:Int}{A:Option Addr}{n c:Nat}{l:List Int}(a:Nat)(w:World)(v:ViewR w g h d A n c l)(b: ¬rng h n a):Calls Tryz.prog 102 #[.pointer (some ⟨g,0,none⟩),.int .u64 (a:Int)] w fun e w'=>e= .returned (.int .i64 2)∧w=w':=by
 have k:w.cell? ⟨g,67,none⟩=some (.int .u64 (h.N 0)):=v.blk.cell (aFI _ _ _ 0 (by decide))
 have j:=yH (aEq w v)
 clear v
 by_cases f:h.N 0≤(a:Int)
 ·have i:decide ((a:Int)<h.N 0)=false:=by simp;omega
  have m:decide ((a:Int)≥(n:Int))=true:=by
   have: ¬a<n:=fun h4=>b ⟨f,h4⟩
   simp;omega
  have o:decide (n≤a)=true:=by
   have: ¬a<n:=fun h4=>b ⟨f,h4⟩
   simp;omega
  clear b f
  go_enter Tryz.func102,Tryz.ntmps102
  go_wp2_with(first
   |(go_at_call 92;(refine j.out.mono ?_);rintro e w1 ⟨rfl,rfl⟩)
   |fail)
  go_ret
  exact⟨rfl,rfl⟩
 ·have i:decide ((a:Int)<h.N 0)=true:=by simp;omega
  clear b f
  go_enter Tryz.func102,Tryz.ntmps102
  go_wp2_with fail
  go_ret
  exact⟨rfl,rfl⟩
theorem aLs {E:Nat}{h:HD}{d:Int}{A:Option Addr}{n c:Nat}{l:List Int}(a:Nat)(w:World)(v:ViewR w E h d A n c l):
 Calls Tryz.prog 46 #[.pointer (some ⟨E,0,none⟩),.int .u64 (a:Int)] w (TellD w.heap.size h l n a w):=by
 have o:=yH ((Below.refl w.heap.size w).alloc (yR _) (.cells dz 110))
 have f:=v.below o.out
 have J:=f.blk.cell (aFJ _ _ _)
 have u:=yH (heap_alloc_new w (.cells dz 110))
 have t:=yH (show w.heap.size<(w.alloc (.cells dz 110)).heap.size by simp)
 unfold TellD
 by_cases g:rng h n a
 ·have y:=yH (aLr a _ f g)
  have z:=yH (aH4 A l n c a _ f.by_ f.len (by have:=f.big;omega) f.cap f.capm (by have:=f.big;have:=g.2;omega))
  unfold DataTold2 at z
  unfold dN dP dcode
  simp only[if_pos g]
  clear v f g
  generalize bnum l a 1 6 0=C at*
  generalize bnum l a 1 6 1=D at*
  generalize bnum l a 1 6 2=B at*
  generalize bnum l a 1 6 3=I at*
  generalize bnum l a 1 6 4=F at*
  generalize bnum l a 1 6 5=H at*
  generalize bcode l a 1 6=cd at*
  generalize bpay l a 1 6=M at*
  go_enter Tryz.func46,Tryz.ntmps46
  go_wp2_with(first
   |(go_at_call 102;(refine y.out.mono ?_);rintro e w1 ⟨rfl,rfl⟩)
   |(go_at_call 103;(refine z.out.mono ?_);rintro e w2 ⟨s,r,x,rfl,i,k,p,j⟩;have L:=yH (o.out.trans (i.mono o.out.size));have G:=yH ((i.block _ t.out).trans u.out);have q:=yH k;have m:=yH j;clear k j;clear i)
   |((with_reducible apply aAa (.tmp 4) (.tmp 20));refine wpList_store_row rfl 110 (.tmp 4) (.tmp 20) rfl w.heap.size #[.int .u64 C,.int .u64 D,.int .u64 B,.int .u64 I,.int .u64 F,.int .u64 H,.slice s r x] rfl rfl 110 dz G.out (by kernel_rfl) rfl (by simp[Value.oneCell']) ?_)
   |fail)
  refine bodyPost_ret (v:= .tuple #[dataV C D B I F H s r x,.int .i64 cd]) (by exact aAq Tryz.results46 _ _ w.heap.size 110 _ (0,0) _ _ rfl rfl (setRow_heap _ w.heap.size _ _ _ (0,0) G.out) Tryz.underlying110 rfl (by kernel_rfl)) rfl ?_
  exact⟨below_setRow L.out (yR _) _,s,r,x,rfl,aLq q.out (fun b off e=>Nat.ne_of_gt (yL t.out (m.out.2.2.2 b off e))) _,p,m.out.mono (Nat.le_of_lt t.out)⟩
 ·have y:=yH (aPd a _ f g)
  unfold dN dP dcode
  simp only[if_neg g]
  clear v f g
  go_enter Tryz.func46,Tryz.ntmps46
  go_wp2_with(first
   |(go_at_call 102;(refine y.out.mono ?_);rintro e w1 ⟨rfl,rfl⟩)
   |((with_reducible apply aAb 12);refine Yz.wpList_build_as rfl 110 _ rfl dz (by kernel_rfl) ?_)
   |((with_reducible apply aAa (.tmp 4) (.tmp 12));refine wpList_store_row rfl 110 (.tmp 4) (.tmp 12) rfl w.heap.size dz rfl rfl 110 dz u.out (by kernel_rfl) rfl (by simp[Value.oneCell']) ?_)
   |fail)
  refine bodyPost_ret (v:= .tuple #[.agg dz,.int .i64 2]) (by exact aAq Tryz.results46 _ _ w.heap.size 110 _ (0,0) _ _ rfl rfl (setRow_heap _ w.heap.size _ _ _ (0,0) u.out) Tryz.underlying110 rfl (by kernel_rfl)) rfl ?_
  exact⟨below_setRow o.out (yR _) _,none,0,0,rfl,Bytes.nil _ _,rfl,aFK _⟩
theorem aNw {D:Nat}{h:HD}{d:Int}{A:Option Addr}{n c:Nat}{l:List Int}(a:Nat)(w:World)(v:ViewR w D h d A n c l):
 Calls Tryz.prog 98 #[.pointer (some ⟨D,0,none⟩),.int .u64 (a:Int)] w (TellE w.heap.size h l n a w):=by
 have q:=yH ((Below.refl w.heap.size w).alloc (yR _) (.cells ez 179))
 have b:=v.below q.out
 have H:=b.blk.cell (aFJ _ _ _)
 have u:=yH (heap_alloc_new w (.cells ez 179))
 have t:=yH (show w.heap.size<(w.alloc (.cells ez 179)).heap.size by simp)
 unfold TellE
 by_cases f:rng h n a
 ·have y:=yH (aLr a _ b f)
  have z:=yH (aF1 A l n c a _ b.by_ b.len (by have:=b.big;omega) b.cap b.capm (by have:=b.big;have:=f.2;omega))
  unfold EntTold2 at z
  unfold eN9 eK9 eC9 ecode9
  simp only[if_pos f]
  clear v b f
  generalize eNum l a 0=C at*
  generalize eNum l a 8=B at*
  generalize eNum l a 16=p at*
  generalize eNum l a 40=k at*
  generalize eK l a=G at*
  generalize eN l a=F at*
  generalize itA (bodyL l a)=J at*
  generalize itH (bodyL l a)=fh at*
  generalize entC0 l a=cd at*
  go_enter Tryz.func98,Tryz.ntmps98
  go_wp2_with(first
   |(go_at_call 102;(refine y.out.mono ?_);rintro e w1 ⟨rfl,rfl⟩)
   |(go_at_call 151;(refine z.out.mono ?_);rintro e w2 ⟨s,x,rfl,g,o,j⟩;have I:=yH (q.out.trans (g.mono q.out.size));have E:=yH ((g.block _ t.out).trans u.out);have r:=yH o;have m:=yH j;clear o j;clear g)
   |((with_reducible apply aAa (.tmp 4) (.tmp 20));refine wpList_store_row rfl 179 (.tmp 4) (.tmp 20) rfl w.heap.size (entL C B p G k s F x).toArray rfl rfl 179 ez E.out (by kernel_rfl) rfl (by first|exact aBB _ _ _ _ _ _ _ _|exact aCt) ?_)
   |fail)
  refine bodyPost_ret (v:= .tuple #[entV C B p G k s F x,.int .i64 cd]) (by exact aAq Tryz.results98 _ _ w.heap.size 179 _ (0,0) _ _ rfl rfl (setRow_heap _ w.heap.size _ _ _ (0,0) E.out) Tryz.underlying179 rfl (by kernel_rfl)) rfl ?_
  exact⟨below_setRow I.out (yR _) _,s,x,rfl,In2.setRow r.out (Ri.new_ne m.out t.out) _,Ri.new_mono m.out (Nat.le_of_lt t.out)⟩
 ·have y:=yH (aPd a _ b f)
  unfold eN9 eK9 eC9 ecode9
  simp only[if_neg f]
  clear v b f
  go_enter Tryz.func98,Tryz.ntmps98
  go_wp2_with(first
   |(go_at_call 102;(refine y.out.mono ?_);rintro e w1 ⟨rfl,rfl⟩)
   |((with_reducible apply aAb 12);refine Yz.wpList_build_as rfl 179 _ rfl ez (by kernel_rfl) ?_)
   |((with_reducible apply aAa (.tmp 4) (.tmp 12));refine wpList_store_row rfl 179 (.tmp 4) (.tmp 12) rfl w.heap.size ez rfl rfl 179 ez u.out (by kernel_rfl) rfl (by first|exact aCt|exact aBB _ _ _ _ _ _ _ _) ?_)
   |fail)
  refine bodyPost_ret (v:= .tuple #[.agg ez,.int .i64 2]) (by exact aAq Tryz.results98 _ _ w.heap.size 179 _ (0,0) _ _ rfl rfl (setRow_heap _ w.heap.size _ _ _ (0,0) u.out) Tryz.underlying179 rfl (by kernel_rfl)) rfl ?_
  exact⟨below_setRow q.out (yR _) _,none,0,rfl,fun i hi=>absurd hi (Nat.not_lt_zero i),aCO _⟩
theorem aNx {y:Nat}{h:HD}{d:Int}{A:Option Addr}{n c:Nat}{l:List Int}(a:Nat)(w:World)(v:ViewR w y h d A n c l):
 Calls Tryz.prog 99 #[.pointer (some ⟨y,0,none⟩),.int .u64 (a:Int)] w (TellA w.heap.size h l n a w):=by
 have o:=yH ((Below.refl w.heap.size w).alloc (yR _) (.cells az 198))
 have b:=v.below o.out
 have D:=b.blk.cell (aFJ _ _ _)
 have r:=yH (heap_alloc_new w (.cells az 198))
 have q:=yH (show w.heap.size<(w.alloc (.cells az 198)).heap.size by simp)
 unfold TellA
 by_cases f:rng h n a
 ·have u:=yH (aLr a _ b f)
  have x:=yH (aF0 A l n c a _ b.by_ b.len (by have:=b.big;omega) b.cap b.capm (by have:=b.big;have:=f.2;omega))
  unfold ArrTold2 at x
  unfold aX9 aC9 arcode
  simp only[if_pos f]
  clear v b f
  generalize arX l a=B at*
  generalize arM l a=C at*
  generalize arF (bodyL l a)=F at*
  generalize ecode l a 6 8 8=cd at*
  go_enter Tryz.func99,Tryz.ntmps99
  go_wp2_with(first
   |(go_at_call 102;(refine u.out.mono ?_);rintro e w1 ⟨rfl,rfl⟩)
   |(go_at_call 152;(refine x.out.mono ?_);rintro e w2 ⟨p,s,rfl,g,j,k⟩;have E:=yH (o.out.trans (g.mono o.out.size));have z:=yH ((g.block _ q.out).trans r.out);have t:=yH j;have m:=yH k;clear j k;clear g)
   |((with_reducible apply aAa (.tmp 4) (.tmp 20));refine wpList_store_row rfl 198 (.tmp 4) (.tmp 20) rfl w.heap.size #[.int .u64 B,.slice p C s] rfl rfl 198 az z.out (by kernel_rfl) rfl (by simp[Value.oneCell']) ?_)
   |fail)
  refine bodyPost_ret (v:= .tuple #[arrV B p C s,.int .i64 cd]) (by exact aAq Tryz.results99 _ _ w.heap.size 198 _ (0,0) _ _ rfl rfl (setRow_heap _ w.heap.size _ _ _ (0,0) z.out) Tryz.underlying198 rfl (by kernel_rfl)) rfl ?_
  exact⟨below_setRow E.out (yR _) _,p,s,rfl,InInts.setRow t.out (Ri.new_ne m.out q.out) _,Ri.new_mono m.out (Nat.le_of_lt q.out)⟩
 ·have u:=yH (aPd a _ b f)
  unfold aX9 aC9 arcode
  simp only[if_neg f]
  clear v b f
  go_enter Tryz.func99,Tryz.ntmps99
  go_wp2_with(first
   |(go_at_call 102;(refine u.out.mono ?_);rintro e w1 ⟨rfl,rfl⟩)
   |((with_reducible apply aAb 12);refine Yz.wpList_build_as rfl 198 _ rfl az (by kernel_rfl) ?_)
   |((with_reducible apply aAa (.tmp 4) (.tmp 12));refine wpList_store_row rfl 198 (.tmp 4) (.tmp 12) rfl w.heap.size az rfl rfl 198 az r.out (by kernel_rfl) rfl (by simp[Value.oneCell']) ?_)
   |fail)
  refine bodyPost_ret (v:= .tuple #[.agg az,.int .i64 2]) (by exact aAq Tryz.results99 _ _ w.heap.size 198 _ (0,0) _ _ rfl rfl (setRow_heap _ w.heap.size _ _ _ (0,0) r.out) Tryz.underlying198 rfl (by kernel_rfl)) rfl ?_
  exact⟨below_setRow o.out (yR _) _,none,0,rfl,fun i hi=>absurd hi (Nat.not_lt_zero i),aCO _⟩
end Va
end Go.Proofs.YtlelnfokffflnaaGreat
