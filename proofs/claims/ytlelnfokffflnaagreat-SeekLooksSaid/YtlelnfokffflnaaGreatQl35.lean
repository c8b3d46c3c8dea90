/-
  Texts beneath the proof.
-/
import Derived.Test.YtlelnfokffflnaaGreatQl34
set_option linter.unusedVariables false
set_option linter.unusedSimpArgs false
set_option maxRecDepth 100000
set_option maxHeartbeats 4000000
open Go.ChangeShapes Go.WideShapes Go.ChangeAt Go.RowKit
namespace Go.Proofs.YtlelnfokffflnaaGreat
namespace Ro
open Bytes8 Blk8 Own8 OwnE Rows2 Ob Ga Gb Gi Ok7 Np Nr Pr8 Rc Rm Rn
open Yp Ye Yg Yh
open Ri (new_ne new_mono)
open Re (aAw aAI)
theorem aHI {w:World}{a:Option Addr}{l:List PR}(h:Prs w a l){s:Nat}(hs: ∀b off,a=some ⟨b,off,none⟩→b≠s)(c:Array Value):Prs (w.setRow s c) a l:=h.keptB (by simp) (fun b off e _=>setRow_other w s b c (hs b off e))
theorem prs_off {w:World}{a:Option Addr}{l:List PR}(h:Prs w a l){g:Nat}(c: ∀b off,a=some ⟨b,off,none⟩→b≠g)(k:Nat)(v:Value):Prs (w.setCell ⟨g,k,none⟩ v) a l:=h.keptB (by simp) (fun b off e _=>Below.heap_setCell w ⟨g,k,none⟩ v b (c b off e))
def ReadR2 (B:Nat)(l:List Int)(a:Nat)(cd:Int)(e:Ending)(w':World):Prop:=
 (cd≠0∧e= .panicked [haltE cd])∨(cd=0∧ ∃A' c',e= .returned (.agg (recL (eNum l a 0) (eNum l a 8) (eNum l a 16) (eK l a) (.slice A' (eN l a) c')).toArray)∧Prs w' A' (prsL (payP l (itA (bodyL l a))) (eN l a))∧NewIn B A')
theorem caught_idle (b:Nat)(w:World):CallsD Tryz.prog 204 #[.pointer (some ⟨b,0,none⟩)] .returning w fun e u' w'=>e= .returned (.tuple #[])∧u'= .returning∧w'=w:=by
 refine callsD_of_wpS Tryz.func204 rfl fun c₀ cs hu=>?_
 apply wpS_seq
 apply wpS_region
 simp[wpOpsS,go_sem,recoverD,hu,Tryz.ntmps204,Exit.thenS]
 refine wpS_of_wp ?_
 go_wp2
 cases c₀
 simp_all[bodyPostS,results,Tryz.results204]
theorem caught_halt (d:Nat)(c y:Int)(b:List PanicEntry)(w:World)(h:Blk w d [.int .i64 y] 3):CallsD Tryz.prog 204 #[.pointer (some ⟨d,0,none⟩)] (.panicking ({v:= .iface 326 (.int .i64 c),recovered:=false}::b)) w fun e u' w'=>e= .returned (.tuple #[])∧u'= .panicking ({v:= .iface 326 (.int .i64 c),recovered:=true}::b)∧w'=w.setCell ⟨d,0,none⟩ (.int .i64 c):=by
 have j:=h.cell (i:=0) rfl
 have g:=h.frozen 0
 have f: ∀w:World,(Instr.typeAssert (.iface 326 (.int .i64 c)) 20 326 true).run Tryz.prog w= .ok (.tuple #[.int .i64 c,.bool true]) w:=fun _=>by kernel_rfl
 refine callsD_of_wpS Tryz.func204 rfl fun c₀ cs hu=>?_
 apply wpS_seq
 apply wpS_region
 simp[wpOpsS,go_sem,recoverD,hu,Tryz.ntmps204,Exit.thenS]
 refine wpS_of_wp ?_
 go_wp2
 cases c₀
 simp_all[bodyPostS,results,Tryz.results204]
attribute [local irreducible] wpList Code.wp
theorem aPb {F:Nat}{h:HD}{A:Option Addr}{n c:Nat}{l:List Int}(a:Nat)(E L:Nat)(w:World)(v:ViewAt w F h A n c l)(u:c≤maxLen)(M:n≤800000)(H:Blk w E [.pointer (some ⟨F,0,none⟩)] 51)(I:Blk w L [.int .u64 (a:Int)] 27):
 Calls Tryz.prog 164 #[.pointer (some ⟨E,0,none⟩),.pointer (some ⟨L,0,none⟩)] w fun e w'=>Below w.heap.size w w'∧ReadR2 w.heap.size l a (rcode h l n a) e w':=by
 have j:=yH ((Below.refl w.heap.size w).alloc (yR _) (.cells zR 70))
 have G:=v.below j.out
 have c2:=(H.alloc (.cells zR 70)).cell (i:=0) rfl
 have X:=(I.alloc (.cells zR 70)).cell (i:=0) rfl
 have z:=yH (aNv a _ G u M)
 have N:=yH (heap_alloc_new w (.cells zR 70))
 have y:=yH (show w.heap.size<(w.alloc (.cells zR 70)).heap.size by simp)
 unfold ReadR at z
 unfold ReadR2
 generalize eNum l a 0=r at*
 generalize eNum l a 8=C at*
 generalize eNum l a 16=f at*
 generalize eK l a=t at*
 generalize eN l a=p at*
 generalize rcode h l n a=cd at*
 generalize prsL (payP l (itA (bodyL l a))) p=Y at*
 clear v G H I
 by_cases x:cd=0
 ·subst x
  go_enter Tryz.func164,Tryz.ntmps164
  go_wp2_with(first
   |(go_at_call 165;(refine z.out.mono ?_);rintro e w3 ⟨b,⟨s,_⟩|⟨_,o,d,rfl,k,g⟩⟩;(exact absurd rfl s);have D:=yH (j.out.trans (b.mono j.out.size));have q:=yH k;have m:=yH g;have J:=yH ((b.block _ y.out).trans N.out);clear b k g)
   |((with_reducible apply aAa (.tmp 2) (.tmp 5));refine wpList_store_row rfl 70 (.tmp 2) (.tmp 5) rfl w.heap.size (recL r C f t (.slice o p d)).toArray rfl rfl 70 zR J.out (by kernel_rfl) rfl (by first|exact aAo _ _ _ _ _ _ _|exact aAo 0 0 0 (fun _=>0) none 0 0) ?_)
   |fail)
  refine bodyPost_ret (v:= .agg (recL r C f t (.slice o p d)).toArray) (by exact results_cell_row Tryz.results164 _ _ w.heap.size 70 _ (0,0) _ rfl (setRow_heap _ w.heap.size _ _ _ (0,0) J.out) Tryz.underlying70 rfl (by kernel_rfl)) rfl ?_
  have V:=below_setRow (B:=w.heap.size) D.out (yR _) (recL r C f t (.slice o p d)).toArray
  exact⟨V,.inr ⟨trivial,o,d,rfl,aHI q.out (new_ne m.out y.out) _,new_mono m.out (Nat.le_of_lt y.out)⟩⟩
 ·go_enter Tryz.func164,Tryz.ntmps164
  go_wp2_with(first
   |(go_at_call 165;(refine z.out.mono ?_);rintro e w3 ⟨b,⟨_,rfl⟩|⟨R,_⟩⟩;rotate_left;(exact absurd R x);have D:=yH (j.out.trans (b.mono j.out.size));clear b)
   |fail)
  exact⟨rfl,D.out,.inl ⟨x,rfl⟩⟩
def AskR (B:Nat)(l:List Int)(a:Nat)(cd:Int)(e:Ending)(w':World):Prop:=
 (cd≠0∧e= .returned (.tuple #[.agg zR,.int .i64 cd]))∨(cd=0∧ ∃A' c',e= .returned (.tuple #[.agg (recL (eNum l a 0) (eNum l a 8) (eNum l a 16) (eK l a) (.slice A' (eN l a) c')).toArray,.int .i64 0])∧Prs w' A' (prsL (payP l (itA (bodyL l a))) (eN l a))∧NewIn B A')
theorem asked_any {Y:Nat}{h:HD}{A:Option Addr}{n c:Nat}{l:List Int}(a:Nat)(z N:Nat)(w:World)(v:ViewAt w Y h A n c l)(E:c≤maxLen)(h8:n≤800000)(F:Blk w z [.pointer (some ⟨Y,0,none⟩)] 51)(H:Blk w N [.int .u64 (a:Int)] 27):
 Calls Tryz.prog 163 #[.func (.func 164) #[] #[.pointer (some ⟨z,0,none⟩),.pointer (some ⟨N,0,none⟩)]] w fun e w'=>Below w.heap.size w w'∧AskR w.heap.size l a (rcode h l n a) e w':=by
 have b1:=yH ((Below.refl w.heap.size w).alloc (yR _) (.cells zR 70))
 have b2:=yH (b1.out.alloc b1.out.size (.cells #[.int .i64 0] 3))
 have X:=v.below b2.out
 have J:=yH (aPb a z N _ X E h8 (F.below b2.out F.lt) (H.below b2.out H.lt))
 have V:(w.alloc (.cells zR 70)).heap.size=w.heap.size+1:=by simp only[World.alloc,Array.size_push]
 have o:((w.alloc (.cells zR 70)).alloc (.cells #[.int .i64 0] 3)).heap.size=w.heap.size+1+1:=by simp only[World.alloc,Array.size_push]
 have Z2:=yH ((Below.heap_alloc (w.alloc (.cells zR 70)) (.cells #[.int .i64 0] 3) w.heap.size (by rw[V];omega)).trans (heap_alloc_new w (.cells zR 70)))
 have Z:=yH (Blk.new_at (w.alloc (.cells zR 70)) [.int .i64 0] 3 _ V)
 have aa: ∀(fn:Fn) (first cap:Array Value) (w:World),(Instr.makeFunc fn first cap).run Tryz.prog w= .ok (.func fn first cap) w:=fun _ _ _ _=>rfl
 unfold ReadR2 at J
 unfold AskR
 generalize eNum l a 0=s at*
 generalize eNum l a 8=x at*
 generalize eNum l a 16=g at*
 generalize eK l a=t at*
 generalize eN l a=r at*
 generalize rcode h l n a=cd at*
 generalize prsL (payP l (itA (bodyL l a))) r=pr at*
 clear v X F H
 by_cases G:cd=0
 ·subst G
  go_enter_defers Tryz.func163,Tryz.ntmps163
  go_wp2_with(first
   |(go_at_call 164;(refine J.out.mono ?_);rintro e w3 ⟨b,⟨D,_⟩|⟨_,k,d,rfl,q,m⟩⟩;(exact absurd rfl D);have L:=yH (b2.out.trans (b.mono b2.out.size));have C:=yH q;have j:=yH (show NewIn (w.heap.size+1+1) k from o▸m);have y:=yH ((b.block _ (by rw[o];omega)).trans Z2.out);have u:=yH (Z.out.below b (by rw[o];omega));clear b q m)
   |((with_reducible apply aAa (.tmp 2) (.tmp 6));refine wpList_store_row rfl 70 (.tmp 2) (.tmp 6) rfl w.heap.size (recL s x g t (.slice k r d)).toArray rfl rfl 70 zR y.out (by kernel_rfl) rfl (by first|exact aAo _ _ _ _ _ _ _|exact aAo 0 0 0 (fun _=>0) none 0 0) ?_;have R:=yH (show Blk (w3.setRow w.heap.size (recL s x g t (.slice k r d)).toArray) (w.heap.size+1) [.int .i64 0] 3 from(setRow_other w3 w.heap.size (w.heap.size+1) _ (Nat.succ_ne_self _)).trans u.out);have c4:=R.out.cell (i:=0) rfl;have z4:=R.out.frozen 0)
   |fail)
  refine leaves_cons (f:=204) (args:= #[.pointer (some ⟨w.heap.size+1,0,none⟩)]) (by simp) (by simp[go_sem]) ?_
  refine(caught_idle _ _).mono ?_
  rintro e u' I ⟨rfl,rfl,rfl⟩
  have M:=(below_setRow (B:=w.heap.size) L.out (yR _) (recL s x g t (.slice k r d)).toArray).setCell (p:=⟨w.heap.size+1,0,none⟩) (Nat.le_succ _) (.int .i64 0)
  exact⟨.tuple #[.agg (recL s x g t (.slice k r d)).toArray,.int .i64 0],(by exact aAw Tryz.results163 _ _ w.heap.size (w.heap.size+1) 70 _ (0,0) _ _ rfl rfl ((Below.heap_setCell _ _ _ _ (Nat.succ_ne_self _).symm).trans (setRow_heap _ w.heap.size _ _ _ (0,0) y.out)) Tryz.underlying70 rfl (by kernel_rfl) (aAI _ _ _ (R.out.set_ 0 _))),M,.inr ⟨trivial,k,d,rfl,prs_off (aHI C.out (new_ne j.out (by omega)) _) (new_ne j.out (by omega)) _ _,new_mono j.out (by omega)⟩⟩
 ·go_enter_defers Tryz.func163,Tryz.ntmps163
  go_wp2_with(first
   |(go_at_call 164;(refine J.out.mono ?_);rintro e w3 ⟨b,⟨_,rfl⟩|⟨he,_⟩⟩;rotate_left;(exact absurd he G);have L:=yH (b2.out.trans (b.mono b2.out.size));have y:=yH ((b.block _ (by rw[o];omega)).trans Z2.out);have u:=yH (Z.out.below b (by rw[o];omega));clear b)
   |fail)
  refine leaves_cons (f:=204) (args:= #[.pointer (some ⟨w.heap.size+1,0,none⟩)]) (by simp) (by simp[go_sem]) ?_
  refine(caught_halt _ cd 0 [] _ u.out).mono ?_
  rintro e u' I ⟨rfl,rfl,rfl⟩
  have M:=L.out.setCell (p:=⟨w.heap.size+1,0,none⟩) (Nat.le_succ _) (.int .i64 cd)
  exact⟨.tuple #[.agg zR,.int .i64 cd],(by exact aAw Tryz.results163 _ _ w.heap.size (w.heap.size+1) 70 _ (0,0) _ _ rfl rfl ((Below.heap_setCell _ _ _ _ (Nat.succ_ne_self _).symm).trans y.out) Tryz.underlying70 rfl (by kernel_rfl) (aAI _ _ _ (u.out.set_ 0 _))),M,.inl ⟨G,rfl⟩⟩
theorem aP4 {d:Nat}{h:HD}{A:Option Addr}{n c:Nat}{l:List Int}(a:Nat)(w:World)(v:ViewAt w d h A n c l)(C:c≤maxLen)(R:n≤800000):
 Calls Tryz.prog 126 #[.pointer (some ⟨d,0,none⟩),.int .u64 (a:Int)] w fun e w'=>Below w.heap.size w w'∧AskR w.heap.size l a (rcode h l n a) e w':=by
 have I:=yH ((Below.refl w.heap.size w).alloc (yR _) (.cells #[.pointer (some ⟨d,0,none⟩)] 51))
 have b2:=yH (I.out.alloc I.out.size (.cells #[.int .u64 (a:Int)] 27))
 have p:=yH (b2.out.alloc b2.out.size (.cells zR 70))
 have J:=v.below p.out
 have N:(w.alloc (.cells #[.pointer (some ⟨d,0,none⟩)] 51)).heap.size=w.heap.size+1:=by simp only[World.alloc,Array.size_push]
 have X:((w.alloc (.cells #[.pointer (some ⟨d,0,none⟩)] 51)).alloc (.cells #[.int .u64 (a:Int)] 27)).heap.size=w.heap.size+1+1:=by simp only[World.alloc,Array.size_push]
 have u:(((w.alloc (.cells #[.pointer (some ⟨d,0,none⟩)] 51)).alloc (.cells #[.int .u64 (a:Int)] 27)).alloc (.cells zR 70)).heap.size=w.heap.size+1+1+1:=by simp only[World.alloc,Array.size_push]
 have H:=((Blk.new w [.pointer (some ⟨d,0,none⟩)] 51).alloc (.cells #[.int .u64 (a:Int)] 27)).alloc (.cells zR 70)
 have M:=(Blk.new_at (w.alloc (.cells #[.pointer (some ⟨d,0,none⟩)] 51)) [.int .u64 (a:Int)] 27 _ N).alloc (.cells zR 70)
 have F:=yH (asked_any a w.heap.size (w.heap.size+1) _ J C R H M)
 have L:=yH (show(((w.alloc (.cells #[.pointer (some ⟨d,0,none⟩)] 51)).alloc (.cells #[.int .u64 (a:Int)] 27)).alloc (.cells zR 70)).heap[w.heap.size+1+1]? =some (.cells zR 70 (0,0))from X▸heap_alloc_new _ (.cells zR 70))
 have V: ∀(fn:Fn) (first cap:Array Value) (w:World),(Instr.makeFunc fn first cap).run Tryz.prog w= .ok (.func fn first cap) w:=fun _ _ _ _=>rfl
 unfold AskR at F⊢
 generalize eNum l a 0=t at*
 generalize eNum l a 8=G at*
 generalize eNum l a 16=i at*
 generalize eK l a=z at*
 generalize eN l a=r at*
 generalize rcode h l n a=cd at*
 generalize prsL (payP l (itA (bodyL l a))) r=Z at*
 clear v J H M
 by_cases D:cd=0
 ·subst D
  go_enter Tryz.func126,Tryz.ntmps126
  go_wp2_with(first
   |(go_at_call 163;(refine F.out.mono ?_);rintro e w4 ⟨b,⟨x,_⟩|⟨_,j,f,rfl,q,k⟩⟩;(exact absurd rfl x);have E:=yH (p.out.trans (b.mono p.out.size));have s:=yH q;have o:=yH (show NewIn (w.heap.size+1+1+1) j from u▸k);have m:=yH ((b.block _ (by rw[u];omega)).trans L.out);clear b q k)
   |((with_reducible apply aAa (.tmp 4) (.tmp 8));refine wpList_store_row rfl 70 (.tmp 4) (.tmp 8) rfl (w.heap.size+1+1) (recL t G i z (.slice j r f)).toArray rfl rfl 70 zR m.out (by kernel_rfl) rfl (by first|exact aAo _ _ _ _ _ _ _|exact aAo 0 0 0 (fun _=>0) none 0 0) ?_)
   |fail)
  refine bodyPost_ret (v:= .tuple #[.agg (recL t G i z (.slice j r f)).toArray,.int .i64 0]) (by exact aAq Tryz.results126 _ _ (w.heap.size+1+1) 70 _ (0,0) _ _ rfl rfl (setRow_heap _ (w.heap.size+1+1) _ _ _ (0,0) m.out) Tryz.underlying70 rfl (by kernel_rfl)) rfl ?_
  have y:=below_setRow (B:=w.heap.size) (g:=w.heap.size+1+1) E.out (by omega) (recL t G i z (.slice j r f)).toArray
  exact⟨y,.inr ⟨trivial,j,f,rfl,aHI s.out (new_ne o.out (by omega)) _,new_mono o.out (by omega)⟩⟩
 ·go_enter Tryz.func126,Tryz.ntmps126
  go_wp2_with(first
   |(go_at_call 163;(refine F.out.mono ?_);rintro e w4 ⟨b,⟨_,rfl⟩|⟨Y,_⟩⟩;rotate_left;(exact absurd Y D);have E:=yH (p.out.trans (b.mono p.out.size));have m:=yH ((b.block _ (by rw[u];omega)).trans L.out);clear b)
   |((with_reducible apply aAa (.tmp 4) (.tmp 8));refine wpList_store_row rfl 70 (.tmp 4) (.tmp 8) rfl (w.heap.size+1+1) zR rfl rfl 70 zR m.out (by kernel_rfl) rfl (by first|exact aAo _ _ _ _ _ _ _|exact aAo 0 0 0 (fun _=>0) none 0 0) ?_)
   |fail)
  refine bodyPost_ret (v:= .tuple #[.agg zR,.int .i64 cd]) (by exact aAq Tryz.results126 _ _ (w.heap.size+1+1) 70 _ (0,0) _ _ rfl rfl (setRow_heap _ (w.heap.size+1+1) _ _ _ (0,0) m.out) Tryz.underlying70 rfl (by kernel_rfl)) rfl ?_
  have y:=below_setRow (B:=w.heap.size) (g:=w.heap.size+1+1) E.out (by omega) zR
  exact⟨y,.inl ⟨D,rfl⟩⟩
end Ro
namespace Rq
attribute [local irreducible] wpList Code.wp
end Rq
namespace Zs
attribute [local irreducible] wpList Code.wp
end Zs
namespace Rr
open Bytes8 Blk8 OwnE Ob Ga Gb Ma Na Np Nr Pr8 Nt Nu Rc Rk Rm Rn
open Yp Ye Yg Yh Ri
open Rd (dcode dz)
open Go1 (hcode rhd aBK HTold magicB)
theorem aQu {l:List Int}{a:Nat}(h:AllB l):IdOk (eK l a):=by
 unfold eK
 split
 ·exact aOp (by
   unfold bodyL
   exact(h.drop _).take _)
 ·exact fun _=>⟨Int.le_refl _,by show(0:Int)<256;decide⟩
structure RecP where
 s:Int
 r:Int
 m:Int
 K:Nat→Int
 n:Nat
 pl:List PR
def recP (h:HD)(l:List Int)(n a:Nat):RecP:=if rcode h l n a=0 then⟨eNum l a 0,eNum l a 8,eNum l a 16,eK l a,eN l a,prsL (payP l (itA (bodyL l a))) (eN l a)⟩else⟨0,0,0,fun _=>0,0,[]⟩
structure RecP.Ok (p:RecP):Prop where
 K:IdOk p.K
 len:p.pl.length=p.n
 n:p.n≤1000000
theorem aHJ {h:HD}{l:List Int}{n a:Nat}(f:rcode h l n a=0):eN l a≤16:=by
 rcases Nat.lt_or_ge 16 (eN l a)with d|d
 ·have k:=aLo h l n (ecode9 h l n a) (eN l a) (itA (bodyL l a)) (itH (bodyL l a)) (eNum l a 40)
  by_cases c:ecode9 h l n a=0
  ·have:=k.b c d
   have e:rcode h l n a=21:=this
   rw[f]at e;cases e
  ·have e:rcode h l n a=ecode9 h l n a:=k.a c
   rw[f]at e
   exact absurd e.symm c
 ·exact d
theorem aLp (h:HD){l:List Int}(n a:Nat)(c:AllB l):(recP h l n a).Ok:=by
 unfold recP
 by_cases b:rcode h l n a=0
 ·rw[if_pos b]
  exact⟨aQu c,aIL _ _,by have:=aHJ b;show eN l a≤_;omega⟩
 ·rw[if_neg b]
  exact⟨fun _=>⟨Int.le_refl _,by show(0:Int)<256;decide⟩,rfl,Nat.zero_le _⟩
abbrev RecP.v (p:RecP)(F:Option Addr)(c:Nat):Value:= .agg (recL p.s p.r p.m p.K (.slice F p.n c)).toArray
def TellR (p:RecP)(cd:Int)(w:World)(e:Ending)(w':World):Prop:= ∃F c,e= .returned (.tuple #[p.v F c,.int .i64 cd])∧Prs w' F p.pl∧Below w.heap.size w w'
def payT (h:HD)(l:List Int)(n a:Nat):List Int:=if hcode9 h l n a=0 then bpay l a 1 6 else []
attribute [local irreducible] HD.cells wpList Code.wp
end Rr
namespace Va
open Bytes8 Blk8 Own8 OwnE Rows2 Ob Ga Gb Gi Oj Ok7 Ol7 Np Pr8 Rc Rm Rr
open Yc Yp Yd Ye Yg Yh Yn Ym
open Rd (dcode dz)
open Rg (arcode az AskA aOi)
open Ri (ecode9 ez)
structure ViewR (w:World)(gv:Nat)(h:HD)(d:Int)(A:Option Addr)(n c:Nat)(l:List Int):Prop where
 blk:Blk w gv (h.cells 20++ [.int .u64 d,.slice A n c]) 101
 by_:Bytes w A l
 len:l.length=n
 cap:n≤c
 capm:c≤maxLen
 big:n≤800000
 ok:h.Ok 21
theorem ViewR.below {w w':World}{b:Nat}{h:HD}{d:Int}{A:Option Addr}{n c:Nat}{l:List Int}(v:ViewR w b h d A n c l)(f:Below w.heap.size w w'):ViewR w' b h d A n c l:=
 ⟨v.blk.below f v.blk.lt,v.by_.below f (yR _),v.len,v.cap,v.capm,v.big,v.ok⟩
theorem aFI (h:HD)(d:Int)(b:Value)(i:Nat)(c:i<20):(h.cells 20++ [.int .u64 d,b])[67+i]? =some (.int .u64 (h.N i)):=by
 rw[List.getElem?_append_left (by rw[HD.len];omega)]
 exact h.get_N 20 i c
theorem aFJ (h:HD)(d:Int)(b:Value):(h.cells 20++ [.int .u64 d,b])[91]? =some b:=by
 rw[List.getElem?_append_right (by rw[HD.len];omega),HD.len]
 rfl
abbrev rng (h:HD)(n a:Nat):Prop:=h.N 0≤(a:Int)∧a<n
def dN (h:HD)(l:List Int)(n a i:Nat):Int:=if rng h n a then bnum l a 1 6 i else 0
def dP (h:HD)(l:List Int)(n a:Nat):List Int:=if rng h n a then bpay l a 1 6 else []
def TellD (B:Nat)(h:HD)(l:List Int)(n a:Nat)(w:World)(e:Ending)(w':World):Prop:=Below w.heap.size w w'∧ ∃A' m c,e= .returned (.tuple #[dataV (dN h l n a 0) (dN h l n a 1) (dN h l n a 2) (dN h l n a 3) (dN h l n a 4) (dN h l n a 5) A' m c,.int .i64 (dcode h l n a)])∧Bytes w' A' (dP h l n a)∧(dP h l n a).length=m∧Cap B A' m c
def eN9 (h:HD)(l:List Int)(n a i:Nat):Int:=if rng h n a then eNum l a i else 0
def eK9 (h:HD)(l:List Int)(n a:Nat):Nat→Int:=if rng h n a then eK l a else fun _=>0
def eC9 (h:HD)(l:List Int)(n a:Nat):Nat:=if rng h n a then eN l a else 0
def TellE (B:Nat)(h:HD)(l:List Int)(n a:Nat)(w:World)(e:Ending)(w':World):Prop:=Below w.heap.size w w'∧ ∃A' c,e= .returned (.tuple #[entV (eN9 h l n a 0) (eN9 h l n a 8) (eN9 h l n a 16) (eK9 h l n a) (eN9 h l n a 40) A' (eC9 h l n a) c,.int .i64 (ecode9 h l n a)])∧In2 w' A' (eC9 h l n a) (itA (bodyL l a)) (itH (bodyL l a))∧NewIn B A'
def aX9 (h:HD)(l:List Int)(n a:Nat):Int:=if rng h n a then arX l a else 0
def aC9 (h:HD)(l:List Int)(n a:Nat):Nat:=if rng h n a then arM l a else 0
def TellA (B:Nat)(h:HD)(l:List Int)(n a:Nat)(w:World)(e:Ending)(w':World):Prop:=Below w.heap.size w w'∧ ∃A' c,e= .returned (.tuple #[arrV (aX9 h l n a) A' (aC9 h l n a) c,.int .i64 (arcode h l n a)])∧InInts .u64 w' A' (aC9 h l n a) (arF (bodyL l a))∧NewIn B A'
theorem aCO (B:Nat):NewIn B none:=fun b off e=>by cases e
theorem aFK (B:Nat):Cap B none 0 0:=⟨by decide,by decide,by decide,fun b off e=>by cases e⟩
theorem aPc {j:Nat}{h:HD}{A:Option Addr}{n c:Nat}{l:List Int}(a:Nat)(w:World)(v:ViewAt w j h A n c l)(g:c≤maxLen):
 Calls Tryz.prog 141 #[.pointer (some ⟨j,0,none⟩),.int .u64 (a:Int)] w (TellA w.heap.size h l n a w):=by
 refine(aOi a w v g).mono ?_
 rintro e w' ⟨t,k⟩
 refine⟨t,?_⟩
 unfold aX9 aC9 arcode
 by_cases d:rng h n a
 ·rcases k with⟨b,rfl⟩|⟨b,r,m,rfl,s,o⟩
  ·have f:arcode h l n a=ecode l a 6 8 8:=if_pos d
   rw[f]at b
   have q:arX l a=0:=if_neg b
   have p:arM l a=0:=if_neg b
   simp only[if_pos d,q,p]
   rw[f]
   exact⟨none,0,rfl,fun i hi=>absurd hi (Nat.not_lt_zero i),aCO _⟩
  ·have f:arcode h l n a=ecode l a 6 8 8:=if_pos d
   rw[f]at b
   simp only[if_pos d]
   rw[b]
   exact⟨r,m,rfl,s,o⟩
 ·rcases k with⟨b,rfl⟩|⟨b,_⟩
  ·simp only[if_neg d]
   rw[show arcode h l n a=2 from if_neg d]
   exact⟨none,0,rfl,fun i hi=>absurd hi (Nat.not_lt_zero i),aCO _⟩
  ·rw[show arcode h l n a=2 from if_neg d]at b;cases b
theorem aLq {w:World}{A:Option Addr}{l:List Int}(h:Bytes w A l){s:Nat}(hs: ∀b off,A=some ⟨b,off,none⟩→b≠s)(c:Array Value):Bytes (w.setRow s c) A l:=aBe h (by simp) (fun b off e _=>setRow_other w s b c (hs b off e))
attribute [local irreducible] HD.cells wpList Code.wp
theorem aEq {b:Nat}{h:HD}{d:Int}{A:Option Addr}{n c:Nat}{l:List Int}(w:World)(v:ViewR w b h d A n c l):Calls Tryz.prog 92 #[.pointer (some ⟨b,0,none⟩)] w fun e w'=>e= .returned (.int .u64 (n:Int))∧w=w':=by
 have f:=v.blk.cell (aFJ _ _ _)
 have g:=v.big
 have i:IntKind.u64.wrap (n:Int)=(n:Int):=by rw[IntKind.wrap_u64];omega
 clear v
 go_enter Tryz.func92,Tryz.ntmps92
 go_wp2
 go_ret
 exact⟨rfl,rfl⟩
theorem aLr {f:Nat}{h:HD}{d:Int}{A:Option Addr}{n c:Nat}{l:List Int}(a:Nat)(w:World)(v:ViewR w f h d A n c l)(b:rng h n a):Calls Tryz.prog 102 #[.pointer (some ⟨f,0,none⟩),.int .u64 (a:Int)] w fun e w'=>e= .returned (.int .i64 0)∧w=w':=by
 have i:w.cell? ⟨f,67,none⟩=some (.int .u64 (h.N 0)):=v.blk.cell (aFI _ _ _ 0 (by decide))
 have g:=yH (aEq w v)
 have k:decide ((a:Int)<h.N 0)=false:=by have:=b.1;simp;omega
 have j:decide ((a:Int)≥(n:Int))=false:=by have:=b.2;simp;omega
 have m:decide (n≤a)=false:=by have:=b.2;simp;omega
 clear v b
 go_enter Tryz.func102,Tryz.ntmps102
 go_wp2_with(first
  |(go_at_call 92;(refine g.out.mono ?_);rintro e w1 ⟨rfl,rfl⟩)
  |fail)
 go_ret
 exact⟨rfl,rfl⟩
theorem aPd {g:Nat}{h:HD}{d:Int}{A:Option Addr}{n c:Nat}{l:List Int}(a:Nat)(w:World)(v:ViewR w g h d A n c l)(f: ¬rng h n a):Calls Tryz.prog 102 #[.pointer (some ⟨g,0,none⟩),.int .u64 (a:Int)] w fun e w'=>e= .returned (.int .i64 2)∧w=w':=by
 have k:w.cell? ⟨g,67,none⟩=some (.int .u64 (h.N 0)):=v.blk.cell (aFI _ _ _ 0 (by decide))
 have j:=yH (aEq w v)
 clear v
 by_cases b:h.N 0≤(a:Int)
 ·have i:decide ((a:Int)<h.N 0)=false:=by simp;omega
  have m:decide ((a:Int)≥(n:Int))=true:=by
   have: ¬a<n:=fun h4=>f ⟨b,h4⟩
   simp;omega
  have o:decide (n≤a)=true:=by
   have: ¬a<n:=fun h4=>f ⟨b,h4⟩
   simp;omega
  clear f b
  go_enter Tryz.func102,Tryz.ntmps102
  go_wp2_with(first
   |(go_at_call 92;(refine j.out.mono ?_);rintro e w1 ⟨rfl,rfl⟩)
   |fail)
  go_ret
  exact⟨rfl,rfl⟩
 ·have i:decide ((a:Int)<h.N 0)=true:=by simp;omega
  clear f b
  go_enter Tryz.func102,Tryz.ntmps102
  go_wp2_with fail
  go_ret
  exact⟨rfl,rfl⟩
theorem aLs {z:Nat}{h:HD}{d:Int}{A:Option Addr}{n c:Nat}{l:List Int}(a:Nat)(w:World)(v:ViewR w z h d A n c l):
 Calls Tryz.prog 46 #[.pointer (some ⟨z,0,none⟩),.int .u64 (a:Int)] w (TellD w.heap.size h l n a w):=by
 have o:=yH ((Below.refl w.heap.size w).alloc (yR _) (.cells dz 110))
 have f:=v.below o.out
 have L:=f.blk.cell (aFJ _ _ _)
 have r:=yH (heap_alloc_new w (.cells dz 110))
 have u:=yH (show w.heap.size<(w.alloc (.cells dz 110)).heap.size by simp)
 unfold TellD
 by_cases g:rng h n a
 ·have s:=yH (aLr a _ f g)
  have H:=yH (aH4 A l n c a _ f.by_ f.len (by have:=f.big;omega) f.cap f.capm (by have:=f.big;have:=g.2;omega))
  unfold DataTold2 at H
  unfold dN dP dcode
  simp only[if_pos g]
  clear v f g
  generalize bnum l a 1 6 0=E at*
  generalize bnum l a 1 6 1=B at*
  generalize bnum l a 1 6 2=G at*
  generalize bnum l a 1 6 3=I at*
  generalize bnum l a 1 6 4=F at*
  generalize bnum l a 1 6 5=C at*
  generalize bcode l a 1 6=cd at*
  generalize bpay l a 1 6=M at*
  go_enter Tryz.func46,Tryz.ntmps46
  go_wp2_with(first
   |(go_at_call 102;(refine s.out.mono ?_);rintro e w1 ⟨rfl,rfl⟩)
   |(go_at_call 103;(refine H.out.mono ?_);rintro e w2 ⟨p,t,y,rfl,i,m,x,k⟩;have J:=yH (o.out.trans (i.mono o.out.size));have D:=yH ((i.block _ u.out).trans r.out);have q:=yH m;have j:=yH k;clear m k;clear i)
   |((with_reducible apply aAa (.tmp 4) (.tmp 20));refine wpList_store_row rfl 110 (.tmp 4) (.tmp 20) rfl w.heap.size #[.int .u64 E,.int .u64 B,.int .u64 G,.int .u64 I,.int .u64 F,.int .u64 C,.slice p t y] rfl rfl 110 dz D.out (by kernel_rfl) rfl (by simp[Value.oneCell']) ?_)
   |fail)
  refine bodyPost_ret (v:= .tuple #[dataV E B G I F C p t y,.int .i64 cd]) (by exact aAq Tryz.results46 _ _ w.heap.size 110 _ (0,0) _ _ rfl rfl (setRow_heap _ w.heap.size _ _ _ (0,0) D.out) Tryz.underlying110 rfl (by kernel_rfl)) rfl ?_
  exact⟨below_setRow J.out (yR _) _,p,t,y,rfl,aLq q.out (fun b off e=>Nat.ne_of_gt (yL u.out (j.out.2.2.2 b off e))) _,x,j.out.mono (Nat.le_of_lt u.out)⟩
 ·have s:=yH (aPd a _ f g)
  unfold dN dP dcode
  simp only[if_neg g]
  clear v f g
  go_enter Tryz.func46,Tryz.ntmps46
  go_wp2_with(first
   |(go_at_call 102;(refine s.out.mono ?_);rintro e w1 ⟨rfl,rfl⟩)
   |((with_reducible apply aAb 12);refine Yz.wpList_build_as rfl 110 _ rfl dz (by kernel_rfl) ?_)
   |((with_reducible apply aAa (.tmp 4) (.tmp 12));refine wpList_store_row rfl 110 (.tmp 4) (.tmp 12) rfl w.heap.size dz rfl rfl 110 dz r.out (by kernel_rfl) rfl (by simp[Value.oneCell']) ?_)
   |fail)
  refine bodyPost_ret (v:= .tuple #[.agg dz,.int .i64 2]) (by exact aAq Tryz.results46 _ _ w.heap.size 110 _ (0,0) _ _ rfl rfl (setRow_heap _ w.heap.size _ _ _ (0,0) r.out) Tryz.underlying110 rfl (by kernel_rfl)) rfl ?_
  exact⟨below_setRow o.out (yR _) _,none,0,0,rfl,Bytes.nil _ _,rfl,aFK _⟩
theorem aNw {z:Nat}{h:HD}{d:Int}{A:Option Addr}{n c:Nat}{l:List Int}(a:Nat)(w:World)(v:ViewR w z h d A n c l):
 Calls Tryz.prog 98 #[.pointer (some ⟨z,0,none⟩),.int .u64 (a:Int)] w (TellE w.heap.size h l n a w):=by
 have q:=yH ((Below.refl w.heap.size w).alloc (yR _) (.cells ez 179))
 have b:=v.below q.out
 have I:=b.blk.cell (aFJ _ _ _)
 have t:=yH (heap_alloc_new w (.cells ez 179))
 have x:=yH (show w.heap.size<(w.alloc (.cells ez 179)).heap.size by simp)
 unfold TellE
 by_cases f:rng h n a
 ·have u:=yH (aLr a _ b f)
  have F:=yH (aF1 A l n c a _ b.by_ b.len (by have:=b.big;omega) b.cap b.capm (by have:=b.big;have:=f.2;omega))
  unfold EntTold2 at F
  unfold eN9 eK9 eC9 ecode9
  simp only[if_pos f]
  clear v b f
  generalize eNum l a 0=B at*
  generalize eNum l a 8=E at*
  generalize eNum l a 16=p at*
  generalize eNum l a 40=m at*
  generalize eK l a=C at*
  generalize eN l a=G at*
  generalize itA (bodyL l a)=J at*
  generalize itH (bodyL l a)=fh at*
  generalize entC0 l a=cd at*
  go_enter Tryz.func98,Tryz.ntmps98
  go_wp2_with(first
   |(go_at_call 102;(refine u.out.mono ?_);rintro e w1 ⟨rfl,rfl⟩)
   |(go_at_call 151;(refine F.out.mono ?_);rintro e w2 ⟨r,y,rfl,g,o,k⟩;have H:=yH (q.out.trans (g.mono q.out.size));have D:=yH ((g.block _ x.out).trans t.out);have s:=yH o;have j:=yH k;clear o k;clear g)
   |((with_reducible apply aAa (.tmp 4) (.tmp 20));refine wpList_store_row rfl 179 (.tmp 4) (.tmp 20) rfl w.heap.size (entL B E p C m r G y).toArray rfl rfl 179 ez D.out (by kernel_rfl) rfl (by first|exact aBB _ _ _ _ _ _ _ _|exact aCt) ?_)
   |fail)
  refine bodyPost_ret (v:= .tuple #[entV B E p C m r G y,.int .i64 cd]) (by exact aAq Tryz.results98 _ _ w.heap.size 179 _ (0,0) _ _ rfl rfl (setRow_heap _ w.heap.size _ _ _ (0,0) D.out) Tryz.underlying179 rfl (by kernel_rfl)) rfl ?_
  exact⟨below_setRow H.out (yR _) _,r,y,rfl,In2.setRow s.out (Ri.new_ne j.out x.out) _,Ri.new_mono j.out (Nat.le_of_lt x.out)⟩
 ·have u:=yH (aPd a _ b f)
  unfold eN9 eK9 eC9 ecode9
  simp only[if_neg f]
  clear v b f
  go_enter Tryz.func98,Tryz.ntmps98
  go_wp2_with(first
   |(go_at_call 102;(refine u.out.mono ?_);rintro e w1 ⟨rfl,rfl⟩)
   |((with_reducible apply aAb 12);refine Yz.wpList_build_as rfl 179 _ rfl ez (by kernel_rfl) ?_)
   |((with_reducible apply aAa (.tmp 4) (.tmp 12));refine wpList_store_row rfl 179 (.tmp 4) (.tmp 12) rfl w.heap.size ez rfl rfl 179 ez t.out (by kernel_rfl) rfl (by first|exact aCt|exact aBB _ _ _ _ _ _ _ _) ?_)
   |fail)
  refine bodyPost_ret (v:= .tuple #[.agg ez,.int .i64 2]) (by exact aAq Tryz.results98 _ _ w.heap.size 179 _ (0,0) _ _ rfl rfl (setRow_heap _ w.heap.size _ _ _ (0,0) t.out) Tryz.underlying179 rfl (by kernel_rfl)) rfl ?_
  exact⟨below_setRow q.out (yR _) _,none,0,rfl,fun i hi=>absurd hi (Nat.not_lt_zero i),aCO _⟩
theorem aNx {y:Nat}{h:HD}{d:Int}{A:Option Addr}{n c:Nat}{l:List Int}(a:Nat)(w:World)(v:ViewR w y h d A n c l):
 Calls Tryz.prog 99 #[.pointer (some ⟨y,0,none⟩),.int .u64 (a:Int)] w (TellA w.heap.size h l n a w):=by
 have o:=yH ((Below.refl w.heap.size w).alloc (yR _) (.cells az 198))
 have b:=v.below o.out
 have D:=b.blk.cell (aFJ _ _ _)
 have r:=yH (heap_alloc_new w (.cells az 198))
 have u:=yH (show w.heap.size<(w.alloc (.cells az 198)).heap.size by simp)
 unfold TellA
 by_cases g:rng h n a
 ·have s:=yH (aLr a _ b g)
  have B:=yH (aF0 A l n c a _ b.by_ b.len (by have:=b.big;omega) b.cap b.capm (by have:=b.big;have:=g.2;omega))
  unfold ArrTold2 at B
  unfold aX9 aC9 arcode
  simp only[if_pos g]
  clear v b g
  generalize arX l a=z at*
  generalize arM l a=C at*
  generalize arF (bodyL l a)=F at*
  generalize ecode l a 6 8 8=cd at*
  go_enter Tryz.func99,Tryz.ntmps99
  go_wp2_with(first
   |(go_at_call 102;(refine s.out.mono ?_);rintro e w1 ⟨rfl,rfl⟩)
   |(go_at_call 152;(refine B.out.mono ?_);rintro e w2 ⟨p,t,rfl,f,j,m⟩;have E:=yH (o.out.trans (f.mono o.out.size));have x:=yH ((f.block _ u.out).trans r.out);have q:=yH j;have k:=yH m;clear j m;clear f)
   |((with_reducible apply aAa (.tmp 4) (.tmp 20));refine wpList_store_row rfl 198 (.tmp 4) (.tmp 20) rfl w.heap.size #[.int .u64 z,.slice p C t] rfl rfl 198 az x.out (by kernel_rfl) rfl (by simp[Value.oneCell']) ?_)
   |fail)
  refine bodyPost_ret (v:= .tuple #[arrV z p C t,.int .i64 cd]) (by exact aAq Tryz.results99 _ _ w.heap.size 198 _ (0,0) _ _ rfl rfl (setRow_heap _ w.heap.size _ _ _ (0,0) x.out) Tryz.underlying198 rfl (by kernel_rfl)) rfl ?_
  exact⟨below_setRow E.out (yR _) _,p,t,rfl,InInts.setRow q.out (Ri.new_ne k.out u.out) _,Ri.new_mono k.out (Nat.le_of_lt u.out)⟩
 ·have s:=yH (aPd a _ b g)
  unfold aX9 aC9 arcode
  simp only[if_neg g]
  clear v b g
  go_enter Tryz.func99,Tryz.ntmps99
  go_wp2_with(first
   |(go_at_call 102;(refine s.out.mono ?_);rintro e w1 ⟨rfl,rfl⟩)
   |((with_reducible apply aAb 12);refine Yz.wpList_build_as rfl 198 _ rfl az (by kernel_rfl) ?_)
   |((with_reducible apply aAa (.tmp 4) (.tmp 12));refine wpList_store_row rfl 198 (.tmp 4) (.tmp 12) rfl w.heap.size az rfl rfl 198 az r.out (by kernel_rfl) rfl (by simp[Value.oneCell']) ?_)
   |fail)
  refine bodyPost_ret (v:= .tuple #[.agg az,.int .i64 2]) (by exact aAq Tryz.results99 _ _ w.heap.size 198 _ (0,0) _ _ rfl rfl (setRow_heap _ w.heap.size _ _ _ (0,0) r.out) Tryz.underlying198 rfl (by kernel_rfl)) rfl ?_
  exact⟨below_setRow o.out (yR _) _,none,0,rfl,fun i hi=>absurd hi (Nat.not_lt_zero i),aCO _⟩
end Va
end Go.Proofs.YtlelnfokffflnaaGreat
