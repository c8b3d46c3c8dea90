/-
  Texts beneath.
-/
import Derived.Test.YteaikbodkgjkdaaGreatQl34
set_option linter.unusedVariables false
set_option linter.unusedSimpArgs false
set_option maxRecDepth 100000
set_option maxHeartbeats 4000000
open Go.ChangeShapes Go.WideShapes Go.ChangeAt Go.RowKit
namespace Go.Proofs.YteaikbodkgjkdaaGreat
namespace Zs
attribute [local irreducible] wpList Code.wp
end Zs
namespace Rr
open Bytes8 Blk8 OwnE Ob Ga Gb Ma Na Np Nr Pr8 Nt Nu Rc Rk Rm Rn
open Yp Ye Yg Yh Ri
open Rd (dcode dz)
open Go1 (hcode rhd aBK HTold magicB)
theorem aQu {l:List Int}{a:Nat}(h:AllB l):IdOk (eK l a):=by
 unfold eK
 split
 ·exact aOp (by
   unfold bodyL
   exact(h.drop _).take _)
 ·exact fun _=>⟨Int.le_refl _,by show(0:Int)<256;decide⟩
structure RecP where
 s:Int
 r:Int
 m:Int
 K:Nat→Int
 n:Nat
 pl:List PR
def recP (h:HD)(l:List Int)(n a:Nat):RecP:=if rcode h l n a=0 then⟨eNum l a 0,eNum l a 8,eNum l a 16,eK l a,eN l a,prsL (payP l (itA (bodyL l a))) (eN l a)⟩else⟨0,0,0,fun _=>0,0,[]⟩
structure RecP.Ok (p:RecP):Prop where
 K:IdOk p.K
 len:p.pl.length=p.n
 n:p.n≤1000000
theorem aHG {h:HD}{l:List Int}{n a:Nat}(f:rcode h l n a=0):eN l a≤16:=by
 rcases Nat.lt_or_ge 16 (eN l a)with d|d
 ·have k:=aLn h l n (ecode9 h l n a) (eN l a) (itA (bodyL l a)) (itH (bodyL l a)) (eNum l a 40)
  by_cases c:ecode9 h l n a=0
  ·have:=k.b c d
   have e:rcode h l n a=21:=this
   rw[f]at e;cases e
  ·have e:rcode h l n a=ecode9 h l n a:=k.a c
   rw[f]at e
   exact absurd e.symm c
 ·exact d
theorem aLo (h:HD){l:List Int}(n a:Nat)(c:AllB l):(recP h l n a).Ok:=by
 unfold recP
 by_cases b:rcode h l n a=0
 ·rw[if_pos b]
  exact⟨aQu c,aIL _ _,by have:=aHG b;show eN l a≤_;omega⟩
 ·rw[if_neg b]
  exact⟨fun _=>⟨Int.le_refl _,by show(0:Int)<256;decide⟩,rfl,Nat.zero_le _⟩
abbrev RecP.v (p:RecP)(F:Option Addr)(c:Nat):Value:= .agg (recL p.s p.r p.m p.K (.slice F p.n c)).toArray
def TellR (p:RecP)(cd:Int)(w:World)(e:Ending)(w':World):Prop:= ∃F c,e= .returned (.tuple #[p.v F c,.int .i64 cd])∧Prs w' F p.pl∧Below w.heap.size w w'
def payT (h:HD)(l:List Int)(n a:Nat):List Int:=if hcode9 h l n a=0 then bpay l a 1 6 else []
attribute [local irreducible] HD.cells wpList Code.wp
end Rr
namespace Va
open Bytes8 Blk8 Own8 OwnE Rows2 Ob Ga Gb Gi Oj Ok7 Ol7 Np Pr8 Rc Rm Rr
open Yc Yp Yd Ye Yg Yh Yn Ym
open Rd (dcode dz)
open Rg (arcode az AskA aOi)
open Ri (ecode9 ez)
structure ViewR (w:World)(gv:Nat)(h:HD)(d:Int)(A:Option Addr)(n c:Nat)(l:List Int):Prop where
 blk:Blk w gv (h.cells 20++ [.int .u64 d,.slice A n c]) 180
 by_:Bytes w A l
 len:l.length=n
 cap:n≤c
 capm:c≤maxLen
 big:n≤800000
 ok:h.Ok 21
theorem ViewR.below {w w':World}{a:Nat}{h:HD}{d:Int}{A:Option Addr}{n c:Nat}{l:List Int}(v:ViewR w a h d A n c l)(b:Below w.heap.size w w'):ViewR w' a h d A n c l:=
 ⟨v.blk.below b v.blk.lt,v.by_.below b (yR _),v.len,v.cap,v.capm,v.big,v.ok⟩
theorem aFI (h:HD)(d:Int)(b:Value)(i:Nat)(a:i<20):(h.cells 20++ [.int .u64 d,b])[67+i]? =some (.int .u64 (h.N i)):=by
 rw[List.getElem?_append_left (by rw[HD.len];omega)]
 exact h.get_N 20 i a
theorem aFJ (h:HD)(d:Int)(b:Value):(h.cells 20++ [.int .u64 d,b])[91]? =some b:=by
 rw[List.getElem?_append_right (by rw[HD.len];omega),HD.len]
 rfl
abbrev rng (h:HD)(n a:Nat):Prop:=h.N 0≤(a:Int)∧a<n
def dN (h:HD)(l:List Int)(n a i:Nat):Int:=if rng h n a then bnum l a 1 6 i else 0
def dP (h:HD)(l:List Int)(n a:Nat):List Int:=if rng h n a then bpay l a 1 6 else []
def TellD (B:Nat)(h:HD)(l:List Int)(n a:Nat)(w:World)(e:Ending)(w':World):Prop:=Below w.heap.size w w'∧ ∃A' m c,e= .returned (.tuple #[dataV (dN h l n a 0) (dN h l n a 1) (dN h l n a 2) (dN h l n a 3) (dN h l n a 4) (dN h l n a 5) A' m c,.int .i64 (dcode h l n a)])∧Bytes w' A' (dP h l n a)∧(dP h l n a).length=m∧Cap B A' m c
def eN9 (h:HD)(l:List Int)(n a i:Nat):Int:=if rng h n a then eNum l a i else 0
def eK9 (h:HD)(l:List Int)(n a:Nat):Nat→Int:=if rng h n a then eK l a else fun _=>0
def eC9 (h:HD)(l:List Int)(n a:Nat):Nat:=if rng h n a then eN l a else 0
def TellE (B:Nat)(h:HD)(l:List Int)(n a:Nat)(w:World)(e:Ending)(w':World):Prop:=Below w.heap.size w w'∧ ∃A' c,e= .returned (.tuple #[entV (eN9 h l n a 0) (eN9 h l n a 8) (eN9 h l n a 16) (eK9 h l n a) (eN9 h l n a 40) A' (eC9 h l n a) c,.int .i64 (ecode9 h l n a)])∧In2 w' A' (eC9 h l n a) (itA (bodyL l a)) (itH (bodyL l a))∧NewIn B A'
def aX9 (h:HD)(l:List Int)(n a:Nat):Int:=if rng h n a then arX l a else 0
def aC9 (h:HD)(l:List Int)(n a:Nat):Nat:=if rng h n a then arM l a else 0
def TellA (B:Nat)(h:HD)(l:List Int)(n a:Nat)(w:World)(e:Ending)(w':World):Prop:=Below w.heap.size w w'∧ ∃A' c,e= .returned (.tuple #[arrV (aX9 h l n a) A' (aC9 h l n a) c,.int .i64 (arcode h l n a)])∧InInts .u64 w' A' (aC9 h l n a) (arF (bodyL l a))∧NewIn B A'
theorem aCO (B:Nat):NewIn B none:=fun b off e=>by cases e
theorem aFK (B:Nat):Cap B none 0 0:=⟨by decide,by decide,by decide,fun b off e=>by cases e⟩
theorem aPc {k:Nat}{h:HD}{A:Option Addr}{n c:Nat}{l:List Int}(a:Nat)(w:World)(v:ViewAt w k h A n c l)(g:c≤maxLen):
 Calls Tryz.prog 156 #[.pointer (some ⟨k,0,none⟩),.int .u64 (a:Int)] w (TellA w.heap.size h l n a w):=by
 refine(aOi a w v g).mono ?_
 rintro e w' ⟨r,j⟩
 refine⟨r,?_⟩
 unfold aX9 aC9 arcode
 by_cases d:rng h n a
 ·rcases j with⟨b,rfl⟩|⟨b,t,q,rfl,s,p⟩
  ·have f:arcode h l n a=ecode l a 6 8 8:=if_pos d
   rw[f]at b
   have o:arX l a=0:=if_neg b
   have m:arM l a=0:=if_neg b
   simp only[if_pos d,o,m]
   rw[f]
   exact⟨none,0,rfl,fun i hi=>absurd hi (Nat.not_lt_zero i),aCO _⟩
  ·have f:arcode h l n a=ecode l a 6 8 8:=if_pos d
   rw[f]at b
   simp only[if_pos d]
   rw[b]
   exact⟨t,q,rfl,s,p⟩
 ·rcases j with⟨b,rfl⟩|⟨b,_⟩
  ·simp only[if_neg d]
   rw[show arcode h l n a=2 from if_neg d]
   exact⟨none,0,rfl,fun i hi=>absurd hi (Nat.not_lt_zero i),aCO _⟩
  ·rw[show arcode h l n a=2 from if_neg d]at b;cases b
theorem aLp {w:World}{A:Option Addr}{l:List Int}(h:Bytes w A l){s:Nat}(hs: ∀b off,A=some ⟨b,off,none⟩→b≠s)(a:Array Value):Bytes (w.setRow s a) A l:=aBe h (by simp) (fun b off e _=>setRow_other w s b a (hs b off e))
attribute [local irreducible] HD.cells wpList Code.wp
theorem aEq {a:Nat}{h:HD}{d:Int}{A:Option Addr}{n c:Nat}{l:List Int}(w:World)(v:ViewR w a h d A n c l):Calls Tryz.prog 126 #[.pointer (some ⟨a,0,none⟩)] w fun e w'=>e= .returned (.int .u64 (n:Int))∧w=w':=by
 have b:=v.blk.cell (aFJ _ _ _)
 have g:=v.big
 have f:IntKind.u64.wrap (n:Int)=(n:Int):=by rw[IntKind.wrap_u64];omega
 clear v
 go_enter Tryz.func126,Tryz.ntmps126
 go_wp2
 go_ret
 exact⟨rfl,rfl⟩
theorem aLq {f:Nat}{h:HD}{d:Int}{A:Option Addr}{n c:Nat}{l:List Int}(a:Nat)(w:World)(v:ViewR w f h d A n c l)(b:rng h n a):Calls Tryz.prog 127 #[.pointer (some ⟨f,0,none⟩),.int .u64 (a:Int)] w fun e w'=>e= .returned (.int .i64 0)∧w=w':=by
 have g:w.cell? ⟨f,67,none⟩=some (.int .u64 (h.N 0)):=v.blk.cell (aFI _ _ _ 0 (by decide))
 have i:=yH (aEq w v)
 have m:decide ((a:Int)<h.N 0)=false:=by have:=b.1;simp;omega
 have j:decide ((a:Int)≥(n:Int))=false:=by have:=b.2;simp;omega
 have k:decide (n≤a)=false:=by have:=b.2;simp;omega
 clear v b
 go_enter Tryz.func127,Tryz.ntmps127
 go_wp2_with(first
  |(go_at_call 126;(refine i.out.mono ?_);rintro e w1 ⟨rfl,rfl⟩)
  |fail)
 go_ret
 exact⟨rfl,rfl⟩
theorem aPd {g:Nat}{h:HD}{d:Int}{A:Option Addr}{n c:Nat}{l:List Int}(a:Nat)(w:World)(v:ViewR w g h d A n c l)(b: ¬rng h n a):Calls Tryz.prog 127 #[.pointer (some ⟨g,0,none⟩),.int .u64 (a:Int)] w fun e w'=>e= .returned (.int .i64 2)∧w=w':=by
 have i:w.cell? ⟨g,67,none⟩=some (.int .u64 (h.N 0)):=v.blk.cell (aFI _ _ _ 0 (by decide))
 have k:=yH (aEq w v)
 clear v
 by_cases f:h.N 0≤(a:Int)
 ·have j:decide ((a:Int)<h.N 0)=false:=by simp;omega
  have m:decide ((a:Int)≥(n:Int))=true:=by
   have: ¬a<n:=fun h4=>b ⟨f,h4⟩
   simp;omega
  have o:decide (n≤a)=true:=by
   have: ¬a<n:=fun h4=>b ⟨f,h4⟩
   simp;omega
  clear b f
  go_enter Tryz.func127,Tryz.ntmps127
  go_wp2_with(first
   |(go_at_call 126;(refine k.out.mono ?_);rintro e w1 ⟨rfl,rfl⟩)
   |fail)
  go_ret
  exact⟨rfl,rfl⟩
 ·have j:decide ((a:Int)<h.N 0)=true:=by simp;omega
  clear b f
  go_enter Tryz.func127,Tryz.ntmps127
  go_wp2_with fail
  go_ret
  exact⟨rfl,rfl⟩
theorem aLr {D:Nat}{h:HD}{d:Int}{A:Option Addr}{n c:Nat}{l:List Int}(a:Nat)(w:World)(v:ViewR w D h d A n c l):
 Calls Tryz.prog 103 #[.pointer (some ⟨D,0,none⟩),.int .u64 (a:Int)] w (TellD w.heap.size h l n a w):=by
 have o:=yH ((yB w.heap.size w).alloc (yR _) (.cells dz 201))
 have f:=v.below o.out
 have J:=f.blk.cell (aFJ _ _ _)
 have s:=yH (heap_alloc_new w (.cells dz 201))
 have u:=yH (show w.heap.size<(w.alloc (.cells dz 201)).heap.size by simp)
 unfold TellD
 by_cases g:rng h n a
 ·have y:=yH (aLq a _ f g)
  have F:=yH (aH1 A l n c a _ f.by_ f.len (by have:=f.big;omega) f.cap f.capm (by have:=f.big;have:=g.2;omega))
  unfold DataTold2 at F
  unfold dN dP dcode
  simp only[if_pos g]
  clear v f g
  generalize bnum l a 1 6 0=z at*
  generalize bnum l a 1 6 1=I at*
  generalize bnum l a 1 6 2=G at*
  generalize bnum l a 1 6 3=E at*
  generalize bnum l a 1 6 4=B at*
  generalize bnum l a 1 6 5=H at*
  generalize bcode l a 1 6=cd at*
  generalize bpay l a 1 6=M at*
  go_enter Tryz.func103,Tryz.ntmps103
  go_wp2_with(first
   |(go_at_call 127;(refine y.out.mono ?_);rintro e w1 ⟨rfl,rfl⟩)
   |(go_at_call 141;(refine F.out.mono ?_);rintro e w2 ⟨x,p,t,rfl,i,j,r,k⟩;have L:=yH (o.out.trans (i.mono o.out.size));have C:=yH ((i.block _ u.out).trans s.out);have q:=yH j;have m:=yH k;clear j k;clear i)
   |((with_reducible apply aAa (.tmp 4) (.tmp 20));refine wpList_store_row rfl 201 (.tmp 4) (.tmp 20) rfl w.heap.size #[.int .u64 z,.int .u64 I,.int .u64 G,.int .u64 E,.int .u64 B,.int .u64 H,.slice x p t] rfl rfl 201 dz C.out (by kernel_rfl) rfl (by simp[Value.oneCell']) ?_)
   |fail)
  refine bodyPost_ret (v:= .tuple #[dataV z I G E B H x p t,.int .i64 cd]) (by exact aAq Tryz.results103 _ _ w.heap.size 201 _ (0,0) _ _ rfl rfl (setRow_heap _ w.heap.size _ _ _ (0,0) C.out) Tryz.underlying201 rfl (by kernel_rfl)) rfl ?_
  exact⟨below_setRow L.out (yR _) _,x,p,t,rfl,aLp q.out (fun b off e=>Nat.ne_of_gt (yL u.out (m.out.2.2.2 b off e))) _,r,m.out.mono (Nat.le_of_lt u.out)⟩
 ·have y:=yH (aPd a _ f g)
  unfold dN dP dcode
  simp only[if_neg g]
  clear v f g
  go_enter Tryz.func103,Tryz.ntmps103
  go_wp2_with(first
   |(go_at_call 127;(refine y.out.mono ?_);rintro e w1 ⟨rfl,rfl⟩)
   |((with_reducible apply aAb 12);refine Yz.wpList_build_as rfl 201 _ rfl dz (by kernel_rfl) ?_)
   |((with_reducible apply aAa (.tmp 4) (.tmp 12));refine wpList_store_row rfl 201 (.tmp 4) (.tmp 12) rfl w.heap.size dz rfl rfl 201 dz s.out (by kernel_rfl) rfl (by simp[Value.oneCell']) ?_)
   |fail)
  refine bodyPost_ret (v:= .tuple #[.agg dz,.int .i64 2]) (by exact aAq Tryz.results103 _ _ w.heap.size 201 _ (0,0) _ _ rfl rfl (setRow_heap _ w.heap.size _ _ _ (0,0) s.out) Tryz.underlying201 rfl (by kernel_rfl)) rfl ?_
  exact⟨below_setRow o.out (yR _) _,none,0,0,rfl,Bytes.nil _ _,rfl,aFK _⟩
theorem aNw {C:Nat}{h:HD}{d:Int}{A:Option Addr}{n c:Nat}{l:List Int}(a:Nat)(w:World)(v:ViewR w C h d A n c l):
 Calls Tryz.prog 161 #[.pointer (some ⟨C,0,none⟩),.int .u64 (a:Int)] w (TellE w.heap.size h l n a w):=by
 have q:=yH ((yB w.heap.size w).alloc (yR _) (.cells ez 150))
 have b:=v.below q.out
 have H:=b.blk.cell (aFJ _ _ _)
 have s:=yH (heap_alloc_new w (.cells ez 150))
 have u:=yH (show w.heap.size<(w.alloc (.cells ez 150)).heap.size by simp)
 unfold TellE
 by_cases f:rng h n a
 ·have y:=yH (aLq a _ b f)
  have F:=yH (aF0 A l n c a _ b.by_ b.len (by have:=b.big;omega) b.cap b.capm (by have:=b.big;have:=f.2;omega))
  unfold EntTold2 at F
  unfold eN9 eK9 eC9 ecode9
  simp only[if_pos f]
  clear v b f
  generalize eNum l a 0=E at*
  generalize eNum l a 8=z at*
  generalize eNum l a 16=o at*
  generalize eNum l a 40=j at*
  generalize eK l a=D at*
  generalize eN l a=G at*
  generalize itA (bodyL l a)=J at*
  generalize itH (bodyL l a)=fh at*
  generalize entC0 l a=cd at*
  go_enter Tryz.func161,Tryz.ntmps161
  go_wp2_with(first
   |(go_at_call 127;(refine y.out.mono ?_);rintro e w1 ⟨rfl,rfl⟩)
   |(go_at_call 190;(refine F.out.mono ?_);rintro e w2 ⟨x,t,rfl,g,k,m⟩;have I:=yH (q.out.trans (g.mono q.out.size));have B:=yH ((g.block _ u.out).trans s.out);have r:=yH k;have p:=yH m;clear k m;clear g)
   |((with_reducible apply aAa (.tmp 4) (.tmp 20));refine wpList_store_row rfl 150 (.tmp 4) (.tmp 20) rfl w.heap.size (entL E z o D j x G t).toArray rfl rfl 150 ez B.out (by kernel_rfl) rfl (by first|exact aBB _ _ _ _ _ _ _ _|exact aCt) ?_)
   |fail)
  refine bodyPost_ret (v:= .tuple #[entV E z o D j x G t,.int .i64 cd]) (by exact aAq Tryz.results161 _ _ w.heap.size 150 _ (0,0) _ _ rfl rfl (setRow_heap _ w.heap.size _ _ _ (0,0) B.out) Tryz.underlying150 rfl (by kernel_rfl)) rfl ?_
  exact⟨below_setRow I.out (yR _) _,x,t,rfl,In2.setRow r.out (Ri.new_ne p.out u.out) _,Ri.new_mono p.out (Nat.le_of_lt u.out)⟩
 ·have y:=yH (aPd a _ b f)
  unfold eN9 eK9 eC9 ecode9
  simp only[if_neg f]
  clear v b f
  go_enter Tryz.func161,Tryz.ntmps161
  go_wp2_with(first
   |(go_at_call 127;(refine y.out.mono ?_);rintro e w1 ⟨rfl,rfl⟩)
   |((with_reducible apply aAb 12);refine Yz.wpList_build_as rfl 150 _ rfl ez (by kernel_rfl) ?_)
   |((with_reducible apply aAa (.tmp 4) (.tmp 12));refine wpList_store_row rfl 150 (.tmp 4) (.tmp 12) rfl w.heap.size ez rfl rfl 150 ez s.out (by kernel_rfl) rfl (by first|exact aCt|exact aBB _ _ _ _ _ _ _ _) ?_)
   |fail)
  refine bodyPost_ret (v:= .tuple #[.agg ez,.int .i64 2]) (by exact aAq Tryz.results161 _ _ w.heap.size 150 _ (0,0) _ _ rfl rfl (setRow_heap _ w.heap.size _ _ _ (0,0) s.out) Tryz.underlying150 rfl (by kernel_rfl)) rfl ?_
  exact⟨below_setRow q.out (yR _) _,none,0,rfl,fun i hi=>absurd hi (Nat.not_lt_zero i),aCO _⟩
theorem aNx {z:Nat}{h:HD}{d:Int}{A:Option Addr}{n c:Nat}{l:List Int}(a:Nat)(w:World)(v:ViewR w z h d A n c l):
 Calls Tryz.prog 88 #[.pointer (some ⟨z,0,none⟩),.int .u64 (a:Int)] w (TellA w.heap.size h l n a w):=by
 have o:=yH ((yB w.heap.size w).alloc (yR _) (.cells az 183))
 have b:=v.below o.out
 have D:=b.blk.cell (aFJ _ _ _)
 have u:=yH (heap_alloc_new w (.cells az 183))
 have q:=yH (show w.heap.size<(w.alloc (.cells az 183)).heap.size by simp)
 unfold TellA
 by_cases f:rng h n a
 ·have s:=yH (aLq a _ b f)
  have C:=yH (aFZ A l n c a _ b.by_ b.len (by have:=b.big;omega) b.cap b.capm (by have:=b.big;have:=f.2;omega))
  unfold ArrTold2 at C
  unfold aX9 aC9 arcode
  simp only[if_pos f]
  clear v b f
  generalize arX l a=x at*
  generalize arM l a=B at*
  generalize arF (bodyL l a)=F at*
  generalize ecode l a 6 8 8=cd at*
  go_enter Tryz.func88,Tryz.ntmps88
  go_wp2_with(first
   |(go_at_call 127;(refine s.out.mono ?_);rintro e w1 ⟨rfl,rfl⟩)
   |(go_at_call 128;(refine C.out.mono ?_);rintro e w2 ⟨t,p,rfl,g,k,m⟩;have E:=yH (o.out.trans (g.mono o.out.size));have y:=yH ((g.block _ q.out).trans u.out);have r:=yH k;have j:=yH m;clear k m;clear g)
   |((with_reducible apply aAa (.tmp 4) (.tmp 20));refine wpList_store_row rfl 183 (.tmp 4) (.tmp 20) rfl w.heap.size #[.int .u64 x,.slice t B p] rfl rfl 183 az y.out (by kernel_rfl) rfl (by simp[Value.oneCell']) ?_)
   |fail)
  refine bodyPost_ret (v:= .tuple #[arrV x t B p,.int .i64 cd]) (by exact aAq Tryz.results88 _ _ w.heap.size 183 _ (0,0) _ _ rfl rfl (setRow_heap _ w.heap.size _ _ _ (0,0) y.out) Tryz.underlying183 rfl (by kernel_rfl)) rfl ?_
  exact⟨below_setRow E.out (yR _) _,t,p,rfl,InInts.setRow r.out (Ri.new_ne j.out q.out) _,Ri.new_mono j.out (Nat.le_of_lt q.out)⟩
 ·have s:=yH (aPd a _ b f)
  unfold aX9 aC9 arcode
  simp only[if_neg f]
  clear v b f
  go_enter Tryz.func88,Tryz.ntmps88
  go_wp2_with(first
   |(go_at_call 127;(refine s.out.mono ?_);rintro e w1 ⟨rfl,rfl⟩)
   |((with_reducible apply aAb 12);refine Yz.wpList_build_as rfl 183 _ rfl az (by kernel_rfl) ?_)
   |((with_reducible apply aAa (.tmp 4) (.tmp 12));refine wpList_store_row rfl 183 (.tmp 4) (.tmp 12) rfl w.heap.size az rfl rfl 183 az u.out (by kernel_rfl) rfl (by simp[Value.oneCell']) ?_)
   |fail)
  refine bodyPost_ret (v:= .tuple #[.agg az,.int .i64 2]) (by exact aAq Tryz.results88 _ _ w.heap.size 183 _ (0,0) _ _ rfl rfl (setRow_heap _ w.heap.size _ _ _ (0,0) u.out) Tryz.underlying183 rfl (by kernel_rfl)) rfl ?_
  exact⟨below_setRow o.out (yR _) _,none,0,rfl,fun i hi=>absurd hi (Nat.not_lt_zero i),aCO _⟩
end Va
namespace Vb
open Bytes8 Blk8 Own8 OwnE Rows2 Ob Ga Gb Ok7 Np Sg Pr8 Rc Rj Rk Rm Rr Va
open Rd (dcode dz)
theorem aDe {w:World}{c:Nat}{h:HD}{d:Int}{b v:Value}(e:Blk w c (h.cells 20++ [.int .u64 d,b]) 180){i:Nat}(a:(h.cells 20)[i]? =some v):w.cell? ⟨c,i,none⟩=some v:=by
 refine e.cell ?_
 rw[List.getElem?_append_left (List.getElem?_eq_some_iff.1 a).1]
 exact a
theorem aIM (h:HD):(h.cells 20)[1]? =some (.int .u32 h.ic):=by
 rw[h.get 20 1 (by decide)]
 rfl
theorem aIN {w:World}{a:Nat}{h:HD}{d:Int}{b:Value}(c:Blk w a (h.cells 20++ [.int .u64 d,b]) 180):w.rangeAt a 3 (idJ h.I):=fun j v hj=>by
 have e:j<16:=(List.getElem?_eq_some_iff.1 hj).1
 refine aDe c ((h.get_I 20 j (by omega)).trans ?_)
 rw[aC7 h.I j e]at hj
 exact hj
theorem aLs {h:HD}{l:List Int}{n a:Nat}(b:dcode h l n a=0):rng h n a:=by
 by_cases c:rng h n a
 ·exact c
 ·rw[show dcode h l n a=2 from if_neg c]at b;cases b
def hH (h:HD)(l:List Int)(n a:Nat):Int:=if hcode9 h l n a=0 then bnum l a 1 6 0 else 0
def TellH (B:Nat)(h:HD)(l:List Int)(n a:Nat)(w:World)(e:Ending)(w':World):Prop:=Below w.heap.size w w'∧ ∃A' m c,e= .returned (.tuple #[.slice A' m c,.int .u64 (hH h l n a),.int .i64 (hcode9 h l n a)])∧Bytes w' A' (payT h l n a)∧(payT h l n a).length=m∧Cap B A' m c
attribute [local irreducible] HD.cells wpList Code.wp
theorem aJI {a:Nat}{h:HD}{d:Int}{A:Option Addr}{n c:Nat}{l:List Int}(m:Option Addr)(j:List Int)(b g:Nat)(w:World)(v:ViewR w a h d A n c l)(q:Bytes w m j)(r:j.length=b)(z:b≤800000)(C:b≤g)(x:g≤maxLen):
 Calls Tryz.prog 138 #[.pointer (some ⟨a,0,none⟩),.slice m b g] w fun e w'=>e= .returned (.int .u64 (ofS (keyB h.ic) (idL h.I) j))∧Below w.heap.size w w':=by
 have o:=yH fun(t:Bool)=>aFO t h.I m j b g w.drew (I_ok v.ok) q.drew r z
 have s:=aDe v.blk (aIM h)
 have y:=yH (show w.drew.cell? ⟨a,1,none⟩=some (.int .u32 h.ic)∧w.drew.rangeAt a 3 (idJ h.I)from⟨s,aIN v.blk⟩)
 have D:=yH (show Below w.heap.size w w.drew from(yB w.heap.size w).drew)
 have k:=yH v.blk
 clear v s q r
 go_enter Tryz.func138,Tryz.ntmps138
 go_upto_region 1 with fail
 refine wp_region_noPanic ?_
 refine wp_region_held_drew (S:=fun W:World=>W.cell? ⟨a,1,none⟩=some (.int .u32 h.ic)∧W.rangeAt a 3 (idJ h.I)) (by kernel_rfl) (by exact y.out) (fun hHeld=>?_)
 refine tq 0 5 rfl (fun W hSw=>by go_simp;try (with_reducible rfl)) ?_
 try simp only[Act.put,sA,sZ,sS]
 refine tq 1 6 rfl (fun W hSw=>by go_simp;try (with_reducible rfl)) ?_
 try simp only[Act.put,sA,sZ,sS]
 refine tq 2 7 rfl (fun W hSw=>by go_simp;try (with_reducible rfl)) ?_
 try simp only[Act.put,sA,sZ,sS]
 refine tq 3 8 rfl (fun W hSw=>by go_simp;try (with_reducible rfl)) ?_
 try simp only[Act.put,sA,sZ,sS]
 refine tq 4 9 rfl (fun W hSw=>by have B:=hSw.1;go_simp;try (with_reducible rfl)) ?_
 try simp only[Act.put,sA,sZ,sS]
 refine tq 5 10 rfl (fun W hSw=>by go_simp;try (with_reducible rfl)) ?_
 try simp only[Act.put,sA,sZ,sS]
 refine tq 6 11 rfl (fun W hSw=>by go_simp;try (with_reducible rfl)) ?_
 try simp only[Act.put,sA,sZ,sS]
 refine tq 7 12 rfl (fun W hSw=>by go_simp;try (with_reducible rfl)) ?_
 try simp only[Act.put,sA,sZ,sS]
 refine tq 8 13 rfl (fun W hSw=>by go_simp;try (with_reducible rfl)) ?_
 try simp only[Act.put,sA,sZ,sS]
 refine tq 9 14 rfl (fun W hSw=>by go_simp;try (with_reducible rfl)) ?_
 try simp only[Act.put,sA,sZ,sS]
 refine tq 10 15 rfl (fun W hSw=>by go_simp;try (with_reducible rfl)) ?_
 try simp only[Act.put,sA,sZ,sS]
 refine tk (i:=11) (oi:=⟨some 16,_,_,_,_,_⟩) rfl (yieldsIf_load_mid (by rfl) _ _ rfl _ _ rfl _ _ (fun _ h=>h.2) Tryz.underlying61 rfl (aBl _)) ?_
 try simp only[Act.put,sA,sZ,sS]
 refine tq 12 17 rfl (fun W hSw=>by go_simp;try (with_reducible rfl)) ?_
 try simp only[Act.put,sA,sZ,sS]
 refine rd 13 rfl (fun K hK=>?_)
 go_simp
 ((refine(o.out _).mono ?_);rintro e w2 ⟨rfl,f⟩;have p:=yH (D.out.trans f);have u:=yH (show w2.cell? ⟨a,1,none⟩=some (.int .u32 h.ic)∧w2.rangeAt a 3 (idJ h.I)from⟨aDe (k.out.below p.out k.out.lt) (aIM h),aIN (k.out.below p.out k.out.lt)⟩);clear f)
 try go_wp2_with fail
 refine hK.out _ _ (by exact u.out) (fun hHeld=>?_)
 clear hK K
 try simp only[Act.put,sA,sZ,sS]
 refine tq 14 4 rfl (fun W hSw=>by go_simp;try (with_reducible rfl)) ?_
 try simp only[Act.put,sA,sZ,sS]
 refine wpAnyH_done (by kernel_rfl) ?_ _
 refine NoPanic.normal ?_
 go_wp2
 go_ret
 exact⟨rfl,p.out⟩
attribute [local irreducible] ofS bnum bpay bcode
theorem aNy {gv:Nat}{h:HD}{d:Int}{A:Option Addr}{n c:Nat}{l:List Int}(a:Nat)(w:World)(v:ViewR w gv h d A n c l):
 Calls Tryz.prog 162 #[.pointer (some ⟨gv,0,none⟩),.int .u64 (a:Int)] w (TellH w.heap.size h l n a w):=by
 have HV:=yH (aLr a w v)
 have HH:=yH fun(hr:rng h n a) (m:Option Addr) (j c2:Nat) (B:Nat) (W:World) (hW:Below w.heap.size w W) (hb:Bytes W m (bpay l a 1 6)) (hL:(bpay l a 1 6).length=j) (hcp:Cap B m j c2)=>aJI m (bpay l a 1 6) j c2 W (v.below hW) hb hL (by have h1:=aFH l a 1 6;have h2:=v.len;have h3:=v.big;omega) hcp.2.1 hcp.2.2.1
 unfold TellD at HV
 unfold TellH
 by_cases X:dcode h l n a=0
 ·have hr:=aLs X
  have D:hcode9 h l n a=if bnum l a 1 6 0=ofS (keyB h.ic) (idL h.I) (bpay l a 1 6)then 0 else 9:=by unfold hcode9;rw[if_neg (by omega)]
  have eP:dP h l n a=bpay l a 1 6:=if_pos hr
  have M: ∀i,dN h l n a i=bnum l a 1 6 i:=fun i=>if_pos hr
  rw[X,eP,M 0,M 1,M 2,M 3,M 4,M 5]at HV
  have ac:=yH (HH.out hr)
  have eH: ∀F,hcode9 h l n a=F→hH h l n a=(if F=0 then bnum l a 1 6 0 else 0)∧payT h l n a=(if F=0 then bpay l a 1 6 else []):=fun F e=>by subst e;exact⟨rfl,rfl⟩
  obtain⟨F,k⟩: ∃z,hcode9 h l n a=z:=⟨_,rfl⟩
  obtain⟨e2,e3⟩:=eH F k
  rw[k,e2,e3]
  rw[k]at D
  clear eH e2 e3 k eP M HH hr v
  generalize ofS (keyB h.ic) (idL h.I) (bpay l a 1 6)=yy at*
  generalize bnum l a 1 6 0=p at*
  generalize bnum l a 1 6 1=t at*
  generalize bnum l a 1 6 2=s at*
  generalize bnum l a 1 6 3=r at*
  generalize bnum l a 1 6 4=u at*
  generalize bnum l a 1 6 5=C at*
  generalize bpay l a 1 6=pl at*
  have ag:=yH D
  clear D
  obtain⟨xr,L⟩: ∃z,z=(if F=0 then p else 0):=⟨_,rfl⟩
  obtain⟨pr,H⟩: ∃z,z=(if F=0 then pl else []):=⟨_,rfl⟩
  rw[←L,←H]
  have ab:=yH L
  have aa:=yH H
  clear L H
  go_enter Tryz.func162,Tryz.ntmps162
  go_upto_region 2 with(first
   |(go_at_call 103;(refine HV.out.mono ?_);rintro e w2 ⟨q,m,j,b,rfl,x,G,y⟩;have Y:=yH q;have ad:=yH x;have af:=yH y;clear q x y)
   |((with_reducible apply aAa (.tmp 7) (.tmp 13));refine wpList_store_row rfl 201 (.tmp 7) (.tmp 13) rfl w2.heap.size #[.int .u64 p,.int .u64 t,.int .u64 s,.int .u64 r,.int .u64 u,.int .u64 C,.slice m j b] rfl rfl 201 dz (heap_alloc_new w2 _) (by kernel_rfl) rfl (by simp[Value.oneCell']) ?_)
   |fail)
  have Z:=yH (show Blk ((w2.alloc (.cells dz 201)).setRow w2.heap.size #[.int .u64 p,.int .u64 t,.int .u64 s,.int .u64 r,.int .u64 u,.int .u64 C,.slice m j b]) w2.heap.size [.int .u64 p,.int .u64 t,.int .u64 s,.int .u64 r,.int .u64 u,.int .u64 C,.slice m j b] 201 from setRow_heap _ _ _ _ _ (0,0) (heap_alloc_new w2 _))
  have V:=yH (show Below w2.heap.size w2 ((w2.alloc (.cells dz 201)).setRow w2.heap.size #[.int .u64 p,.int .u64 t,.int .u64 s,.int .u64 r,.int .u64 u,.int .u64 C,.slice m j b])from below_setRow ((yB _ _).alloc (yR _) _) (yR _) _)
  generalize (w2.alloc (.cells dz 201)).setRow w2.heap.size #[.int .u64 p,.int .u64 t,.int .u64 s,.int .u64 r,.int .u64 u,.int .u64 C,.slice m j b]=w3 at*
  have J:=yH (Y.out.trans (V.out.mono Y.out.size))
  have N:=yH (ad.out.below V.out (yR _))
  have HS:=yH (ac.out m j b _ w3.drew J.out.drew N.out.drew G af.out)
  have Sd:=yH (show w3.drew.cell? ⟨w2.heap.size,0,none⟩=some (.int .u64 p)∧w3.drew.cell? ⟨w2.heap.size,6,none⟩=some (.slice m j b)from⟨Z.out.drew.cell (i:=0) rfl,Z.out.drew.cell (i:=6) rfl⟩)
  generalize w2.heap.size=E at*
  clear HV ac Y ad V
  go_upto_region 4 with fail
  by_cases he:p=yy
  ·have k:=ag.out
   rw[if_pos he]at k
   subst k
   have hx:=ab.out
   have hp:=aa.out
   rw[if_pos rfl]at hx hp
   subst hx
   subst hp
   have d1:(xr !=yy)=false:=by simp[he]
   refine wp_region_held_drew (S:=fun W:World=>W.cell? ⟨E,0,none⟩=some (.int .u64 xr)∧W.cell? ⟨E,6,none⟩=some (.slice m j b)) (by kernel_rfl) (by exact Sd.out) (fun hHeld=>?_)
   refine tq 0 18 rfl (fun W hSw=>by obtain⟨f,g⟩:=hSw;go_simp;try (with_reducible rfl)) ?_
   try simp only[Act.put,sA,sZ,sS]
   refine tq 1 19 rfl (fun W hSw=>by obtain⟨f,g⟩:=hSw;go_simp;try (with_reducible rfl)) ?_
   try simp only[Act.put,sA,sZ,sS]
   refine tq 2 20 rfl (fun W hSw=>by obtain⟨f,g⟩:=hSw;go_simp;try (with_reducible rfl)) ?_
   try simp only[Act.put,sA,sZ,sS]
   refine tq 3 21 rfl (fun W hSw=>by obtain⟨f,g⟩:=hSw;go_simp;try (with_reducible rfl)) ?_
   try simp only[Act.put,sA,sZ,sS]
   refine tq 4 22 rfl (fun W hSw=>by obtain⟨f,g⟩:=hSw;go_simp;try (with_reducible rfl)) ?_
   try simp only[Act.put,sA,sZ,sS]
   refine rd 5 rfl (fun K hK=>?_)
   go_simp
   ((refine HS.out.mono ?_);rintro e w4 ⟨rfl,o⟩;have B4:=yH (J.out.drew.trans (o.mono J.out.size));have R:=yH (Z.out.drew.below o Z.out.lt);have ae:=yH (N.out.drew.below o (yR _));have S4:=yH (show w4.cell? ⟨E,0,none⟩=some (.int .u64 xr)∧w4.cell? ⟨E,6,none⟩=some (.slice m j b)from⟨R.out.cell (i:=0) rfl,R.out.cell (i:=6) rfl⟩);clear o)
   try go_wp2_with fail
   refine hK.out _ _ (by exact S4.out) (fun hHeld=>?_)
   clear hK K
   try simp only[Act.put,sA,sZ,sS]
   refine tq 6 24 rfl (fun W hSw=>by obtain⟨f,g⟩:=hSw;go_simp;try (with_reducible rfl)) ?_
   try simp only[Act.put,sA,sZ,sS]
   refine wpAnyH_done (by kernel_rfl) ?_ _
   have t0:=R.out.drew.cell (i:=0) rfl
   have t6:=R.out.drew.cell (i:=6) rfl
   go_upto_region 6 with fail
   go_region
   all_goals
    go_wp2
    refine bodyPost_ret (v:= .tuple #[.slice m j b,.int .u64 xr,.int .i64 0]) (by simp[results,Tryz.results162,go_sem,he]) rfl ?_
    exact⟨B4.out.drew,m,j,b,rfl,ae.out.drew,G,af.out⟩
  ·have k:=ag.out
   rw[if_neg he]at k
   subst k
   have hx:=ab.out
   have hp:=aa.out
   rw[if_neg (by decide)]at hx hp
   subst hx
   subst hp
   have d1:(p !=yy)=true:=by simpa using he
   refine wp_region_held_drew (S:=fun W:World=>W.cell? ⟨E,0,none⟩=some (.int .u64 p)∧W.cell? ⟨E,6,none⟩=some (.slice m j b)) (by kernel_rfl) (by exact Sd.out) (fun hHeld=>?_)
   refine tq 0 18 rfl (fun W hSw=>by obtain⟨f,g⟩:=hSw;go_simp;try (with_reducible rfl)) ?_
   try simp only[Act.put,sA,sZ,sS]
   refine tq 1 19 rfl (fun W hSw=>by obtain⟨f,g⟩:=hSw;go_simp;try (with_reducible rfl)) ?_
   try simp only[Act.put,sA,sZ,sS]
   refine tq 2 20 rfl (fun W hSw=>by obtain⟨f,g⟩:=hSw;go_simp;try (with_reducible rfl)) ?_
   try simp only[Act.put,sA,sZ,sS]
   refine tq 3 21 rfl (fun W hSw=>by obtain⟨f,g⟩:=hSw;go_simp;try (with_reducible rfl)) ?_
   try simp only[Act.put,sA,sZ,sS]
   refine tq 4 22 rfl (fun W hSw=>by obtain⟨f,g⟩:=hSw;go_simp;try (with_reducible rfl)) ?_
   try simp only[Act.put,sA,sZ,sS]
   refine rd 5 rfl (fun K hK=>?_)
   go_simp
   ((refine HS.out.mono ?_);rintro e w4 ⟨rfl,o⟩;have B4:=yH (J.out.drew.trans (o.mono J.out.size));have R:=yH (Z.out.drew.below o Z.out.lt);have ae:=yH (N.out.drew.below o (yR _));have S4:=yH (show w4.cell? ⟨E,0,none⟩=some (.int .u64 p)∧w4.cell? ⟨E,6,none⟩=some (.slice m j b)from⟨R.out.cell (i:=0) rfl,R.out.cell (i:=6) rfl⟩);clear o)
   try go_wp2_with fail
   refine hK.out _ _ (by exact S4.out) (fun hHeld=>?_)
   clear hK K
   try simp only[Act.put,sA,sZ,sS]
   refine tq 6 24 rfl (fun W hSw=>by obtain⟨f,g⟩:=hSw;go_simp;try (with_reducible rfl)) ?_
   try simp only[Act.put,sA,sZ,sS]
   refine wpAnyH_done (by kernel_rfl) ?_ _
   go_wp2
   refine bodyPost_ret (v:= .tuple #[.slice none 0 0,.int .u64 0,.int .i64 9]) (by simp[results,Tryz.results162,go_sem]) rfl ?_
   exact⟨B4.out,none,0,0,rfl,Bytes.nil _ _,rfl,aFK _⟩
 ·have D:hcode9 h l n a=dcode h l n a:=by unfold hcode9;rw[if_pos X]
  have e2:hH h l n a=0:=by unfold hH;rw[D,if_neg X]
  have e3:payT h l n a=[]:=by unfold payT;rw[D,if_neg X]
  rw[D,e2,e3]
  clear D e2 e3 HH v
  generalize dcode h l n a=cd at*
  generalize dN h l n a 0=p at*
  generalize dN h l n a 1=t at*
  generalize dN h l n a 2=s at*
  generalize dN h l n a 3=r at*
  generalize dN h l n a 4=u at*
  generalize dN h l n a 5=C at*
  generalize dP h l n a=pl at*
  have d1:(cd !=0)=true:=by simpa using X
  go_enter Tryz.func162,Tryz.ntmps162
  go_upto_region 2 with(first
   |(go_at_call 103;(refine HV.out.mono ?_);rintro e w2 ⟨q,m,j,b,rfl,x,G,y⟩;have Y:=yH q;clear q x y)
   |((with_reducible apply aAa (.tmp 7) (.tmp 13));refine wpList_store_row rfl 201 (.tmp 7) (.tmp 13) rfl w2.heap.size #[.int .u64 p,.int .u64 t,.int .u64 s,.int .u64 r,.int .u64 u,.int .u64 C,.slice m j b] rfl rfl 201 dz (heap_alloc_new w2 _) (by kernel_rfl) rfl (by simp[Value.oneCell']) ?_)
   |fail)
  have J:=yH (show Below w.heap.size w ((w2.alloc (.cells dz 201)).setRow w2.heap.size #[.int .u64 p,.int .u64 t,.int .u64 s,.int .u64 r,.int .u64 u,.int .u64 C,.slice m j b])from Y.out.trans ((below_setRow ((yB _ _).alloc (yR _) _) (yR _) _).mono Y.out.size))
  generalize (w2.alloc (.cells dz 201)).setRow w2.heap.size #[.int .u64 p,.int .u64 t,.int .u64 s,.int .u64 r,.int .u64 u,.int .u64 C,.slice m j b]=w3 at*
  go_wp2
  refine bodyPost_ret (v:= .tuple #[.slice none 0 0,.int .u64 0,.int .i64 cd]) (by simp[results,Tryz.results162,go_sem]) rfl ?_
  exact⟨J.out,none,0,0,rfl,Bytes.nil _ _,rfl,aFK _⟩
end Vb
end Go.Proofs.YteaikbodkgjkdaaGreat
