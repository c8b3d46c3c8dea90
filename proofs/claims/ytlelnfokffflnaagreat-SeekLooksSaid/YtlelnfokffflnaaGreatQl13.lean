/-
  Texts beneath the proof.
-/
import Derived.Test.YtlelnfokffflnaaGreatQl12
set_option linter.unusedVariables false
set_option linter.unusedSimpArgs false
set_option maxRecDepth 100000
set_option maxHeartbeats 4000000
open Go.ChangeShapes Go.WideShapes Go.ChangeAt Go.RowKit
namespace Go.Proofs.YtlelnfokffflnaaGreat
namespace Yf
open Bytes8 Blk8 Own8 OwnE Ob Rows2 Kf Yc Yp Ye
def New2 (f h:Nat→Int)(m:Nat)(w:World)(A:Option Addr)(w':World):Prop:= ∃g,A=some ⟨g,0,none⟩∧w.heap.size≤g∧g<w'.heap.size∧In2 w' A m f h
theorem aHf (A:Option Addr)(l:List Int)(n d m:Nat)(w:World)(b:Bytes w A l)(o:l.length=n)(t:n≤1000000)(E:n/16=m):
 Calls Tryz.prog 242 #[.slice A n d] w fun e w'=> ∃A',e= .returned (.slice A' m m)∧New2 (taA l) (taB l) m w A' w'∧Below w.heap.size w w':=by
 have J:IntKind.i64.wrap ((n:Int).tdiv 16)=(m:Int):=by rw[Int.tdiv_eq_ediv_of_nonneg (by omega),IntKind.wrap_i64];omega
 have y:(n:Int).tdiv 16=(m:Int):=by rw[Int.tdiv_eq_ediv_of_nonneg (by omega)];omega
 have u:=aMu 237 254 Tryz.underlying237 aMs m (m:Int) rfl (by omega)
 have x:=yH (Part2.new w m (taA l) (taB l) 254)
 have s:=yH ((Below.refl w.heap.size w).alloc (yR _) (.cells (Array.replicate (m*2) (Value.int .u64 0)) 254))
 have r:=yH fun(W:World) (i:Nat) (z:Int) (h:Below w.heap.size w W) (hi:i+8≤n) (hz:z=(i:Int))=>aFd A l n d i z W (b.below h (yR _)) o t hi hz
 have p:=yH b.1
 clear b o
 unfold New2
 go_enter Tryz.func242,Tryz.ntmps242
 go_wp2
 go_loopw [11] (fun i wr=> ∃k:Nat,k≤m∧i= .int .i64 (k:Int)∧Hid (Part2 wr w.heap.size m k (taA l) (taB l) 254)∧Hid (Below w.heap.size w wr)) (fun i _=>m-(intOf i).toNat)
 case atStart=>exact⟨0,Nat.zero_le _,rfl,x,s⟩
 case round=>
  obtain⟨k,F,rfl,f,b⟩:=hrel
  by_cases c:k<m
  ·obtain⟨⟨I,C,D,H⟩,B,G⟩:=f.out.cells c
   have q:=yH (f.out.step c)
   have j:taA l k=u8 l (16*k):=rfl
   have g:taB l k=u8 l (16*k+8):=rfl
   rw[j,g]at q
   go_wp2_with(first
    |(go_at_call 185;(with_reducible refine(r.out _ (16*k) _ b.out (by omega) (by omega)).mono ?_);rintro e w' ⟨rfl,rfl⟩)
    |(go_at_call 185;(with_reducible refine(r.out _ (16*k+8) _ b.out (by omega) (by omega)).mono ?_);rintro e w' ⟨rfl,rfl⟩))
   go_roundw
   case rel=>exact⟨k+1,by omega,by go_num,q,yH ((b.out.setCell (yR _) _).setCell (yR _) _)⟩
   case measure=>simp[intOf];omega
  ·obtain rfl:k=m:=by omega
   go_wp2
   go_ret
   exact⟨_,rfl,⟨w.heap.size,rfl,yR _,f.out.lt,f.out.in2 (fun i=>aCE p.out _) (fun i=>aCE p.out _)⟩,b.out⟩
theorem aMv (A:Option Addr)(n s:Nat)(f h:Nat→Int)(w:World)(B:In2 w A n f h)(V:n≤1000000):
 Calls Tryz.prog 243 #[.slice A n s] w fun e w'=>e= .returned (.bool (risB f n))∧Below w.heap.size w w':=by
 have C:=yH B
 obtain⟨z,q⟩: ∃z,z=risB f n:=⟨_,rfl⟩
 rw[←q]
 have x:=yH q
 clear B q
 go_enter Tryz.func243,Tryz.ntmps243
 go_wp2
 go_loopw [3] (fun i wr=> ∃k:Nat,1≤k∧(k≤n∨k=1)∧i= .int .i64 (k:Int)∧Hid (risB f k=true)∧Hid (Below w.heap.size w wr)) (fun i _=>n-(intOf i).toNat)
 case atStart=>exact⟨1,yR _,.inr rfl,rfl,yH rfl,yH (Below.refl _ _)⟩
 case round=>
  obtain⟨k,H,N,rfl,r,l⟩:=hrel
  by_cases u:k<n
  ·obtain⟨j,rfl⟩: ∃j,k=j+1:=⟨k-1,by omega⟩
   obtain⟨b,g,D,M,c1,_,_,_⟩:=(C.out.keep l.out) (j+1) u
   obtain⟨b2,E,o,_,d1,_,_,_⟩:=(C.out.keep l.out) j (by omega)
   rw[D]at o
   simp at o
   obtain⟨rfl,rfl⟩:=o
   subst D
   have hs:=aGU f (j+1) (by omega)
   rw[r.out,Bool.true_and]at hs
   have p:=fun h=>aGV (f:=f) (n:=n) (m:=j+2) h (by omega)
   have L:=(show wr.drew.cell? ⟨b,g+(j+1)*2,none⟩=some (.int .u64 (f (j+1)))from c1)
   have F:=(show wr.drew.cell? ⟨b,g+j*2,none⟩=some (.int .u64 (f j))from d1)
   have X:IntKind.i64.wrap (((j+1:Nat):Int)-1)=(j:Int):=by rw[IntKind.wrap_i64];omega
   have R:((j+1:Nat):Int)-1=(j:Int):=by omega
   have J:(0:Int)≤((j+1:Nat):Int):=by omega
   by_cases G:f (j+1)≤f j
   ·have y:risB f n=false:=by
     cases I:risB f n with
     |false=>rfl
     |true=>have:=p I;rw[hs]at this;simp at this;omega
    have c:z=false:=x.out.trans y
    subst c
    clear y p hs r
    go_wp2
    go_region
    all_goals
     go_wp2
     go_ret
     exact⟨rfl,l.out.drew⟩
   ·have d:risB f (j+2)=true:=by rw[hs];simp;omega
    have t:=yH d
    clear d hs p
    go_wp2
    go_region
    all_goals
     go_wp2
     go_roundw
     case rel=>exact⟨j+2,by omega,by omega,by go_num,t,yH l.out.drew⟩
     case measure=>simp[intOf];omega
  ·have:risB f n=true:=by
    rcases N with h|h
    ·obtain rfl:k=n:=by omega
     exact r.out
    ·subst h
     have:n=0∨n=1:=by omega
     rcases this with rfl|rfl<;>rfl
   have c:z=true:=x.out.trans this
   subst c
   clear this
   go_wp2
   go_ret
   exact⟨rfl,l.out⟩
end Yf
namespace Yg
open Bytes8 Blk8 Own8 OwnE LeP Ob Rows2 Kf Yc Yp Yd Ye Yf
theorem aAr {P:Program}{fn:Func}{p u:Tmp}{f:TypeId}(h:fn.results= #[.cell p f,.tmp u])(tmps:Array Value)(w:World)(g:Nat)(t:TypeId)(b:Array Value)(fr:Nat×Nat)(d:TypeDesc)(c:Value)
 (m:tmps.getD p undef= .pointer (some ⟨g,0,none⟩))(i:tmps.getD u undef=c)(n:w.heap[g]? =some (.cells b t fr))(l:P.underlying f=some d)(j:(match d with| .struct _| .array _ _=>true|_=>false)=true)(k:(P.info? f).map (·.size)=some b.size):
 (results fn tmps).run P w= .ok (.tuple #[.agg b,c]) w:=by
 rw[results_cell_tmp h,m,i]
 simp[asAddr,run_loadVar_row w g t f b fr d n l j k,Result.andThen]
theorem Blk.setRow {w:World}{g:Nat}{c:List Value}{T:TypeId}(h:Blk w g c T)(b:List Value):Blk (w.setRow g b.toArray) g b T:=setRow_heap w g _ _ T (0,0) h
theorem aAi {B:Nat}{w0 w:World}(d:Below B w0 w){g:Nat}(c:B≤g)(b:Array Value):Below B w0 (w.setRow g b):=below_setRow d c b
theorem In2.setRow {w:World}{a:Option Addr}{n:Nat}{f h:Nat→Int}(p:In2 w a n f h){g:Nat}(l: ∀b c,a=some ⟨b,c,none⟩→b≠g)(j:Array Value):In2 (w.setRow g j) a n f h:=fun i hx=>by
 obtain⟨b,c,e,o,m,q,k⟩:=p i hx
 have d:=l b c e
 exact⟨b,c,e,by simpa using o,(cell_setRow_other w g j _ d).trans m,(cell_setRow_other w g j _ d).trans q,k⟩
def eNum (l:List Int)(a i:Nat):Int:=if entC0 l a=0 then u8 (bodyL l a) i else 0
def eK (l:List Int)(a:Nat):Nat→Int:=if entC0 l a=0 then itK (bodyL l a)else fun _=>0
def eN (l:List Int)(a:Nat):Nat:=if entC0 l a=0 then itN (bodyL l a)else 0
def NewIn (B:Nat)(A:Option Addr):Prop:= ∀b off,A=some ⟨b,off,none⟩→B≤b
def EntTold2 (l:List Int)(a:Nat)(w:World)(e:Ending)(w':World):Prop:=
 ∃A c,e= .returned (.tuple #[entV (eNum l a 0) (eNum l a 8) (eNum l a 16) (eK l a) (eNum l a 40) A (eN l a) c,.int .i64 (entC0 l a)])∧Below w.heap.size w w'∧In2 w' A (eN l a) (itA (bodyL l a)) (itH (bodyL l a))∧NewIn w.heap.size A
theorem aHg {l:List Int}{a:Nat}(h:entC0 l a≠0):(∀i,eNum l a i=0)∧eK l a=(fun _=>0)∧eN l a=0:=⟨fun i=>if_neg h,if_neg h,if_neg h⟩
theorem aFe {l:List Int}{a:Nat}(h:entC0 l a=0):(∀i,eNum l a i=u8 (bodyL l a) i)∧eK l a=itK (bodyL l a)∧eN l a=itN (bodyL l a):=⟨fun i=>if_pos h,if_pos h,if_pos h⟩
abbrev zL:List Value:=[.int .u64 0,.int .u64 0,.int .u64 0,.int .u8 0,.int .u8 0,.int .u8 0,.int .u8 0,.int .u8 0,.int .u8 0,.int .u8 0,.int .u8 0,.int .u8 0,.int .u8 0,.int .u8 0,.int .u8 0,.int .u8 0,.int .u8 0,.int .u8 0,.int .u8 0,.int .u64 0,.slice none 0 0]
abbrev zC (T:TypeId):Obj:= .cells #[.int .u64 0,.int .u64 0,.int .u64 0,.int .u8 0,.int .u8 0,.int .u8 0,.int .u8 0,.int .u8 0,.int .u8 0,.int .u8 0,.int .u8 0,.int .u8 0,.int .u8 0,.int .u8 0,.int .u8 0,.int .u8 0,.int .u8 0,.int .u8 0,.int .u8 0,.int .u64 0,.slice none 0 0] T
theorem aA8:(Tryz.prog.info? 239).map (·.size)=some 21:=by kernel_rfl
theorem aCt:zL.toArray.all (·.oneCell')=true:=by simp[Value.oneCell']
theorem aBB (s r m:Int)(K:Nat→Int)(x:Int)(A:Option Addr)(n c:Nat):(entL s r m K x A n c).toArray.all (·.oneCell')=true:=by simp[entL,Value.oneCell']
theorem aBh (w:World)(A:Option Addr)(f h:Nat→Int):In2 w A 0 f h:=fun i hi=>absurd hi (by omega)
def stE (p v:Value):Sem Unit:=Instr.storeAt 239 p v
theorem st_fold (p v:Value):Instr.storeAt 239 p v=stE p v:=rfl
theorem aEH (w:World)(g:Nat)(b:List Value)(h:Blk w g b 239)(d:b.length=21)(s r m x:Int)(A:Option Addr)(n c:Nat):
 (stE (.pointer (some ⟨g,0,none⟩)) (.agg #[.int .u64 s,.int .u64 r,.int .u64 m,.int .u8 0,.int .u8 0,.int .u8 0,.int .u8 0,.int .u8 0,.int .u8 0,.int .u8 0,.int .u8 0,.int .u8 0,.int .u8 0,.int .u8 0,.int .u8 0,.int .u8 0,.int .u8 0,.int .u8 0,.int .u8 0,.int .u64 x,.slice A n c])).run Tryz.prog w= .ok () (w.setRow g #[.int .u64 s,.int .u64 r,.int .u64 m,.int .u8 0,.int .u8 0,.int .u8 0,.int .u8 0,.int .u8 0,.int .u8 0,.int .u8 0,.int .u8 0,.int .u8 0,.int .u8 0,.int .u8 0,.int .u8 0,.int .u8 0,.int .u8 0,.int .u8 0,.int .u8 0,.int .u64 x,.slice A n c]):=by
 unfold stE
 simp only[Instr.storeAt,Instr.sureAddr,Sem.run_bind,Sem.run_pure,Result.andThen_ok]
 exact run_storeVar_row w g 239 239 b.toArray #[.int .u64 s,.int .u64 r,.int .u64 m,.int .u8 0,.int .u8 0,.int .u8 0,.int .u8 0,.int .u8 0,.int .u8 0,.int .u8 0,.int .u8 0,.int .u8 0,.int .u8 0,.int .u8 0,.int .u8 0,.int .u8 0,.int .u8 0,.int .u8 0,.int .u8 0,.int .u64 x,.slice A n c] h aA8 (by simp[d]) (by simp[Value.oneCell'])
theorem aJb (w:World)(s r m x:Int)(A:Option Addr)(n c:Nat):
 (stE (.pointer (some ⟨w.heap.size,0,none⟩)) (.agg #[.int .u64 s,.int .u64 r,.int .u64 m,.int .u8 0,.int .u8 0,.int .u8 0,.int .u8 0,.int .u8 0,.int .u8 0,.int .u8 0,.int .u8 0,.int .u8 0,.int .u8 0,.int .u8 0,.int .u8 0,.int .u8 0,.int .u8 0,.int .u8 0,.int .u8 0,.int .u64 x,.slice A n c])).run Tryz.prog (w.alloc (zC 239))= .ok () ((w.alloc (zC 239)).setRow w.heap.size #[.int .u64 s,.int .u64 r,.int .u64 m,.int .u8 0,.int .u8 0,.int .u8 0,.int .u8 0,.int .u8 0,.int .u8 0,.int .u8 0,.int .u8 0,.int .u8 0,.int .u8 0,.int .u8 0,.int .u8 0,.int .u8 0,.int .u8 0,.int .u8 0,.int .u8 0,.int .u64 x,.slice A n c]):=
 aEH _ _ _ (show Blk (w.alloc (zC 239)) w.heap.size zL 239 from Blk.new w zL _) rfl s r m x A n c
theorem aKe (l:List Int)(p i:Nat):u8 (l.drop p) i=u8 l (p+i):=by unfold u8;rw[List.drop_drop]
theorem aMw (l:List Int):taA (l.drop 48)=itA l:=by funext i;unfold taA itA;rw[aKe]
theorem aMx (l:List Int):taB (l.drop 48)=itH l:=by funext i;unfold taB itH;rw[aKe,Nat.add_assoc]
open Go.RowKit in
theorem aFf {P:Program}{p:Array Oper}{o:Oper}{a:Act}{w:World}{K:Act→World→Prop}{Q:Exit→Act→World→Prop}{E:Prop}(z:o.guard=none)(d s:Operand)(B D:TypeId)
 (G:o.op= .call {callee:= .builtin .copy,args:= #[d,s],argTypes:= #[B,D]})(c:TypeId)(L:P.underlying B=some (.slice c))(A:(P.info? c).map (·.size)=some 1)
 (C:Option Addr)(f m b l g i:Nat)(H:a.eval d= .slice (some ⟨g,i,none⟩) f m)(hs:a.eval s= .slice C b l)
 (k:List Value)(t:TypeId)(M:w.heap[g]? =some (.cells k.toArray t (0,0)))(n:List Value)(F:n.length=Nat.min b f)
 (r: ∃y,C=some y∧ ∀j v,n[j]? =some v→w.cell? (y.add j)=some v)
 (u:i+n.length≤k.length)(J: ∀v∈n,v.oneCell'=true)
 (h: ∀w',w'=w.setRow g (splice k i n).toArray→K (a.put o.dst (goInt n.length)) w'):
 if Region.wanted o (yielded p a.tmps)=true then Oper.wp P o a w K Q else E:=by
 have I:Region.wanted o (yielded p a.tmps)=true:=by simp[Region.wanted,z]
 rw[if_pos I]
 obtain⟨y,rfl,q⟩:=r
 have x:=run_copy_row (P:=P) w B D o.type c g i f m y b l k.toArray t n L A M F q (by simpa using u) J
 unfold Oper.wp
 simp[execOp,G,resolve,invoke,builtin,H,hs,x,Result.andThen]
 exact h _ (by simp[splice])
attribute [local go_sem ↓] st_fold
theorem aMy (A:Option Addr)(l:List Int)(n L a:Nat)(w:World)(hb:Bytes w A l)(hL:l.length=n)(hn:n≤1000000)(hc:n≤L)(ax:L≤maxLen)(ha:a≤18446744073709551615):
 Calls Tryz.prog 222 #[.slice A n L,.int .u64 (a:Int)] w (EntTold2 l a w):=by
 have b0:=yH ((Below.refl w.heap.size w).alloc (yR _) (zC 239))
 have R0:=yH (show Blk (w.alloc (zC 239)) w.heap.size zL 239 from Blk.new w zL _)
 have N:=yH (aIc A l n L a 48 16 3 48 16 (w.alloc (zC 239)) (hb.below b0.out (yR _)) hL hn hc ax ha (by decide) (by decide) (by decide) (by decide) rfl rfl)
 unfold Bodied2 at N
 have aF:=yH (aDJ (a:=a) hb.1)
 have s:entC0 l a=if ecode l a 3 48 16≠0 then ecode l a 3 48 16 else if u8 (bodyL l a) 0=0 then 13 else if risB (itA (bodyL l a)) (itN (bodyL l a))then 0 else 11:=rfl
 have aU:=yH (Nat.lt_succ_self w.heap.size)
 by_cases h1:ecode l a 3 48 16≠0
 ·rw[if_pos h1]at s
  have an:entC0 l a≠0:=by rw[s];exact h1
  have f:=yH (aHg an)
  have k:=yH s
  have HX:=yH h1
  clear s an hb hL
  generalize ecode l a 3 48 16=cd at*
  go_enter Tryz.func222,Tryz.ntmps222
  go_wp2_with(first
   |(go_at_call 184;(with_reducible refine N.out.mono ?_);rintro e w2 ⟨B,m,cb,rfl,d,_⟩;have R2:=yH (R0.out.below d R0.out.lt);have X:=yH (b0.out.trans (d.mono b0.out.size));clear d)
   |(refine wpList_store_row rfl 239 (.tmp 4) (.tmp 17) rfl w.heap.size _ rfl rfl 239 _ R2.out aA8 rfl aCt ?_))
  refine bodyPost_ret (v:= .tuple #[entV 0 0 0 (fun _=>0) 0 none 0 0,.int .i64 cd]) (by exact aAr Tryz.results222 _ _ w.heap.size 239 _ (0,0) _ _ rfl rfl (Blk.setRow R2.out zL) Tryz.underlying239 rfl aA8) rfl ?_
  unfold EntTold2
  rw[f.out.1,f.out.1,f.out.1,f.out.1,f.out.2.1,f.out.2.2,k.out]
  exact⟨none,0,rfl,aAi X.out (yR _) _,aBh _ _ _ _,fun b off e=>by cases e⟩
 ·have E:ecode l a 3 48 16=0:=by omega
  rw[if_neg h1]at s
  obtain⟨_,_,ar,ao,aL⟩:=aEw hL E
  rw[E]at N
  have aq:=yH s
  have aI:=yH (aQx (bodyL l a) (by omega))
  have p:=yH fun(i:Nat) (z:Int) (B:Option Addr) (m cb:Nat) (W:World) (hB:Bytes W B (bodyL l a)) (hm:(bodyL l a).length=m) (hz:z=(i:Int)) (hi:i+8≤m)=>aFd B (bodyL l a) m cb i z W hB hm (by omega) hi hz
  have I:=yH fun(C:Option Addr) (m cb:Nat) (W:World) (hB:Bytes W C ((bodyL l a).drop 48)) (hm:(bodyL l a).length=m)=>aHf C ((bodyL l a).drop 48) (m-48) cb (itN (bodyL l a)) W hB (by rw[List.length_drop,hm]) (by omega) (by unfold itN;rw[hm])
  rw[aMw,aMx]at I
  have ap:=aHg (l:=l) (a:=a)
  have al:entC0 l a=0→eNum l a 0=u8 (bodyL l a) 0∧eNum l a 8=u8 (bodyL l a) 8∧eNum l a 16=u8 (bodyL l a) 16∧eNum l a 40=u8 (bodyL l a) 40∧eK l a=itK (bodyL l a)∧eN l a=itN (bodyL l a):=fun h=>by
   obtain⟨t1,t2,t3⟩:=aFe h
   exact⟨t1 0,t1 8,t1 16,t1 40,t2,t3⟩
  have u:=yH (And.intro ap al)
  have aC:=yH (show itN (bodyL l a)≤1000000 by unfold itN;omega)
  have HM:=yH fun(m:Nat) (hm:(bodyL l a).length=m)=>show 64≤m∧m≤1000000 by omega
  clear s hb hL h1 E ar ao aL ap al
  generalize aa:bodyL l a=c at*
  have aA:=yH aa
  clear aa
  go_enter Tryz.func222,Tryz.ntmps222
  go_upto_region 4 with(go_at_call 184;(with_reducible refine N.out.mono ?_);rintro e w2 ⟨B,m,cb,rfl,d,aj⟩)
  obtain⟨d1,d2,d3,d4,d5⟩:=aj (by first|rfl|trivial)
  have R2:=yH (R0.out.below d R0.out.lt)
  have X:=yH (b0.out.trans (d.mono b0.out.size))
  have D1:=yH d1
  have D:=yH d2
  obtain⟨aQ,aV⟩:=HM.out m d2
  have af: ∀W:World,(Instr.slice 24 (.slice B m cb) (some (.int .i64 48)) none none).run Tryz.prog W= .ok (.slice (cutA B cb 48) (m-48) (cb-48)) W:=fun W:World=>aJC B m cb 48 (by omega) W
  have av: ∀W:World,(Instr.slice 24 (.slice B m cb) (some (.int .i64 24)) (some (.int .i64 40)) none).run Tryz.prog W= .ok (.slice (cutA B cb 24) 16 (cb-24)) W:=fun W:World=>aP1 B m cb 24 40 (by omega) (by omega) W
  have J:=yH (Bytes.cut d1 cb 48 (m-48) (by rw[d2];omega))
  rw[List.take_of_length_le (Nat.le_of_eq (by rw[List.length_drop,d2]))]at J
  have ae:=yH (Bytes.cut d1 cb 24 16 (by rw[d2];omega))
  rw[←aI.out]at ae
  clear d1 d2 d aj
  generalize cutA B cb 48=C1 at*
  generalize cutA B cb 24=C2 at*
  have M:=yH ((Below.refl w2.heap.size w2).alloc (yR _) (zC 239)).drew
  have Z:=yH (J.out.below M.out (yR _))
  have y:=yH (D1.out.below M.out (yR _))
  have ag:=yH (show Blk (w2.alloc (zC 239)).drew w2.heap.size zL 239 from Blk.new w2 zL _)
  have aG:=yH (yR w2.heap.size)
  go_cut [8]from 19 to 30 (fun z wx=> ∃(g:Nat) (r:Option Addr) (n3:Nat),n3=itN c∧z= .pointer (some ⟨g,0,none⟩)∧Hid (Blk wx g (entL (u8 c 0) (u8 c 8) (u8 c 16) (fun _=>0) (u8 c 40) r n3 n3) 239)∧Hid (In2 wx r n3 (itA c) (itH c))∧Hid (∀b off,r=some ⟨b,off,none⟩→b≠g∧w2.heap.size≤b)∧Hid (Below w2.heap.size w2 wx)∧Hid (w2.heap.size≤g))
  case first=>
   go_region_held3 (fun w'=>True) (first|(with_reducible exact trivial)) (first
    |(go_at_call 185;(first|(with_reducible refine(p.out 0 0 _ _ _ _ D1.out.drew D.out rfl (by omega)).mono ?_)|(with_reducible refine(p.out 8 8 _ _ _ _ D1.out.drew D.out rfl (by omega)).mono ?_)|(with_reducible refine(p.out 16 16 _ _ _ _ D1.out.drew D.out rfl (by omega)).mono ?_)|(with_reducible refine(p.out 40 40 _ _ _ _ D1.out.drew D.out rfl (by omega)).mono ?_)|(with_reducible refine(p.out 0 0 _ _ _ _ y.out D.out rfl (by omega)).mono ?_)|(with_reducible refine(p.out 8 8 _ _ _ _ y.out D.out rfl (by omega)).mono ?_)|(with_reducible refine(p.out 16 16 _ _ _ _ y.out D.out rfl (by omega)).mono ?_)|(with_reducible refine(p.out 40 40 _ _ _ _ y.out D.out rfl (by omega)).mono ?_));rintro e w' ⟨rfl,rfl⟩)
    |(go_at_call 242;(with_reducible refine(I.out C1 m (cb-48) _ Z.out D.out).mono ?_);rintro e w3 ⟨r,rfl,t,ac⟩;have ay:=yH t;have aH:=yH ac;have au:=yH (ag.out.below ac (by simp));have aR:=aEH w3 w2.heap.size _ au.out rfl (u8 c 0) (u8 c 8) (u8 c 16) (u8 c 40) r (itN c) (itN c);clear t ac)
    |(go_at_call 242;(with_reducible refine(I.out C1 m (cb-48) _ J.out.drew D.out).mono ?_);rintro e w4 ⟨A4,rfl,ah,am⟩;have aJ:=yH ah;have R:=yH am;have aO:=aJb w4 (u8 c 0) (u8 c 8) (u8 c 16) (u8 c 40) A4 (itN c) (itN c);clear ah am))
   all_goals
    go_wp2_with fail
    go_meet
    case rel=>
     first
     |(obtain⟨g3,rfl,az,_,aM⟩:=ay.out
       simp only[World.size_drew,World.size_alloc]at az
       exact⟨w2.heap.size,_,_,rfl,rfl,yH (Blk.setRow au.out (entL (u8 c 0) (u8 c 8) (u8 c 16) (fun _=>0) (u8 c 40) (some ⟨g3,0,none⟩) (itN c) (itN c))),yH (In2.setRow aM (fun b off e=>by injection e with e;injection e with e;omega) _),yH (fun b off e=>by injection e with e;injection e with e;omega),yH (aAi (M.out.trans (aH.out.mono (by simp))) (yR _) _),aG⟩)
     |(obtain⟨g4,rfl,aK,aP,aD⟩:=aJ.out
       simp only[World.size_drew]at aK
       exact⟨w4.heap.size,_,_,rfl,rfl,yH (Blk.setRow (show Blk (w4.alloc (zC 239)) w4.heap.size zL 239 from Blk.new w4 zL _) (entL (u8 c 0) (u8 c 8) (u8 c 16) (fun _=>0) (u8 c 40) (some ⟨g4,0,none⟩) (itN c) (itN c))),yH (In2.setRow (aD.keep ((Below.refl _ _).alloc (yR _) _)) (fun b off e=>by injection e with e;injection e with e;omega) _),yH (fun b off e=>by injection e with e;injection e with e;omega),yH (aAi (((Below.refl w2.heap.size w2).drew.trans R.out).alloc (Nat.le_trans (by simp) R.out.size) _) (Nat.le_trans (by simp) R.out.size) _),yH (Nat.le_trans (by simp) R.out.size)⟩)
  case rest=>
   obtain⟨g,r,n3,t,rfl,E3,I3,S3,B3,G3⟩:=hcut
   have ak:=yH (ae.out.below B3.out (yR _))
   have aS:=yH (aOp aF.out)
   have Y:=yH fun(W:World) (h:Bytes W C2 (idL (itK c)))=>show ∃ad,C2=some ad∧ ∀j v,((idL (itK c)).map (Value.int .u8))[j]? =some v→W.cell? (ad.add j)=some v from by
    obtain⟨ad,e,ai⟩:=h.source W (Below.refl _ _) (by simp[idL])
    refine⟨ad,e,fun j v hj=>?_⟩
    rw[List.getElem?_map]at hj
    obtain⟨x,hx,rfl⟩:=Option.map_eq_some_iff.1 hj
    exact ai j x hx
   clear Z y ag J ae M p I af
   go_wp2_with fail
   go_region_law (refine aFf (o:=⟨some 35,_,_,_,_,_⟩) rfl (.tmp 32) (.tmp 34) 24 24 rfl 5 Tryz.underlying24 size8 C2 16 _ 16 _ g 3 rfl rfl _ 239 E3.out.drew ((idL (itK c)).map (Value.int .u8)) rfl (Y.out _ ak.out.drew) (by simp[entL,idL]) (by intro v hv;obtain⟨x,_,rfl⟩:=List.mem_map.1 hv;rfl) ?_;intro w5 H;have E5:=yH (show Blk w5 g (entL (u8 c 0) (u8 c 8) (u8 c 16) (itK c) (u8 c 40) r n3 n3) 239 from H▸(Blk.setRow E3.out.drew (splice (entL (u8 c 0) (u8 c 8) (u8 c 16) (fun _=>0) (u8 c 40) r n3 n3) 3 ((idL (itK c)).map (Value.int .u8)))));have I5:=yH (show In2 w5 r n3 (itA c) (itH c)from H▸In2.setRow (w:=wc.drew) I3.out (fun b off e=>(S3.out b off e).1) _);have B5:=yH (show Below w2.heap.size w2 w5 from H▸aAi (B3.out.drew) G3.out _);clear H)
   have R5:=yH (R2.out.below B5.out R2.out.lt)
   have W5:=yH (X.out.trans (B5.out.mono X.out.size))
   have e0:=E5.out.cell (i:=0) rfl
   have aT:=E5.out.cell (i:=20) rfl
   have V:=yH (aMv r n3 n3 (itA c) (itH c) w5 I5.out (by rw[t];exact aC.out))
   have ab:=yH t
   have aB:=yH (fun b off (e:r=some ⟨b,off,none⟩)=>show b≠w.heap.size by have h1:=(S3.out b off e).2;have h2:=R2.out.lt;omega)
   have aw:=yH (fun b off (e:r=some ⟨b,off,none⟩)=>show w.heap.size≤b by have h1:=(S3.out b off e).2;have h2:=R2.out.lt;omega)
   clear E3 I3 S3 B3 ak Y t
   generalize u8 c 0=s0 at*
   generalize u8 c 8=s8 at*
   generalize u8 c 16=G at*
   generalize u8 c 40=F at*
   by_cases hz:s0=0
   ·have k:=yH (aq.out.trans (if_pos hz))
    have f:=yH (u.out.1 (by rw[k.out];decide))
    subst hz
    go_wp2_with(refine wpList_store_row rfl 239 (.tmp 4) (.tmp 39) rfl w.heap.size _ rfl rfl 239 _ R5.out aA8 rfl aCt ?_)
    refine bodyPost_ret (v:= .tuple #[entV 0 0 0 (fun _=>0) 0 none 0 0,.int .i64 13]) (by exact aAr Tryz.results222 _ _ w.heap.size 239 _ (0,0) _ _ rfl rfl (Blk.setRow R5.out zL) Tryz.underlying239 rfl aA8) rfl ?_
    unfold EntTold2
    rw[f.out.1,f.out.1,f.out.1,f.out.1,f.out.2.1,f.out.2.2,k.out]
    exact⟨none,0,rfl,aAi W5.out (yR _) _,aBh _ _ _ _,fun b off e=>by cases e⟩
   ·have E:=aq.out.trans (if_neg hz)
    cases hr:risB (itA c) n3 with
    |false=>
     rw[←ab.out,hr]at E
     have k:=yH (E.trans (if_neg (by decide)))
     have f:=yH (u.out.1 (by rw[k.out];decide))
     rw[hr]at V
     clear E hr
     go_wp2_with(first
      |(go_at_call 243;(with_reducible refine V.out.mono ?_);rintro e w6 ⟨rfl,q⟩;have R6:=yH (R5.out.below q R5.out.lt);have W6:=yH (W5.out.trans (q.mono W5.out.size));clear q)
      |(refine wpList_store_row rfl 239 (.tmp 4) (.tmp 44) rfl w.heap.size _ rfl rfl 239 _ R6.out aA8 rfl aCt ?_))
     refine bodyPost_ret (v:= .tuple #[entV 0 0 0 (fun _=>0) 0 none 0 0,.int .i64 11]) (by exact aAr Tryz.results222 _ _ w.heap.size 239 _ (0,0) _ _ rfl rfl (Blk.setRow R6.out zL) Tryz.underlying239 rfl aA8) rfl ?_
     unfold EntTold2
     rw[f.out.1,f.out.1,f.out.1,f.out.1,f.out.2.1,f.out.2.2,k.out]
     exact⟨none,0,rfl,aAi W6.out (yR _) _,aBh _ _ _ _,fun b off e=>by cases e⟩
    |true=>
     rw[←ab.out,hr]at E
     have k:=yH (E.trans (if_pos rfl))
     have f:=yH (u.out.2 k.out)
     rw[hr]at V
     clear E hr
     go_wp2_with(first
      |(go_at_call 243;(with_reducible refine V.out.mono ?_);rintro e w6 ⟨rfl,q⟩;have R6:=yH (R5.out.below q R5.out.lt);have W6:=yH (W5.out.trans (q.mono W5.out.size));have E6:=yH (E5.out.below q E5.out.lt);have I6:=yH (I5.out.keep q);clear q)
      |(refine wpList_load_row rfl 239 (.tmp 8) rfl g rfl 239 (entL s0 s8 G (itK c) F r n3 n3).toArray (0,0) _ E6.out Tryz.underlying239 rfl aA8 ?_)
      |(refine wpList_store_row rfl 239 (.tmp 4) (.tmp 45) rfl w.heap.size (entL s0 s8 G (itK c) F r n3 n3).toArray rfl rfl 239 _ R6.out aA8 rfl (aBB _ _ _ _ _ _ _ _) ?_))
     refine bodyPost_ret (v:= .tuple #[entV s0 s8 G (itK c) F r n3 n3,.int .i64 0]) (by exact aAr Tryz.results222 _ _ w.heap.size 239 _ (0,0) _ _ rfl rfl (Blk.setRow R6.out (entL s0 s8 G (itK c) F r n3 n3)) Tryz.underlying239 rfl aA8) rfl ?_
     unfold EntTold2
     obtain⟨t0,t8,aE,aN,tK,tN⟩:=f.out
     rw[t0,t8,aE,aN,tK,tN,k.out,←ab.out,aA.out]
     exact⟨r,n3,rfl,aAi W6.out (yR _) _,In2.setRow I6.out (fun b off e=>aB.out b off e) _,fun b off e=>aw.out b off e⟩
end Yg
namespace Yh
open Bytes8 Blk8 Own8 OwnE Ob Rows2 Kf Yc Yp Yd Ye Yg
def arX (l:List Int)(a:Nat):Int:=if ecode l a 6 8 8=0 then u8 (bodyL l a) 0 else 0
def arM (l:List Int)(a:Nat):Nat:=if ecode l a 6 8 8=0 then arN (bodyL l a)else 0
def ArrTold2 (l:List Int)(a:Nat)(w:World)(e:Ending)(w':World):Prop:=
 ∃A c,e= .returned (.tuple #[arrV (arX l a) A (arM l a) c,.int .i64 (ecode l a 6 8 8)])∧Below w.heap.size w w'∧InInts .u64 w' A (arM l a) (arF (bodyL l a))∧NewIn w.heap.size A
def Part1 (w:World)(g m k:Nat)(f:Nat→Int)(T:TypeId):Prop:=
 ∃vs:List Value,Blk w g vs T∧vs.length=m∧ ∀i,i<k→vs[i]? =some (.int .u64 (f i))
theorem Part1.new (w:World)(m:Nat)(f:Nat→Int)(T:TypeId)(g:Nat)(b:w.heap.size=g):Part1 (w.alloc (.cells (Array.replicate m (Value.int .u64 0)) T)) g m 0 f T:=
 ⟨List.replicate m (.int .u64 0),by subst b;have:=Blk.new w (List.replicate m (.int .u64 0)) T;simpa using this,by simp,fun i hi=>absurd hi (by omega)⟩
theorem Part1.cells {w:World}{g m k:Nat}{f:Nat→Int}{T:TypeId}(c:Part1 w g m k f T)(j:k<m):(∃u,w.cell? ⟨g,k,none⟩=some u)∧w.frozen? ⟨g,k,none⟩=false:=by
 obtain⟨d,b,i,_⟩:=c
 exact⟨⟨d[k],b.cell (List.getElem?_eq_getElem (by omega))⟩,b.frozen _⟩
theorem Part1.step {w:World}{g m k:Nat}{f:Nat→Int}{T:TypeId}(d:Part1 w g m k f T)(o:k<m):Part1 (w.setCell ⟨g,k,none⟩ (.int .u64 (f k))) g m (k+1) f T:=by
 obtain⟨n,l,c,j⟩:=d
 refine⟨_,l.set_ k _,by simp[c],fun i hi=>?_⟩
 rcases Nat.lt_or_ge i k with b|b
 ·rw[List.getElem?_set,if_neg (by omega)]
  exact j i b
 ·obtain rfl:i=k:=by omega
  rw[List.getElem?_set,if_pos rfl,if_pos (by omega)]
theorem Part1.lt {w:World}{g m k:Nat}{f:Nat→Int}{T:TypeId}(b:Part1 w g m k f T):g<w.heap.size:=by
 obtain⟨d,c,_⟩:=b
 exact c.lt
theorem Part1.blk {w w':World}{g m k:Nat}{f:Nat→Int}{T:TypeId}(b:Part1 w g m k f T)(h:w'.heap[g]? =w.heap[g]?):Part1 w' g m k f T:=by
 obtain⟨d,i,c⟩:=b
 exact⟨d,h.trans i,c⟩
theorem Part1.old {w:World}{g m k:Nat}{f:Nat→Int}{T:TypeId}(b:Part1 w g m k f T)(o:Obj):Part1 (w.alloc o).drew g m k f T:=b.blk (Below.heap_alloc w o g b.lt)
theorem Part1.ints {w:World}{g m:Nat}{f:Nat→Int}{T:TypeId}(c:Part1 w g m m f T)(j: ∀i,0≤f i∧f i≤18446744073709551615):InInts .u64 w (some ⟨g,0,none⟩) m f:=fun i hi=>by
 obtain⟨l,b,k,d⟩:=c
 refine⟨g,0,rfl,b.lt,by rw[Nat.zero_add];exact b.cell (d i hi),?_⟩
 have:=j i
 simp[Lit.wf,IntKind.min,IntKind.max,IntKind.signed,IntKind.bits]
 omega
theorem aMz:(Tryz.prog.info? 27).map (fun i=>(i.zero,i.size,i.bytes))=some (some (.int .u64 0),1,8):=by kernel_rfl
theorem aJc (p:Nat)(z:Int)(b:z=(p:Int))(c:p≤1000000)(w:World):
 (Instr.makeSlice 30 (.int .i64 z) (.int .i64 z)).run Tryz.prog w= .ok (.slice (some ⟨w.heap.size,0,none⟩) p p) (w.alloc (.cells (Array.replicate p (Value.int .u64 0)) 27)):=by
 subst b
 have h:=run_make_row' (P:=Tryz.prog) 30 27 (.int .u64 0) 8 Tryz.underlying30 aMz rfl .i64 .i64 p (by omega) (by omega) w
 have e:madeCells #[Value.int .u64 0] p=Array.replicate p (Value.int .u64 0):=by
  apply Array.ext'
  rw[toList_madeCells_one]
  simp
 rw[e]at h
 exact h
theorem aDX:(Tryz.prog.info? 242).map (·.size)=some 2:=by kernel_rfl
abbrev aL (x:Int)(A:Option Addr)(n c:Nat):List Value:=[.int .u64 x,.slice A n c]
theorem InInts.setRow {k:IntKind}{w:World}{a:Option Addr}{n:Nat}{f:Nat→Int}(o:InInts k w a n f){g:Nat}(j: ∀b c,a=some ⟨b,c,none⟩→b≠g)(d:Array Value):InInts k (w.setRow g d) a n f:=fun i hx=>by
 obtain⟨b,c,e,m,l,p⟩:=o i hx
 exact⟨b,c,e,by simpa using m,(cell_setRow_other w g d _ (j b c e)).trans l,p⟩
theorem aHh (A:Option Addr)(l:List Int)(n s a:Nat)(w:World)(u:Bytes w A l)(hL:l.length=n)(hn:n≤1000000)(hc:n≤s)(ac:s≤maxLen)(ha:a≤18446744073709551615):
 Calls Tryz.prog 181 #[.slice A n s,.int .u64 (a:Int)] w (ArrTold2 l a w):=by
 have b0:=yH ((Below.refl w.heap.size w).alloc (yR _) (arrC 242 0 none 0 0))
 have R0:=yH (show Blk (w.alloc (arrC 242 0 none 0 0)) w.heap.size (aL 0 none 0 0) 242 from Blk.new w _ _)
 have o:=yH (aIc A l n s a 8 8 6 8 8 (w.alloc (arrC 242 0 none 0 0)) (u.below b0.out (yR _)) hL hn hc ac ha (by decide) (by decide) (by decide) (by decide) rfl rfl)
 unfold Bodied2 at o
 have ad:=yH (aDJ (a:=a) u.1)
 have y:ecode l a 6 8 8≠0→arX l a=0∧arM l a=0:=fun h=>⟨if_neg h,if_neg h⟩
 have q:ecode l a 6 8 8=0→arX l a=u8 (bodyL l a) 0∧arM l a=arN (bodyL l a):=fun h=>⟨if_pos h,if_pos h⟩
 by_cases G:ecode l a 6 8 8≠0
 ·have L:=yH (y G)
  have HX:=yH G
  obtain⟨cd,C⟩: ∃cd,cd=ecode l a 6 8 8:=⟨_,rfl⟩
  rw[←C]at o HX G
  have F:=yH C
  clear C y q u hL
  go_enter Tryz.func181,Tryz.ntmps181
  go_wp2_with(first
   |(go_at_call 184;(with_reducible refine o.out.mono ?_);rintro e w2 ⟨B,m,cb,rfl,c,_⟩;have D:=yH (R0.out.below c R0.out.lt);have r:=yH (b0.out.trans (c.mono b0.out.size));clear c)
   |(refine wpList_store_row rfl 242 (.tmp 4) (.tmp 18) rfl w.heap.size _ rfl rfl 242 _ D.out aDX rfl (by simp[Value.oneCell']) ?_))
  refine bodyPost_ret (v:= .tuple #[arrV 0 none 0 0,.int .i64 cd]) (by exact aAr Tryz.results181 _ _ w.heap.size 242 _ (0,0) _ _ rfl rfl (Blk.setRow D.out (aL 0 none 0 0)) Tryz.underlying242 rfl aDX) rfl ?_
  unfold ArrTold2
  rw[L.out.1,L.out.2,←F.out]
  exact⟨none,0,rfl,aAi r.out (yR _) _,fun i hi=>absurd hi (by omega),fun b off e=>by cases e⟩
 ·have Z:ecode l a 6 8 8=0:=by omega
  obtain⟨_,_,X,N,ao⟩:=aEw hL Z
  rw[Z]at o
  have F:=yH Z
  have L:=yH (q Z)
  have j:=yH fun(i:Nat) (z:Int) (B:Option Addr) (m cb:Nat) (W:World) (hB:Bytes W B (bodyL l a)) (hm:(bodyL l a).length=m) (hz:z=(i:Int)) (hi:i+8≤m)=>aFd B (bodyL l a) m cb i z W hB hm (by omega) hi hz
  have HM:=yH fun(m:Nat) (hm:(bodyL l a).length=m)=>show 16≤m∧m≤1000000∧arN (bodyL l a)=(m-8)/8 from⟨by omega,by omega,by unfold arN;rw[hm]⟩
  clear y q u hL G Z X N ao
  generalize x:bodyL l a=f at*
  have ak:=yH x
  clear x
  go_enter Tryz.func181,Tryz.ntmps181
  go_upto_region 4 with(go_at_call 184;(with_reducible refine o.out.mono ?_);rintro e w2 ⟨B,m,cb,rfl,c,V⟩)
  obtain⟨d1,d2,d3,d4,d5⟩:=V (by first|rfl|trivial)
  have D:=yH (R0.out.below c R0.out.lt)
  have r:=yH (b0.out.trans (c.mono b0.out.size))
  have H:=yH d1
  have I:=yH d2
  obtain⟨ap,au,E⟩:=HM.out m d2
  obtain⟨t,ht⟩: ∃t,t=(m-8)/8:=⟨_,rfl⟩
  rw[←ht]at E
  have ab:IntKind.i64.wrap ((m:Int)-8)=(m:Int)-8:=by rw[IntKind.wrap_i64];omega
  have hq:((m:Int)-8).tdiv 8=(t:Int):=by rw[Int.tdiv_eq_ediv_of_nonneg (by omega)];omega
  have ae:((m:Int)-8)/8=(t:Int):=by omega
  have al:IntKind.i64.wrap (t:Int)=(t:Int):=by rw[IntKind.wrap_i64];omega
  have am:=aJc t (t:Int) rfl (by omega)
  have aj:=yH E
  have h8:8*t+8≤m:=by omega
  have ar:=yH (yR w2.heap.size)
  clear d1 d2 c V E ht
  have J:=yH ((Below.refl w2.heap.size w2).alloc (yR _) (.cells (Array.replicate t (Value.int .u64 0)) 27))
  have Bb:=yH ((Below.refl w2.heap.size w2).alloc (yR _) (arrC 242 0 none 0 0))
  have Da:=yH (H.out.below J.out (yR _)).drew
  have Db:=yH (H.out.below Bb.out (yR _)).drew
  have Dc:=yH (H.out.below (J.out.alloc J.out.size (arrC 242 0 none 0 0)) (yR _)).drew
  have Dd:=yH (H.out.below (Bb.out.alloc Bb.out.size (.cells (Array.replicate t (Value.int .u64 0)) 27)) (yR _)).drew
  go_cut [8]from 20 to 27 (fun z wx=> ∃(g d:Nat),z= .pointer (some ⟨g,0,none⟩)∧g≠d∧Hid (Blk wx g (aL (u8 f 0) (some ⟨d,0,none⟩) t t) 242)∧Hid (Part1 wx d t 0 (arF f) 27)∧Hid (Below w2.heap.size w2 wx)∧Hid (w2.heap.size≤g∧w2.heap.size≤d))
  case first=>
   go_region_held3 (fun w'=>True) (first|(with_reducible exact trivial)) (first
    |(go_at_call 185;(with_reducible refine(j.out 0 0 _ _ _ _ H.out.drew I.out rfl (by omega)).mono ?_);rintro e w' ⟨rfl,rfl⟩)
    |(go_at_call 185;(with_reducible refine(j.out 0 0 _ _ _ _ Da.out I.out rfl (by omega)).mono ?_);rintro e w' ⟨rfl,rfl⟩)
    |(go_at_call 185;(with_reducible refine(j.out 0 0 _ _ _ _ Db.out I.out rfl (by omega)).mono ?_);rintro e w' ⟨rfl,rfl⟩)
    |(go_at_call 185;(with_reducible refine(j.out 0 0 _ _ _ _ Dc.out I.out rfl (by omega)).mono ?_);rintro e w' ⟨rfl,rfl⟩)
    |(go_at_call 185;(with_reducible refine(j.out 0 0 _ _ _ _ Dd.out I.out rfl (by omega)).mono ?_);rintro e w' ⟨rfl,rfl⟩))
   all_goals
    go_wp2_with fail
    go_meet
    case rel=>
     first
     |exact⟨w2.heap.size+1,w2.heap.size,rfl,by omega,yH (Blk.new_at (w2.alloc (.cells (Array.replicate t (Value.int .u64 0)) 27)) (aL (u8 f 0) (some ⟨w2.heap.size,0,none⟩) t t) 242 (w2.heap.size+1) (by simp)).drew,yH (Part1.old (Part1.new w2 t (arF f) 27 w2.heap.size rfl) _),yH (J.out.alloc J.out.size _).drew,yH ⟨by omega,yR _⟩⟩
     |exact⟨w2.heap.size,w2.heap.size+1,rfl,by omega,yH ((Blk.new_at w2 (aL (u8 f 0) (some ⟨w2.heap.size+1,0,none⟩) t t) 242 w2.heap.size rfl).alloc _).drew,yH (Part1.new (w2.alloc (.cells (aL (u8 f 0) (some ⟨w2.heap.size+1,0,none⟩) t t).toArray 242)) t (arF f) 27 (w2.heap.size+1) (by simp)),yH ((((Below.refl w2.heap.size w2).alloc (yR _) _).alloc (by simp) _).drew),yH ⟨yR _,by omega⟩⟩
  case rest=>
   obtain⟨g,d,rfl,ah,E3,P3,B3,G3⟩:=hcut
   clear J Bb Da Db Dc Dd am hq ae al ab
   have R:=yH ah
   have q1:=E3.out.cell (i:=1) rfl
   go_wp2_with fail
   go_loopw [31] (fun i wr=> ∃k:Nat,k≤t∧i= .int .i64 (k:Int)∧Hid (Part1 wr d t k (arF f) 27)∧Hid (Blk wr g (aL (u8 f 0) (some ⟨d,0,none⟩) t t) 242)∧Hid (Below w2.heap.size w2 wr)) (fun i _=>t-(intOf i).toNat)
   case atStart=>exact⟨0,Nat.zero_le _,rfl,P3,E3,B3⟩
   case round=>
    obtain⟨k,hk,rfl,hp,M,u⟩:=hrel
    have r0:=M.out.cell (i:=0) rfl
    have r1:=M.out.cell (i:=1) rfl
    by_cases Y:k<t
    ·obtain⟨⟨v1,c1⟩,f1⟩:=hp.out.cells Y
     have af:wr.drew.cell? ⟨g,1,none⟩=some (.slice (some ⟨d,0,none⟩) t t):=r1
     have ai:(wr.setCell ⟨d,k,none⟩ (.int .u64 (u8 f (8+8*k)))).drew.cell? ⟨g,1,none⟩=some (.slice (some ⟨d,0,none⟩) t t):=(M.out.far (p:=⟨d,k,none⟩) (fun e=>R.out e) _).drew.cell (i:=1) rfl
     have aq:wr.drew.cell? ⟨d,k,none⟩=some v1:=c1
     have av:wr.drew.frozen? ⟨d,k,none⟩=false:=f1
     have HS:=yH (hp.out.step Y)
     have ag:arF f k=u8 f (8+8*k):=rfl
     rw[ag]at HS
     have Dr:=yH (H.out.below u.out (yR _)).drew
     have ay:IntKind.i64.wrap ((k:Int)*8)=(k:Int)*8:=by rw[IntKind.wrap_i64];omega
     have aw:IntKind.i64.wrap (8+(k:Int)*8)=8+(k:Int)*8:=by rw[IntKind.wrap_i64];omega
     have az:(0:Int)≤(k:Int):=by omega
     have ax:(k:Int)<(t:Int):=by omega
     go_wp2_with fail
     go_region_held3 (fun W=>W.cell? ⟨g,1,none⟩=some (.slice (some ⟨d,0,none⟩) t t)) (first|(with_reducible exact af)|(with_reducible exact ai)|go_keep) (first
      |(go_at_call 185;(with_reducible refine(j.out (8+8*k) _ _ _ _ _ Dr.out I.out (by omega) (by omega)).mono ?_);rintro e w' ⟨rfl,rfl⟩))
     all_goals
      go_wp2
      go_roundw
      case rel=>exact⟨k+1,by omega,by go_num,yH (HS.out.blk rfl),yH ((M.out.far (fun e=>R.out e) _).drew),yH ((u.out.setCell G3.out.2 _).drew)⟩
      case measure=>simp[intOf];omega
    ·obtain rfl:k=t:=by omega
     have HI:=yH (hp.out.ints (fun i=>aCE ad.out _))
     have R3:=yH (D.out.below u.out D.out.lt)
     have W3:=yH (r.out.trans (u.out.mono r.out.size))
     have an:=yH (show d≠w.heap.size by have G:=G3.out.2;have h2:=D.out.lt;omega)
     have aa:=yH (show w.heap.size≤d by have G:=G3.out.2;have h2:=D.out.lt;omega)
     go_wp2_with(first
      |(refine wpList_load_row rfl 242 (.tmp 8) rfl g rfl 242 (aL (u8 f 0) (some ⟨d,0,none⟩) k k).toArray (0,0) _ M.out Tryz.underlying242 rfl aDX ?_)
      |(refine wpList_store_row rfl 242 (.tmp 4) (.tmp 44) rfl w.heap.size (aL (u8 f 0) (some ⟨d,0,none⟩) k k).toArray rfl rfl 242 _ R3.out aDX rfl (by simp[Value.oneCell']) ?_))
     refine bodyPost_ret (v:= .tuple #[arrV (u8 f 0) (some ⟨d,0,none⟩) k k,.int .i64 0]) (by exact aAr Tryz.results181 _ _ w.heap.size 242 _ (0,0) _ _ rfl rfl (Blk.setRow R3.out (aL (u8 f 0) (some ⟨d,0,none⟩) k k)) Tryz.underlying242 rfl aDX) rfl ?_
     unfold ArrTold2
     rw[F.out,L.out.1,L.out.2,aj.out,ak.out]
     exact⟨_,k,rfl,aAi W3.out (yR _) _,InInts.setRow HI.out (fun b off e=>by injection e with e;injection e with e;have:=an.out;omega) _,fun b off e=>by injection e with e;injection e with e;have:=aa.out;omega⟩
end Yh
namespace Yq
end Yq
end Go.Proofs.YtlelnfokffflnaaGreat
