/-
  Texts beneath the proof.
-/
import Derived.Test.YtlelnfokffflnaaGreatQl15
set_option linter.unusedVariables false
set_option linter.unusedSimpArgs false
set_option maxRecDepth 100000
set_option maxHeartbeats 2000000
open Go.ChangeShapes Go.WideShapes Go.ChangeAt Go.RowKit
namespace Go.Proofs.YtlelnfokffflnaaGreat
namespace Fb
open Bytes8 Fa
theorem aF3 (l:List Int)(C:AllB l)(B:l.length≤9223372036854775807)(w:World):Calls Tryz.prog 97 #[.string (T l)] w fun e w'=>e= .returned (.bool (nmB l))∧w=w':=by
 have M:=aA9 l
 have F:=yH (aFq l C)
 have J:=yH fun j=>C.at_ j
 have X:=yH (fun j (hj:j<l.length) (h:okC (l.getD j 0)=false∨j=0∧isDig (l.getD j 0)=true)=>(by
  rcases h with h|⟨rfl,h⟩
  ·exact aN6 hj h
  ·unfold nmB;rw[h];simp:nmB l=false))
 have V:=yH (fun(h: ∀j,j<l.length→okC (l.getD j 0)=true∧(j=0→isDig (l.getD j 0)=false))=>(by
  rcases Nat.eq_zero_or_pos l.length with x|x
  ·obtain rfl:=List.eq_nil_of_length_eq_zero x
   rfl
  ·unfold nmB
   rw[(h 0 x).2 rfl,aN5 fun j hj=>(h j hj).1]
   simp:nmB l=(decide (1≤l.length)&&decide (l.length≤64))))
 generalize A:l.length=len at*
 have N:=yH A
 clear A
 generalize T l=S at*
 go_enter Tryz.func97,Tryz.ntmps97
 go_wp2
 go_loop [3] (fun i=> ∃k:Nat,k≤len∧i= .int .i64 (k:Int)∧Hid (∀j,j<k→okC (l.getD j 0)=true∧(j=0→isDig (l.getD j 0)=false))) (fun i=>len-(intOf i).toNat)
 case atStart=>exact⟨0,by omega,rfl,yH fun j hj=>absurd hj (by omega)⟩
 case round=>
  obtain⟨k,hk,rfl,b⟩:=hrel
  rcases Nat.lt_or_ge k len with R|H
  ·have D:=F.out k (by omega)
   have I:(k:Int)<(len:Int):=by omega
   obtain⟨c1,c2⟩:=J.out k
   have o:=yH (X.out k (by omega))
   have n:=yH (fun(h:okC (l.getD k 0)=true∧(k=0→isDig (l.getD k 0)=false)) j (hj:j<k+1)=>(by
    rcases Nat.lt_or_ge j k with r|r
    ·exact b.out j r
    ·obtain rfl:j=k:=by omega
     exact h:okC (l.getD j 0)=true∧(j=0→isDig (l.getD j 0)=false)))
   clear b
   generalize l.getD k 0=c at*
   have t:((48≤c∧c≤57∧0<k)∨(57<c∧65≤c∧c≤90)∨c=95)∧(okC c=true∧(k=0→isDig c=false))∨(c<48∨(48≤c∧c≤57∧k=0)∨(57<c∧c<65)∨(90<c∧c≠95))∧(okC c=false∨k=0∧isDig c=true):=by
    simp only[okC,isDig,isLet,Bool.or_eq_true,Bool.and_eq_true,decide_eq_true_eq,Bool.or_eq_false_iff,Bool.and_eq_false_iff,decide_eq_false_iff_not]
    omega
   rcases t with⟨s,g⟩|⟨s,g⟩
   ·have z:=yH (n.out g)
    clear o n g
    rcases s with⟨q,p,y⟩|⟨q,p,y⟩|rfl
    all_goals
     go_wp2
     go_round
     case rel=>exact⟨k+1,by omega,by go_num,z⟩
     case measure=>simp[intOf];omega
   ·have m:=yH (o.out g)
    clear n o g
    rcases s with q|⟨q,p,y⟩|⟨q,p⟩|⟨q,p⟩
    ·go_wp2
     go_ret
     exact⟨aAC m.out.symm,rfl⟩
    ·have Y: ¬(0:Int)<(k:Int):=by omega
     have G: ¬0<k:=by omega
     clear y
     go_wp2
     go_ret
     exact⟨aAC m.out.symm,rfl⟩
    ·go_wp2
     go_ret
     exact⟨aAC m.out.symm,rfl⟩
    ·have Z:(c==95)=false:=by simpa using p
     clear p
     go_wp2
     go_ret
     exact⟨aAC m.out.symm,rfl⟩
  ·obtain rfl:k=len:=by omega
   have d:=yH (V.out (fun j hj=>b.out j (by have:=N.out;omega)))
   clear b
   have E:k=0∨(1≤k∧k≤64)∨64<k:=by omega
   rcases E with rfl|⟨r,L⟩|r
   ·have f:=yH (d.out.trans (show(decide (1≤0)&&decide (0≤64))=false from rfl))
    clear d
    go_wp2
    go_ret
    exact⟨aAC f.out.symm,rfl⟩
   ·have f:=yH (d.out.trans (show(decide (1≤k)&&decide (k≤64))=true by rw[decide_eq_true r,decide_eq_true L];rfl))
    clear d
    have u:decide ((k:Int)≤64)=true:=by simp;omega
    go_wp2
    go_ret
    exact⟨aAC f.out.symm,rfl⟩
   ·have f:=yH (d.out.trans (show(decide (1≤k)&&decide (k≤64))=false by rw[decide_eq_false (show ¬k≤64 by omega)];simp))
    clear d
    have u:decide ((k:Int)≤64)=false:=by simp;omega
    go_wp2
    go_ret
    exact⟨aAC f.out.symm,rfl⟩
abbrev box (n v:List Int):Obj:= .cells #[.string (T n),.string (T v)] 82
end Fb
namespace Fb
open Bytes8 Fa
theorem aDZ (c:Int)(w:World):Calls Tryz.prog 218 #[.int .u8 c] w fun e w'=>e= .returned (.bool (isDig c))∧w=w':=by
 by_cases b:48≤c<;>by_cases d:c≤57
 all_goals
  go_enter Tryz.func218,Tryz.ntmps218
  go_wp2
  go_ret
  exact⟨by simp[isDig,b,d],rfl⟩
theorem aF4 (c:Int)(w:World):Calls Tryz.prog 219 #[.int .u8 c] w fun e w'=>e= .returned (.bool (isLet c))∧w=w':=by
 by_cases b:65≤c<;>by_cases d:c≤90
 all_goals
  go_enter Tryz.func219,Tryz.ntmps219
  go_wp2
  go_ret
  exact⟨by simp[isLet,b,d],rfl⟩
theorem name_any (l:List Int)(A:AllB l)(w:World):Calls Tryz.prog 174 #[.string (T l)] w fun e w'=>e= .returned (.bool (nmB l))∧w=w':=by
 have N:=aA9 l
 have r:=yH (aFq l A)
 have C:(T l).toList.isEmpty=decide (l.length=0):=by
  rw[aAz];cases l<;>rfl
 by_cases p:l.length=0
 ·have s:nmB l=false:=by
   obtain rfl:=List.eq_nil_of_length_eq_zero p
   rfl
  rw[s]
  rw[decide_eq_true p]at C
  generalize T l=S at*
  clear r
  go_enter Tryz.func174,Tryz.ntmps174
  go_wp2
  go_ret
  exact⟨rfl,rfl⟩
 rw[decide_eq_false p]at C
 by_cases L:64<l.length
 ·have s:nmB l=false:=by
   cases h:nmB l with
   |false=>rfl
   |true=>have:=aKv h;omega
  rw[s]
  generalize T l=S at*
  clear r
  go_enter Tryz.func174,Tryz.ntmps174
  go_wp2
  go_ret
  exact⟨rfl,rfl⟩
 have M: ∀w,(Instr.index 9 (.string (T l)) (.int .i64 0)).run Tryz.prog w= .ok (.int .u8 (l.getD 0 0)) w:=r.out 0 (by omega)
 have t:=yH fun w=>aDZ (l.getD 0 0) w
 cases f:isDig (l.getD 0 0)with
 |true=>
  have s:nmB l=false:=by unfold nmB;rw[f];simp
  rw[s]
  rw[f]at t
  clear r f
  generalize l.getD 0 0=X at*
  generalize T l=S at*
  go_enter Tryz.func174,Tryz.ntmps174
  go_wp2_with(go_at_call 218;(with_reducible refine(t.out _).mono ?_);rintro e w' ⟨rfl,rfl⟩)
  go_ret
  exact⟨rfl,rfl⟩
 |false=>
  have F:=yH (fun h=>aOF (l:=l) (by omega) (by omega) f h)
  have Y:=yH (fun j hj h=>aN6 (l:=l) (j:=j) hj h)
  rw[f]at t
  clear f
  have J:=yH fun j=>A.at_ j
  generalize y:l.length=len at*
  have R:=yH y
  clear y
  generalize D:l.getD 0 0=X at*
  clear D
  generalize T l=S at*
  go_enter Tryz.func174,Tryz.ntmps174
  go_wp2_with(go_at_call 218;(with_reducible refine(t.out _).mono ?_);rintro e w' ⟨rfl,rfl⟩)
  go_loop [18] (fun i=> ∃k:Nat,k≤len∧i= .int .i64 (k:Int)∧Hid (∀j,j<k→okC (l.getD j 0)=true)) (fun i=>len-(intOf i).toNat)
  case atStart=>exact⟨0,by omega,rfl,yH fun j hj=>absurd hj (by omega)⟩
  case round=>
   obtain⟨k,hk,rfl,m⟩:=hrel
   rcases Nat.lt_or_ge k len with V|H
   ·have B:=r.out k (by omega)
    have I:(k:Int)<(len:Int):=by omega
    have G:k≤64:=by omega
    have g:=yH fun w=>aDZ (l.getD k 0) w
    have n:=yH fun w=>aF4 (l.getD k 0) w
    obtain⟨c1,c2⟩:=J.out k
    have o:=yH (Y.out k (by omega))
    have b:=yH (fun(h:okC (l.getD k 0)=true) j (hj:j<k+1)=>(by
     rcases Nat.lt_or_ge j k with z|z
     ·exact m.out j z
     ·obtain rfl:j=k:=by omega
      exact h:okC (l.getD j 0)=true))
    clear m
    generalize l.getD k 0=c at*
    have x:okC c=true∧(isDig c=true∨isDig c=false∧isLet c=true∨isDig c=false∧isLet c=false∧c=95)∨okC c=false∧isDig c=false∧isLet c=false∧c≠95:=by
     unfold okC
     cases isDig c<;>cases isLet c<;>by_cases E:c=95<;>simp[E]
    rcases x with⟨d,f|⟨f,q⟩|⟨f,q,rfl⟩⟩|⟨d,f,q,Z⟩
    ·rw[f]at g
     clear f
     have b:=yH (b.out d)
     clear o d
     go_wp2_with(go_at_call 218;(with_reducible refine(g.out _).mono ?_);rintro e w' ⟨rfl,rfl⟩)
     go_round
     case rel=>exact⟨k+1,by omega,by go_num,b⟩
     case measure=>simp[intOf];omega
    ·rw[f]at g
     rw[q]at n
     clear f q
     have b:=yH (b.out d)
     clear o d
     go_wp2_with(first|(go_at_call 218;(with_reducible refine(g.out _).mono ?_);rintro e w' ⟨rfl,rfl⟩)|(go_at_call 219;(with_reducible refine(n.out _).mono ?_);rintro e w' ⟨rfl,rfl⟩))
     go_round
     case rel=>exact⟨k+1,by omega,by go_num,b⟩
     case measure=>simp[intOf];omega
    ·rw[f]at g
     rw[q]at n
     clear f q
     have b:=yH (b.out d)
     clear o d
     go_wp2_with(first|(go_at_call 218;(with_reducible refine(g.out _).mono ?_);rintro e w' ⟨rfl,rfl⟩)|(go_at_call 219;(with_reducible refine(n.out _).mono ?_);rintro e w' ⟨rfl,rfl⟩))
     go_round
     case rel=>exact⟨k+1,by omega,by go_num,b⟩
     case measure=>simp[intOf];omega
    ·rw[f]at g
     rw[q]at n
     clear f q
     have o:=yH (o.out d)
     clear b d
     go_wp2_with(first|(go_at_call 218;(with_reducible refine(g.out _).mono ?_);rintro e w' ⟨rfl,rfl⟩)|(go_at_call 219;(with_reducible refine(n.out _).mono ?_);rintro e w' ⟨rfl,rfl⟩))
     go_ret
     exact⟨aAC o.out.symm,rfl⟩
   ·obtain rfl:k=len:=by omega
    have u:=yH (F.out (fun j hj=>m.out j (by have:=R.out;omega)))
    clear m
    go_wp2
    go_ret
    exact⟨aAC u.out.symm,rfl⟩
end Fb
namespace Fc
open Bytes8 Blk8 Fa Fb
theorem aKh (a b:List Int)(h:a.length+b.length≤1000000)(w:World):(Op.stringOp .add (T a) (T b)).run Tryz.prog w= .ok (.string (T (a++b))) w:=by
 rw[run_string_add_sum w _ _ (by rw[aA9,aA9];omega),aQm]
theorem aBM (n v:List Int)(c:n.length+v.length≤900000)(w:World):
 Calls Tryz.prog 129 #[pv n v] w fun e w'=>e= .returned (.string (T (pay n v)))∧w.alloc (box n v)=w':=by
 have f:=aKh n [61] (by simp;omega)
 have d:=aKh (n++ [61]) v (by simp;omega)
 rw[←aPN]at f
 have b:pay n v=n++ [61]++v:=rfl
 rw[←b]at d
 dsimp only[pv,box]at*
 generalize T n=S at*
 generalize T v=V at*
 generalize T (n++ [61])=g at*
 generalize T (pay n v)=i at*
 clear b
 go_enter Tryz.func129,Tryz.ntmps129
 go_wp2
 go_ret
 exact⟨rfl,rfl⟩
def joinL (n v:List Int):List Int:=if flawI n v=0 then pay n v else []
theorem aBi {n v:List Int}(h:flawI n v=0):n.length≤64∧v.length≤256:=by
 unfold flawI at h
 by_cases b:nmB n=true
 ·rw[if_pos b]at h
  have:=(aKv b).2
  by_cases c:256<v.length
  ·rw[if_pos c]at h;cases h
  ·omega
 ·rw[if_neg b]at h;cases h
def Joined (n v:List Int)(w:World)(e:Ending)(w':World):Prop:= ∃A c,e= .returned (.tuple #[.slice A (joinL n v).length c,.int .i64 (flawI n v)])∧Bytes w' A (joinL n v)∧Grew w w'
theorem aKi (n v:List Int)(m:AllB n)(x:AllB v)(g:n.length≤9223372036854775807)(w:World):Calls Tryz.prog 128 #[pv n v] w (Joined n v w):=by
 have f:=yH fun w=>aF3 n m g w
 have t:=aA9 v
 by_cases h:flawI n v=0
 ·have d:joinL n v=pay n v:=if_pos h
  have k:=aBi h
  have b:nmB n=true:=by
   cases b:nmB n with
   |true=>rfl
   |false=>unfold flawI at h;rw[b]at h;cases h
  have z:=yH fun w=>aBM n v (by omega) w
  obtain⟨cf,B,c⟩:=aBL (pay n v) (aBr m x)
  have y:=fun w=>(c w).1
  have q:=yH fun w=>(c w).2
  clear c
  unfold Joined
  rw[d,h]
  rw[b]at f
  have l: ¬(256:Int)<(v.length:Int):=by omega
  dsimp only[pv,box]at*
  generalize T n=S at*
  generalize T v=V at*
  generalize T (pay n v)=P at*
  generalize pay n v=p at*
  generalize s:p.length=A at*
  generalize v.length=u at*
  clear h d k b
  go_enter Tryz.func128,Tryz.ntmps128
  go_wp2_with(first|(go_at_call 97;(with_reducible refine(f.out _).mono ?_);rintro e w' ⟨rfl,rfl⟩)|(go_at_call 129;(with_reducible refine(z.out _).mono ?_);rintro e w' ⟨rfl,rfl⟩))
  go_ret2
  refine⟨_,_,rfl,(q.out _).1 _ (by simp),?_⟩
  exact((Grew.refl w).alloc _).alloc _ |>.trans (q.out _).2
 ·have d:joinL n v=[]:=if_neg h
  have o:=Grew.boxed w (box n v)
  unfold Joined
  rw[d]
  cases b:nmB n with
  |false=>
   have i:flawI n v=1:=by unfold flawI;rw[b];rfl
   rw[i]
   rw[b]at f
   dsimp only[pv,box]at*
   generalize T n=S at*
   generalize T v=V at*
   clear d h i b
   go_enter Tryz.func128,Tryz.ntmps128
   go_wp2_with(go_at_call 97;(with_reducible refine(f.out _).mono ?_);rintro e w' ⟨rfl,rfl⟩)
   go_ret2
   exact⟨none,0,rfl,Bytes.nil _ _,o⟩
  |true=>
   have j:256<v.length:=by
    rcases Nat.lt_or_ge 256 v.length with r|r
    ·exact r
    ·exact absurd (by unfold flawI;rw[if_pos b,if_neg (by omega)]) h
   have i:flawI n v=21:=by unfold flawI;rw[if_pos b,if_pos j]
   rw[i]
   rw[b]at f
   dsimp only[pv,box]at*
   generalize T n=S at*
   generalize T v=V at*
   generalize v.length=u at*
   clear d h i b
   go_enter Tryz.func128,Tryz.ntmps128
   go_wp2_with(go_at_call 97;(with_reducible refine(f.out _).mono ?_);rintro e w' ⟨rfl,rfl⟩)
   go_ret2
   exact⟨none,0,rfl,Bytes.nil _ _,o⟩
end Fc
namespace Fc
end Fc
namespace Fo
open Bytes8 Fa Fb Fc
def lessP (n v m u:List Int):Bool:=ltL (pay n v) (pay m u)
theorem aCw (n v:List Int)(h:n.length+v.length≤900000)(w:World):
 Calls Tryz.prog 129 #[pv n v] w fun e w'=>e= .returned (.string (T (pay n v)))∧Grew w w':=
 (aBM n v h w).mono (by rintro e w' ⟨rfl,rfl⟩;exact⟨rfl,Grew.boxed _ _⟩)
end Fo
namespace Seq8
open Bytes8 Blk8 Fa Fb Numb Rows2
def SeqIn (w:World)(gq:Nat)(a:Option Addr)(len cap:Nat)(f:Nat→Int)(k:Nat):Prop:=
 Blk w gq [.slice a len cap,.int .i64 (k:Int)] 62∧InInts .i64 w a len f∧(0<len→ ∀b off,a=some ⟨b,off,none⟩→b≠gq)∧k≤len∧len≤9223372036854775807
theorem SeqIn.below {w w':World}{c:Nat}{a:Option Addr}{len b:Nat}{f:Nat→Int}{k:Nat}(h:SeqIn w c a len b f k)(d:Below w.heap.size w w'):SeqIn w' c a len b f k:=
 ⟨h.1.below d h.1.lt,h.2.1.below d,h.2.2⟩
theorem aBX {k:IntKind}{w w':World}{g:Nat}{a:Option Addr}{len:Nat}{f:Nat→Int}(h:InInts k w a len f)(j:KeptB w.heap.size g w w')(d:0<len→ ∀b c,a=some ⟨b,c,none⟩→b≠g):InInts k w' a len f:=fun i hi=>by
 obtain⟨b,c,e,l,m,n⟩:=h i hi
 exact⟨b,c,e,yL l j.size,(World.cell?_of_block (j.block b l (d (by omega) b c e))).trans m,n⟩
set_option maxRecDepth 100000 in
theorem aFg (g:Nat)(a:Option Addr)(len j:Nat)(f:Nat→Int)(k:Nat)(b:Int)(w:World)(I:1≤b)(M:b≤1000000)(h:SeqIn w g a len j f k):
 Calls Tryz.prog 63 #[.pointer (some ⟨g,0,none⟩),.int .i64 b] w fun e w'=> ∃(r k':Nat),e= .returned (.int .i64 (r:Int))∧(r:Int)<b∧SeqIn w' g a len j f k'∧KeptB w.heap.size g w w':=by
 obtain⟨C,o,c,N,G⟩:=h
 have q:=yH C
 have Y:=q.out.cell (i:=0) rfl
 have R:=q.out.cell (i:=1) rfl
 have X:=q.out.frozen 1
 by_cases z:k<len
 ·obtain⟨E,l,rfl,J,L,A⟩:=o k z
  have y:=c (by omega) E l rfl
  obtain⟨r,F,B⟩:=aDO (f k) b I
  have m:=yH fun w=>aBV (f k) b r w I (by omega) F.out
  have t: ¬(len:Int)≤(k:Int):=by omega
  have D: ∀v,(w.setCell ⟨g,1,none⟩ v).cell? ⟨E,l+k,none⟩=some (.int .i64 (f k)):=fun v=>by
   rw[←L];exact World.cell?_of_block (Below.heap_setCell _ _ _ _ y)
  have u:=yH o
  have d:=yH c
  have V:Tryz.prog.follows .mixedOrders=true:=by kernel_rfl
  clear o c C F A
  generalize f k=x at*
  go_enter Tryz.func63,Tryz.ntmps63
  go_wp2_with fail
  go_quiet (fail)
  obtain⟨n,s⟩: ∃x,x=nq:=⟨_,rfl⟩
  rw[←s]
  clear s nq
  go_wp2_with fail
  go_quiet ((go_at_call 18;exact aBZ (m.out _)))
  have H:=yH ((((KeptB.refl w.heap.size g w).drewN n).setCell (Or.inr rfl) (.int .i64 ((k:Int)+1)) (p:=⟨g,1,none⟩)).drewN nq)
  go_wp2
  go_ret
  refine⟨r,k+1,rfl,B,⟨?_,aBX u.out H.out d.out,d.out,by omega,G⟩,H.out⟩
  exact((q.out.drewN _).set_ 1 _).drewN _
 ·have t:(len:Int)≤(k:Int):=by omega
  have u:=yH o
  have d:=yH c
  clear o c C
  go_enter Tryz.func63,Tryz.ntmps63
  go_wp2_with fail
  go_quiet (fail)
  go_wp2
  go_ret
  refine⟨0,k,rfl,by omega,⟨q.out.drewN _,u.out,d.out,N,G⟩,(KeptB.refl _ _ _).drewN _⟩
abbrev nameLs:List (List Int):=[[65],[66],[77,69,83,83,65,71,69],[95,80,73,68],[88,95,49],[80,82,73,79,82,73,84,89]]
abbrev valueLs:List (List Int):=[[],[48],[49],[50,50],[97,61,98],[111,110,101,10,116,119,111],[0,255],[116,97,98,9,104,101,114,101],[108,111,110,103,32,108,111,110,103,32,108,111,110,103,32,108,111,110,103,32,108,111,110,103,32,108,111,110,103,32,108,111,110,103],[126,127,128]]
def texts (ls:List (List Int)):List Value:=ls.map fun l=> .string (T l)
theorem aMG: ∀n∈nameLs,AllB n∧nmB n=true:=by
 intro n b
 have h:nameLs.all (fun n=>n.all (fun x=>decide (0≤x)&&decide (x<256))&&nmB n)=true:=by decide+kernel
 have:=List.all_eq_true.1 h n b
 simp only[Bool.and_eq_true]at this
 exact⟨Ff.aGd this.1,this.2⟩
theorem aKj: ∀v∈valueLs,AllB v∧v.length≤256:=by
 intro n b
 have h:valueLs.all (fun n=>n.all (fun x=>decide (0≤x)&&decide (x<256))&&decide (n.length≤256))=true:=by decide+kernel
 have:=List.all_eq_true.1 h n b
 simp only[Bool.and_eq_true,decide_eq_true_eq]at this
 exact⟨Ff.aGd this.1,this.2⟩
theorem aOv {n v:List Int}(b:nmB n=true)(c:v.length≤256):flawI n v=0:=by
 unfold flawI;rw[if_pos b,if_neg (by omega)]
theorem aKk (w:World):Calls Tryz.prog 202 #[] w fun e w'=>e= .returned (.slice (some ⟨w.heap.size,0,none⟩) 6 6)∧Blk w' w.heap.size (texts nameLs) 9∧Below w.heap.size w w'∧w'.heap.size=w.heap.size+1:=by
 have h:texts nameLs=[.string {data:= #[65]},.string {data:= #[66]},.string {data:= #[77,69,83,83,65,71,69]},.string {data:= #[95,80,73,68]},.string {data:= #[88,95,49]},.string {data:= #[80,82,73,79,82,73,84,89]}]:=rfl
 rw[h]
 go_enter Tryz.func202,Tryz.ntmps202
 go_wp2
 go_ret
 exact⟨rfl,Blk.new w _ _,(Below.refl _ _).alloc (yR _) _,by simp⟩
set_option maxRecDepth 10000 in
theorem aJd (w:World):Calls Tryz.prog 203 #[] w fun e w'=>e= .returned (.slice (some ⟨w.heap.size,0,none⟩) 10 10)∧Blk w' w.heap.size (texts valueLs) 9∧Below w.heap.size w w'∧w'.heap.size=w.heap.size+1:=by
 have h:texts valueLs=[.string {data:= #[]},.string {data:= #[48]},.string {data:= #[49]},.string {data:= #[50,50]},.string {data:= #[97,61,98]},.string {data:= #[111,110,101,10,116,119,111]},.string {data:= #[0,255]},.string {data:= #[116,97,98,9,104,101,114,101]},.string {data:= #[108,111,110,103,32,108,111,110,103,32,108,111,110,103,32,108,111,110,103,32,108,111,110,103,32,108,111,110,103,32,108,111,110,103]},.string {data:= #[126,127,128]}]:=rfl
 rw[h]
 go_enter Tryz.func203,Tryz.ntmps203
 go_wp2
 go_ret
 exact⟨rfl,Blk.new w _ _,(Below.refl _ _).alloc (yR _) _,by simp⟩
end Seq8
namespace SeqP
open Bytes8 Blk8 Fa Fb Rows2 Seq8
theorem aMH (w:World)(g:Nat)(b:w.heap.size=g):Calls Tryz.prog 202 #[] w fun e w'=>e= .returned (.slice (some ⟨g,0,none⟩) 6 6)∧Blk w' g (texts nameLs) 9∧Below w.heap.size w w'∧w'.heap.size=g+1:=by
 subst b;exact aKk w
theorem aKl (w:World)(g:Nat)(b:w.heap.size=g):Calls Tryz.prog 203 #[] w fun e w'=>e= .returned (.slice (some ⟨g,0,none⟩) 10 10)∧Blk w' g (texts valueLs) 9∧Below w.heap.size w w'∧w'.heap.size=g+1:=by
 subst b;exact aJd w
theorem aOw {w:World}{g:Nat}{b:List (List Int)}{d:TypeId}(h:Blk w g (texts b) d)(i:Nat)(c:i<b.length):w.cell? ⟨g,i,none⟩=some (.string (T (b.getD i []))):=by
 refine h.cell ?_
 unfold texts
 rw[List.getElem?_map,List.getElem?_eq_getElem c]
 simp[List.getElem?_eq_getElem c]
theorem aFh {w:World}{g:Nat}{b:List (List Int)}{f:TypeId}(h:Blk w g (texts b) f)(i:Nat)(j:i<b.length){c:List Int}(d:c=b.getD i []):w.cell? ⟨g,i,none⟩=some (.string (T c)):=d▸aOw h i j
theorem getD_mem {b:List (List Int)}{i:Nat}(c:i<b.length):b.getD i []∈b:=by
 rw[List.getD_eq_getElem?_getD,List.getElem?_eq_getElem c]
 exact List.getElem_mem c
def Paired (gq:Nat)(a:Option Addr)(len cap:Nat)(f:Nat→Int)(w:World)(e:Ending)(w':World):Prop:=
 ∃n v k',e= .returned (pv n v)∧(AllB n∧AllB v∧flawI n v=0)∧SeqIn w' gq a len cap f k'∧KeptB w.heap.size gq w w'
set_option maxRecDepth 100000 in
theorem aMI (s:Nat)(a:Option Addr)(len l:Nat)(f:Nat→Int)(k:Nat)(w:World)(h:SeqIn w s a len l f k):
 Calls Tryz.prog 162 #[.pointer (some ⟨s,0,none⟩)] w (Paired s a len l f w):=by
 have aa:=h.1.lt
 have E:=yH ((Below.refl w.heap.size w).alloc (yR _) (.cells #[.string {data:= #[]},.string {data:= #[]}] 82))
 have S0:=yH (h.below E.out)
 have V:=yH (Blk.new w [.string {data:= #[]},.string {data:= #[]}] 82)
 have HI:=yH h.2.1
 have I:=yH h.2.2.1
 clear h
 unfold Paired
 have hm:Tryz.prog.follows .mixedOrders=true:=by kernel_rfl
 go_enter Tryz.func162,Tryz.ntmps162
 go_wp2_with fail
 go_region_with (first
  |(go_at_call 202;(with_reducible refine(aMH _ (w.heap.size+1) (by simp)).mono ?_);rintro e w1 ⟨rfl,N,o,ab⟩;have L:=yH N;have S1:=yH (SeqIn.below (w:=(w.alloc (.cells #[.string {data:= #[]},.string {data:= #[]}] 82)).drew) S0.out o);have M:=yH (Blk.below (w:=(w.alloc (.cells #[.string {data:= #[]},.string {data:= #[]}] 82)).drew) V.out o V.out.lt);have Z:=yH (E.out.drew.trans (o.mono E.out.size));clear N o)
  |(go_at_call 63;(with_reducible refine(aFg s a len l f k 6 w1 (by decide) (by decide) S1.out).mono ?_);rintro e w2 ⟨i,k2,rfl,hi,B,n⟩;have S2:=yH B;have H:=yH (Blk.keptB L.out n L.out.lt (by omega));have Y:=yH (Blk.keptB M.out n M.out.lt (by omega));have G:=yH ((KeptB.of_below (g:=s) Z.out).trans (n.mono Z.out.size));obtain⟨u,y⟩: ∃u,u=nameLs.getD i []:=⟨_,rfl⟩;have m:=yH y;clear y;have A:i<nameLs.length:=(by simp;omega);have d:=yH A;clear A;have x2:=aFh H.out i d.out m.out;clear B n)
  |(go_at_call 203;(with_reducible refine(aKl _ w2.heap.size rfl).mono ?_);rintro e w3 ⟨rfl,J,b,ac⟩;have R:=yH J;have S3:=yH (SeqIn.below S2.out b);have R3:=yH (Y.out.below b Y.out.lt);have F:=yH (H.out.below b H.out.lt);have K3:=yH (G.out.trans (KeptB.of_below (b.mono G.out.size)));have x3:=aFh F.out i d.out m.out;clear J b)
  |(go_at_call 63;(with_reducible refine(aFg s a len l f k2 10 w3 (by decide) (by decide) S3.out).mono ?_);rintro e w4 ⟨j,k4,rfl,hj,C,c⟩;have X:=yH C;have N4:=yH (Blk.keptB F.out c F.out.lt (by omega));have D:=yH (Blk.keptB R3.out c R3.out.lt (by omega));have V4:=yH (Blk.keptB R.out c R.out.lt (by have:=G.out.size;omega));have K4:=yH (K3.out.trans (c.mono K3.out.size));have x4:=aFh N4.out i d.out m.out;obtain⟨t,z⟩: ∃t,t=valueLs.getD j []:=⟨_,rfl⟩;have x:=yH z;clear z;have r:j<valueLs.length:=(by simp;omega);have q:=yH r;clear r;have y4:=aFh V4.out j q.out x.out;have f0:=D.out.frozen 0;have f1:=D.out.frozen 1;have c0:=D.out.cell (i:=0) rfl;have c1:=D.out.cell (i:=1) rfl;clear C c))
 all_goals
  go_wp2
  obtain⟨n1,n2⟩:=aMG u (by rw[m.out];exact getD_mem d.out)
  obtain⟨v1,v2⟩:=aKj t (by rw[x.out];exact getD_mem q.out)
  have HK:=(K4.out.setCell (p:=⟨w.heap.size,0,none⟩) (Or.inl (yR _)) (.string (T u))).setCell (p:=⟨w.heap.size,1,none⟩) (Or.inl (yR _)) (.string (T t))
  refine bodyPost_ret (v:=pv u t) (by simp[results,Tryz.results162,go_sem,c0,c1]) rfl ⟨u,t,k4,rfl,⟨n1,v1,aOv n2 v2⟩,⟨?_,aBX HI.out HK I.out,X.out.2.2⟩,HK⟩
  exact(X.out.1.far (p:=⟨w.heap.size,0,none⟩) (show s≠w.heap.size by omega) _).far (p:=⟨w.heap.size,1,none⟩) (show s≠w.heap.size by omega) _
end SeqP
namespace Fsp
open Bytes8 Blk8 Fa Fb OwnE
theorem aOx (l:List Int)(g:AllB l)(i:Nat)(d:i<l.length):((T l)[i]! ==(61:UInt8))=decide (l.getD i 0=61):=by
 have c:i<(T l).size:=by rw[aA9];exact d
 have b:i<(T l).toList.length:=by rw[aAz,List.length_map];exact d
 have f:(T l)[i]! =(T l)[i]'c:=getElem!_pos (T l) i c
 have m:((T l)[i]'c)=(T l).toList[i]'b:=by
  have:(T l).toList=(T l).data.toList:=ByteArray.toList_eq _
  simp only[this]
  rfl
 have j:(T l).toList[i]'b=(l[i]).toNat.toUInt8:=by simp only[aAz,List.getElem_map]
 have n:=g l[i] (List.getElem_mem d)
 have k:l.getD i 0=l[i]:=by simp[List.getElem?_eq_getElem d]
 rw[f,m,j,k]
 by_cases h:l[i]=61
 ·simp[h]
 ·have:(l[i]).toNat.toUInt8≠(61:UInt8):=fun e=>h (by
   have:=congrArg UInt8.toNat e
   simp at this
   omega)
  simp[h,this]
def idxI (l:List Int):Int:=if cutI l<l.length then(cutI l:Int)else -1
theorem aKm (l:List Int)(c:AllB l):firstIdx (T l) 61=idxI l:=by
 unfold firstIdx idxI
 rw[aA9]
 by_cases h:cutI l<l.length
 ·rw[if_pos h]
  have:(List.range l.length).find? (fun i=>(T l)[i]! ==(61:UInt8))=some (cutI l):=by
   rw[List.find?_range_eq_some]
   refine⟨?_,List.mem_range.2 h,fun j b=>?_⟩
   ·show((T l)[cutI l]! ==(61:UInt8))=true
    rw[aOx l c _ h,aHl h];rfl
   ·show(!((T l)[j]! ==(61:UInt8)))=true
    rw[aOx l c _ (by omega),decide_eq_false (aCe b)];rfl
  rw[this]
 ·rw[if_neg h]
  have:(List.range l.length).find? (fun i=>(T l)[i]! ==(61:UInt8))=none:=by
   rw[List.find?_range_eq_none]
   intro j b
   show(!((T l)[j]! ==(61:UInt8)))=true
   rw[aOx l c _ b,decide_eq_false (aCe (by have:=aHk l;omega))];rfl
  rw[this]
theorem aFi (l:List Int)(b:AllB l)(w:World):
 Calls Tryz.prog 245 #[.string (T l),.int .u8 61] w fun e w'=>e= .returned (.int .i64 (idxI l))∧w=w':=by
 have c: ∀w,(Extern.BytealgIndexByte.indexByte #[.string (T l),.int .u8 61]).run Tryz.prog w= .ok (.int .i64 (idxI l)) w:=fun w=>by
  rw[run_indexByte_string]
  show Result.ok (Value.int .i64 (firstIdx (T l) 61)) w=_
  rw[aKm l b]
 generalize T l=S at*
 generalize idxI l=I at*
 go_enter Tryz.func245,Tryz.ntmps245
 go_wp2
 rw[run_callFunc_extern Tryz.func249 (by kernel_rfl) (by kernel_rfl) (by kernel_rfl) (e:=Extern.BytealgIndexByte.indexByte) (by kernel_rfl),c]
 simp only[Result.andThen]
 rw[Oper.upon_value]
 go_wp2
 go_ret
 exact⟨rfl,rfl⟩
theorem aKn (l:List Int)(i:AllB l)(c:l.length≤1000000)(w:World):
 Calls Tryz.prog 244 #[.string (T l),.string {data:= #[61]}] w fun e w'=>e= .returned (.int .i64 (idxI l))∧w=w':=by
 have g:=yH fun w=>aFi l i w
 have d:([61]==(T l).toList)=decide ([61]=l):=by
  have j:=aHj (l:=[61]) (m:=l) (fun x hx=>by simp at hx;subst hx;decide) i
  rw[←j,show(T [61]).toList=[61]by rw[aAz];rfl]
 have b: ∀w,(Instr.index 9 (.string {data:= #[61]}) (.int .i64 0)).run Tryz.prog w= .ok (.int .u8 61) w:=fun w=>by
  have:=aFq [61] (fun x hx=>by simp at hx;subst hx;decide) 0 (by decide) w
  rw[aPN];exact this
 by_cases h: [61]=l
 ·have f:idxI l=0:=by subst h;decide
  rw[f]
  rw[decide_eq_true h]at d
  clear g b f h
  generalize T l=S at*
  go_enter Tryz.func244,Tryz.ntmps244
  go_wp2
  go_ret
  exact⟨rfl,rfl⟩
 ·rw[decide_eq_false h]at d
  clear h
  generalize T l=S at*
  generalize idxI l=I at*
  go_enter Tryz.func244,Tryz.ntmps244
  go_wp2_with(go_at_call 245;(with_reducible refine(g.out _).mono ?_);rintro e w' ⟨rfl,rfl⟩)
  go_ret
  exact⟨rfl,rfl⟩
theorem aMJ (l:List Int)(k:Nat)(c:k≤l.length)(w:World):(Instr.slice 9 (.string (T l)) none (some (.int .i64 (k:Int))) none).run Tryz.prog w= .ok (.string (T (l.take k))) w:=by
 have b:=aA9 l
 have e:=aPO l 0 k
 rw[List.drop_zero,Nat.sub_zero]at e
 rw[run_slice_string_to_if w 9 (T l) .i64 (k:Int) Tryz.underlying9,if_pos (by omega),Int.toNat_natCast,e]
theorem aMK (l:List Int)(k:Nat)(c:k≤l.length)(w:World):(Instr.slice 9 (.string (T l)) (some (.int .i64 (k:Int))) none none).run Tryz.prog w= .ok (.string (T (l.drop k))) w:=by
 have b:=aA9 l
 have e:=aPO l k l.length
 rw[List.take_of_length_le (by simp)]at e
 rw[run_slice_string_from_if w 9 (T l) .i64 (k:Int) Tryz.underlying9,if_pos (by omega),Int.toNat_natCast,b,e]
def cutA1 (l:List Int):List Int:=if cutI l<l.length then l.take (cutI l)else l
def cutA2 (l:List Int):List Int:=if cutI l<l.length then l.drop (cutI l+1)else []
theorem aML (l:List Int)(i:AllB l)(c:l.length≤1000000)(w:World):
 Calls Tryz.prog 238 #[.string (T l),.string {data:= #[61]}] w fun e w'=>e= .returned (.tuple #[.string (T (cutA1 l)),.string (T (cutA2 l)),.bool (decide (cutI l<l.length))])∧Grew w w':=by
 have g:=yH fun w=>aKn l i c w
 have j:=aA9 l
 by_cases h:cutI l<l.length
 ·have f:cutA1 l=l.take (cutI l):=if_pos h
  have b:cutA2 l=l.drop (cutI l+1):=if_pos h
  have d:idxI l=(cutI l:Int):=if_pos h
  have q:=aMJ l (cutI l) (by omega)
  have p: ∀w,(Instr.slice 9 (.string (T l)) (some (.int .i64 ((cutI l:Int)+1))) none none).run Tryz.prog w= .ok (.string (T (l.drop (cutI l+1)))) w:=aMK l (cutI l+1) (by omega)
  rw[f,b,decide_eq_true h]
  rw[d]at g
  have n:cutI l≤1000000:=by omega
  clear f b d i
  generalize l.length=len at*
  generalize T (l.take (cutI l))=m at*
  generalize T (l.drop (cutI l+1))=o at*
  generalize T l=S at*
  generalize cutI l=k at*
  go_enter Tryz.func238,Tryz.ntmps238
  go_wp2_with(go_at_call 244;(with_reducible refine(g.out _).mono ?_);rintro e w' ⟨rfl,rfl⟩)
  go_quiet (fail)
  go_wp2
  go_ret3
  exact⟨rfl,(Grew.refl w).drewN _⟩
 ·have f:cutA1 l=l:=if_neg h
  have b:cutA2 l=[]:=if_neg h
  have d:idxI l= -1:=if_neg h
  rw[f,b,decide_eq_false h,←aFp]
  rw[d]at g
  clear f b d i
  generalize T l=S at*
  go_enter Tryz.func238,Tryz.ntmps238
  go_wp2_with(go_at_call 244;(with_reducible refine(g.out _).mono ?_);rintro e w' ⟨rfl,rfl⟩)
  go_ret3
  exact⟨rfl,Grew.refl w⟩
theorem aOy (l:List Int)(g:AllB l)(c:l.length≤1000000)(w:World):
 Calls Tryz.prog 213 #[.string (T l),.string {data:= #[61]}] w fun e w'=>e= .returned (.tuple #[.string (T (cutA1 l)),.string (T (cutA2 l)),.bool (decide (cutI l<l.length))])∧Grew w w':=by
 have d:=yH fun w=>aML l g c w
 generalize T (cutA1 l)=i at*
 generalize T (cutA2 l)=j at*
 generalize decide (cutI l<l.length)=b at*
 generalize T l=S at*
 go_enter Tryz.func213,Tryz.ntmps213
 go_wp2_with(go_at_call 238;(with_reducible refine(d.out _).mono ?_);rintro e w' ⟨rfl,f⟩)
 go_ret3
 exact⟨rfl,f⟩
def Splitted (l:List Int)(w:World)(e:Ending)(w':World):Prop:=e= .returned (.tuple #[pv (splitN l) (splitV l),.int .i64 (splitE l)])∧Below w.heap.size w w'
set_option maxRecDepth 100000 in
set_option maxRecDepth 100000 in
theorem aF5 (a:Option Addr)(l:List Int)(len n:Nat)(w:World)(y:Bytes w a l)(E:l.length=len)(z:len≤1000000):
 Calls Tryz.prog 172 #[.slice a len n] w (Splitted l w):=by
 subst E
 have u:=y.1
 have t:=yH fun w=>aOy l u z w
 have F:(convert 24 9 (.slice a l.length n)).run Tryz.prog (w.alloc (.cells #[.string {data:= #[]},.string {data:= #[]}] 82))= .ok (.string (T l)) (w.alloc (.cells #[.string {data:= #[]},.string {data:= #[]}] 82)):=
  (y.below ((Below.refl w.heap.size w).alloc (yR _) _) (yR _)).string n _ rfl
 unfold Splitted
 have d:splitE l=if cutI l<l.length then(if nmB (l.take (cutI l))=true then(if 256<l.length-cutI l-1 then 21 else 0)else 20)else 20:=rfl
 have b0:Below w.heap.size w (w.alloc (.cells #[.string {data:= #[]},.string {data:= #[]}] 82)):=(Below.refl w.heap.size w).alloc (yR _) _
 by_cases h:cutI l<l.length
 ·have m:cutA1 l=l.take (cutI l):=if_pos h
  have p:cutA2 l=l.drop (cutI l+1):=if_pos h
  rw[m,p,decide_eq_true h]at t
  rw[if_pos h]at d
  have x:=yH fun w=>name_any (l.take (cutI l)) (u.take _) w
  have C:(T (l.drop (cutI l+1))).size=l.length-cutI l-1:=by rw[aA9,List.length_drop];omega
  cases g:nmB (l.take (cutI l))with
  |false=>
   rw[g]at x d
   have b:splitE l=20:=d
   obtain⟨j,f⟩:=aCC (l:=l) (by rw[b];decide)
   dsimp only[pv]
   rw[b,j,f,←aFp]
   clear d b j f g m p y u C
   generalize l.length=len at*
   generalize T (l.take (cutI l))=A at*
   generalize T (l.drop (cutI l+1))=B at*
   generalize T l=S at*
   clear h
   go_enter Tryz.func172,Tryz.ntmps172
   go_wp2_with(first|(go_at_call 213;(with_reducible refine(t.out _).mono ?_);rintro e w2 ⟨rfl,c⟩;have s:=yH (b0.trans (c.below.mono b0.size));have R:=yH ((Blk.new w [.string {data:= #[]},.string {data:= #[]}] 82).below c.below (by simp));have q:=R.out.cell (i:=0) rfl;have k:=R.out.cell (i:=1) rfl;have r:=R.out.frozen 0;have o:=R.out.frozen 1;clear c)|(go_at_call 174;(with_reducible refine(x.out _).mono ?_);rintro e w' ⟨rfl,rfl⟩))
   refine bodyPost_ret (v:= .tuple #[.agg #[.string {data:= #[]},.string {data:= #[]}],.int .i64 20]) (by simp[results_cell_tmp Tryz.results172,go_sem,q,k,r,o,Result.andThen]) rfl ⟨rfl,?_⟩
   (repeat (first|(with_reducible exact s.out)|refine Below.setCell ?_ (by simp) _|refine Below.alloc ?_ (by simp) _|refine below_drewN ?_ _))
  |true=>
   rw[g]at x d
   rw[if_pos rfl]at d
   by_cases D:256<l.length-cutI l-1
   ·have b:splitE l=21:=d.trans (if_pos D)
    obtain⟨j,f⟩:=aCC (l:=l) (by rw[b];decide)
    dsimp only[pv]
    rw[b,j,f,←aFp]
    clear d b j f g m p y u
    generalize l.length-cutI l-1=G at*
    generalize l.length=len at*
    generalize T (l.take (cutI l))=A at*
    generalize T (l.drop (cutI l+1))=B at*
    generalize T l=S at*
    clear h
    go_enter Tryz.func172,Tryz.ntmps172
    go_wp2_with(first|(go_at_call 213;(with_reducible refine(t.out _).mono ?_);rintro e w2 ⟨rfl,c⟩;have s:=yH (b0.trans (c.below.mono b0.size));have R:=yH ((Blk.new w [.string {data:= #[]},.string {data:= #[]}] 82).below c.below (by simp));have q:=R.out.cell (i:=0) rfl;have k:=R.out.cell (i:=1) rfl;have r:=R.out.frozen 0;have o:=R.out.frozen 1;clear c)|(go_at_call 174;(with_reducible refine(x.out _).mono ?_);rintro e w' ⟨rfl,rfl⟩))
    refine bodyPost_ret (v:= .tuple #[.agg #[.string {data:= #[]},.string {data:= #[]}],.int .i64 21]) (by simp[results_cell_tmp Tryz.results172,go_sem,q,k,r,o,Result.andThen]) rfl ⟨rfl,?_⟩
    (repeat (first|(with_reducible exact s.out)|refine Below.setCell ?_ (by simp) _|refine Below.alloc ?_ (by simp) _|refine below_drewN ?_ _))
   ·have b:splitE l=0:=d.trans (if_neg D)
    have j:splitN l=l.take (cutI l):=by unfold splitN;rw[if_pos b]
    have f:splitV l=l.drop (cutI l+1):=by unfold splitV;rw[if_pos b]
    dsimp only[pv]
    rw[b,j,f]
    clear d b j f g m p y u
    generalize l.length-cutI l-1=G at*
    generalize l.length=len at*
    generalize T (l.take (cutI l))=A at*
    generalize T (l.drop (cutI l+1))=B at*
    generalize T l=S at*
    clear h
    go_enter Tryz.func172,Tryz.ntmps172
    go_wp2_with(first|(go_at_call 213;(with_reducible refine(t.out _).mono ?_);rintro e w2 ⟨rfl,c⟩;have s:=yH (b0.trans (c.below.mono b0.size));have R:=yH ((Blk.new w [.string {data:= #[]},.string {data:= #[]}] 82).below c.below (by simp));have q:=R.out.cell (i:=0) rfl;have k:=R.out.cell (i:=1) rfl;have r:=R.out.frozen 0;have o:=R.out.frozen 1;clear c)|(go_at_call 174;(with_reducible refine(x.out _).mono ?_);rintro e w' ⟨rfl,rfl⟩))
    refine bodyPost_ret (v:= .tuple #[.agg #[.string A,.string B],.int .i64 0]) (by simp[results_cell_tmp Tryz.results172,go_sem,q,k,r,o,Result.andThen]) rfl ⟨rfl,?_⟩
    (repeat (first|(with_reducible exact s.out)|refine Below.setCell ?_ (by simp) _|refine Below.alloc ?_ (by simp) _|refine below_drewN ?_ _))
 ·have m:cutA1 l=l:=if_neg h
  have p:cutA2 l=[]:=if_neg h
  rw[m,p,decide_eq_false h,←aFp]at t
  rw[if_neg h]at d
  have b:splitE l=20:=d
  obtain⟨j,f⟩:=aCC (l:=l) (by rw[b];decide)
  dsimp only[pv]
  rw[b,j,f,←aFp]
  clear d b j f m p y u
  have x:=yH True.intro
  generalize l.length=len at*
  generalize T l=S at*
  clear h
  go_enter Tryz.func172,Tryz.ntmps172
  go_wp2_with(go_at_call 213;(with_reducible refine(t.out _).mono ?_);rintro e w2 ⟨rfl,c⟩;have s:=yH (b0.trans (c.below.mono b0.size));have R:=yH ((Blk.new w [.string {data:= #[]},.string {data:= #[]}] 82).below c.below (by simp));have q:=R.out.cell (i:=0) rfl;have k:=R.out.cell (i:=1) rfl;have r:=R.out.frozen 0;have o:=R.out.frozen 1;clear c)
  refine bodyPost_ret (v:= .tuple #[.agg #[.string {data:= #[]},.string {data:= #[]}],.int .i64 20]) (by simp[results_cell_tmp Tryz.results172,go_sem,q,k,r,o,Result.andThen]) rfl ⟨rfl,?_⟩
  (repeat (first|(with_reducible exact s.out)|refine Below.setCell ?_ (by simp) _|refine Below.alloc ?_ (by simp) _|refine below_drewN ?_ _))
end Fsp
namespace Fe
open Bytes8 Blk8 Fa Fb Fsp OwnE
theorem aQk (A:Option Addr)(len b c:Nat)(f:c≤b)(w:World):
 (Instr.slice 24 (.slice A len b) none (some (.int .i64 (c:Int))) none).run Tryz.prog w= .ok (.slice (cutA A b 0) c b) w:=by
 have d:Tryz.prog.underlying 24=some (.slice (Tryz.prog.elem 24)):=by rw[aDy];exact Tryz.underlying24
 rw[run_slice_h w 24 A len b d .i64 c (by omega) (by omega),aDy,aDc]
 simp[Result.andThen,sliced,cutA]
abbrev blank (w:World):World:=w.alloc (.cells #[.string {data:= #[]},.string {data:= #[]}] 82)
set_option maxRecDepth 100000 in
theorem aJe (a:Option Addr)(l:List Int)(len d:Nat)(w:World)(hb:Bytes w a l)(hL:l.length=len)(ab:len≤1000000)(aa:len≤d)(C:d≤maxLen):
 Calls Tryz.prog 96 #[.slice a len d] w (Splitted l w):=by
 unfold maxLen at C
 have hA:=hb.1
 have b0:Below w.heap.size w (blank w):=(Below.refl w.heap.size w).alloc (yR _) _
 have E:Bytes (blank w) a l:=hb.below b0 (yR _)
 have X:Bytes (blank w).drew a l:=E
 have R:=yH (Blk.new w [.string {data:= #[]},.string {data:= #[]}] 82)
 have s:Hid (splitE l=if cutI l<l.length then(if nmB (l.take (cutI l))=true then(if 256<l.length-cutI l-1 then 21 else 0)else 20)else 20):=yH rfl
 have q:=yH (fun h=>aCC (l:=l) h)
 have u:Hid (splitE l=0→splitN l=l.take (cutI l)):=yH fun h=>by unfold splitN;rw[if_pos h]
 have y:Hid (splitE l=0→splitV l=l.drop (cutI l+1)):=yH fun h=>by unfold splitV;rw[if_pos h]
 have HA:=yH hA
 have L:=yH E
 have r:=yH hL
 unfold Splitted
 dsimp only[pv,blank]at*
 have z:=yH b0
 clear E X hL hA hb b0
 go_enter Tryz.func96,Tryz.ntmps96
 go_wp2
 go_loop [4] (fun i=> ∃k:Nat,k≤len∧i= .int .i64 (k:Int)∧Hid (∀j,j<k→l.getD j 0≠61)) (fun i=>len-(intOf i).toNat)
 case atStart=>exact⟨0,by omega,rfl,yH fun j hj=>absurd hj (by omega)⟩
 case round=>
  obtain⟨k,hk,rfl,f⟩:=hrel
  rcases Nat.lt_or_ge k len with Y|ae
  ·obtain⟨b,p,rfl,ac,N⟩:=L.out.spot (by have:=r.out;omega)
   have D:=N k (by have:=r.out;omega)
   obtain⟨c1,c2⟩:=HA.out.at_ k
   have af:(k:Int)<(len:Int):=by omega
   by_cases t:l.getD k 0=61
   ·have hcut:cutI l=k:=aKw (by have:=r.out;omega) t f.out
    rw[t]at D
    clear c1 c2 t f N
    rw[hcut,r.out,if_pos Y]at s
    rw[hcut]at u y
    clear hcut
    have ag:=aQk (some ⟨b,p,none⟩) len d k (by omega)
    have H: ∀w,(Instr.slice 24 (.slice (some ⟨b,p,none⟩) len d) (some (.int .i64 ((k:Int)+1))) none none).run Tryz.prog w= .ok (.slice (cutA (some ⟨b,p,none⟩) d (k+1)) (len-(k+1)) (d-(k+1))) w:=aJC (some ⟨b,p,none⟩) len d (k+1) (by omega)
    have hv1:=((OwnE.Bytes.cut L.out d 0 k (by rw[r.out];omega))).string d k (by simp;have:=r.out;omega)
    have o:=((OwnE.Bytes.cut L.out.drew d 0 k (by rw[r.out];omega))).string d k (by simp;have:=r.out;omega)
    have n:=((OwnE.Bytes.cut L.out.drew d (k+1) (len-(k+1)) (by rw[r.out];omega))).string (d-(k+1)) (len-(k+1)) (by simp;have:=r.out;omega)
    rw[List.drop_zero]at hv1 o
    rw[List.take_of_length_le (by simp;have:=r.out;omega)]at n
    generalize cutA (some ⟨b,p,none⟩) d 0=A1 at*
    generalize cutA (some ⟨b,p,none⟩) d (k+1)=A2 at*
    have J:=yH fun w=>aF3 (l.take k) (HA.out.take k) (by have:=r.out;simp;omega) w
    have f0:=R.out.frozen 0
    have f1:=R.out.frozen 1
    have g0:=R.out.cell (i:=0) rfl
    have g1:=R.out.cell (i:=1) rfl
    cases x:nmB (l.take k)with
    |false=>
     rw[x]at J s
     have g:splitE l=20:=s.out
     obtain⟨B,A⟩:=q.out (by rw[g];decide)
     have m:=yH (And.intro g (And.intro B A))
     clear s g B A x q u y H n o
     change (convert _ _ _).run _ _= .ok (.string (T (l.take k))) _ at hv1
     generalize T (l.take k)=M at*
     go_wp2_with(go_at_call 97;(with_reducible refine(J.out _).mono ?_);rintro e w' ⟨rfl,rfl⟩)
     refine bodyPost_ret (v:= .tuple #[.agg #[.string {data:= #[]},.string {data:= #[]}],.int .i64 20]) (by simp[results_cell_tmp Tryz.results96,go_sem,Result.andThen]) rfl ⟨by rw[m.out.1,m.out.2.1,m.out.2.2,←aFp],?_⟩
     (repeat (first|(with_reducible exact z.out)|(with_reducible exact Below.refl _ _)|refine Below.setCell ?_ (by simp) _|refine Below.alloc ?_ (by simp) _|refine Below.drew ?_|refine below_drewN ?_ _))
    |true=>
     rw[x]at J s
     rw[if_pos rfl]at s
     change (convert _ _ _).run _ _= .ok (.string (T (l.take k))) _ at hv1
     change (convert _ _ _).run _ _= .ok (.string (T (l.take k))) _ at o
     change (convert _ _ _).run _ _= .ok (.string (T (l.drop (k+1)))) _ at n
     by_cases hv:256<len-k-1
     ·have g:splitE l=21:=s.out.trans (if_pos hv)
      obtain⟨B,A⟩:=q.out (by rw[g];decide)
      have m:=yH (And.intro g (And.intro B A))
      clear s g B A x q u y H n o
      have hv2:(256:Int)<(len:Int)-(k:Int)-1:=by omega
      generalize T (l.take k)=M at*
      go_wp2_with(go_at_call 97;(with_reducible refine(J.out _).mono ?_);rintro e w' ⟨rfl,rfl⟩)
      refine bodyPost_ret (v:= .tuple #[.agg #[.string {data:= #[]},.string {data:= #[]}],.int .i64 21]) (by simp[results_cell_tmp Tryz.results96,go_sem,Result.andThen]) rfl ⟨by rw[m.out.1,m.out.2.1,m.out.2.2,←aFp],?_⟩
      (repeat (first|(with_reducible exact z.out)|(with_reducible exact Below.refl _ _)|refine Below.setCell ?_ (by simp) _|refine Below.alloc ?_ (by simp) _|refine Below.drew ?_|refine below_drewN ?_ _))
     ·have g:splitE l=0:=s.out.trans (if_neg hv)
      have m:=yH (And.intro g (And.intro (u.out g) (y.out g)))
      clear s g x q u y
      have hv2: ¬(256:Int)<(len:Int)-(k:Int)-1:=by omega
      generalize I:T (l.take k)=M at*
      generalize G:T (l.drop (k+1))=S2 at*
      have Z:=yH I
      have V:=yH G
      clear I G
      go_wp2_with(go_at_call 97;(with_reducible refine(J.out _).mono ?_);rintro e w' ⟨rfl,rfl⟩)
      go_region
      all_goals
       go_wp2
       refine bodyPost_ret (v:= .tuple #[.agg #[.string M,.string S2],.int .i64 0]) (by simp[results_cell_tmp Tryz.results96,go_sem,Result.andThen]) rfl ⟨by rw[m.out.1,m.out.2.1,m.out.2.2,Z.out,V.out],?_⟩
       (repeat (first|(with_reducible exact z.out)|(with_reducible exact Below.refl _ _)|refine Below.setCell ?_ (by simp) _|refine Below.alloc ?_ (by simp) _|refine Below.drew ?_|refine below_drewN ?_ _))
   ·have ad:(l.getD k 0 !=61)=true:=by simpa using t
    have F:=yH (fun j (hj:j<k+1)=>(by
     rcases Nat.lt_or_ge j k with h1|h1
     ·exact f.out j h1
     ·obtain rfl:j=k:=by omega
      exact t:l.getD j 0≠61))
    clear f N t
    generalize l.getD k 0=c at*
    go_wp2
    go_round
    case rel=>exact⟨k+1,by omega,by go_num,F⟩
    case measure=>simp[intOf];omega
  ·obtain rfl:k=len:=by omega
   have hcut:cutI l=l.length:=aKx fun j hj=>f.out j (by have:=r.out;omega)
   rw[hcut,if_neg (Nat.lt_irrefl _)]at s
   have g:splitE l=20:=s.out
   obtain⟨B,A⟩:=q.out (by rw[g];decide)
   have m:=yH (And.intro g (And.intro B A))
   clear s g B A hcut f
   go_wp2
   refine bodyPost_ret (v:= .tuple #[.agg #[.string {data:= #[]},.string {data:= #[]}],.int .i64 20]) (by simp[results_cell_tmp Tryz.results96,go_sem,Result.andThen]) rfl ⟨by rw[m.out.1,m.out.2.1,m.out.2.2,←aFp],?_⟩
   (repeat (first|(with_reducible exact z.out)|(with_reducible exact Below.refl _ _)|refine Below.setCell ?_ (by simp) _|refine Below.alloc ?_ (by simp) _|refine Below.drew ?_|refine below_drewN ?_ _))
end Fe
end Go.Proofs.YtlelnfokffflnaaGreat
