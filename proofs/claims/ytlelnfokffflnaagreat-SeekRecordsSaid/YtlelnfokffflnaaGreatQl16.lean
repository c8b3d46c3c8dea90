/-
  Texts beneath the proof.
-/
import Derived.Test.YtlelnfokffflnaaGreatQl15
set_option linter.unusedVariables false
set_option linter.unusedSimpArgs false
set_option maxRecDepth 100000
set_option maxHeartbeats 2000000
open Go.ChangeShapes Go.WideShapes Go.ChangeAt Go.RowKit
namespace Go.Proofs.YtlelnfokffflnaaGreat
namespace Fb
open Bytes8 Fa
theorem aF3 (l:List Int)(A:AllB l)(B:l.length≤9223372036854775807)(w:World):Calls Tryz.prog 97 #[.string (T l)] w fun e w'=>e= .returned (.bool (nmB l))∧w=w':=by
 have R:=aA9 l
 have X:=yH (aFq l A)
 have M:=yH fun j=>A.at_ j
 have I:=yH (fun j (hj:j<l.length) (h:okC (l.getD j 0)=false∨j=0∧isDig (l.getD j 0)=true)=>(by
  rcases h with h|⟨rfl,h⟩
  ·exact aN6 hj h
  ·unfold nmB;rw[h];simp:nmB l=false))
 have H:=yH (fun(h: ∀j,j<l.length→okC (l.getD j 0)=true∧(j=0→isDig (l.getD j 0)=false))=>(by
  rcases Nat.eq_zero_or_pos l.length with r|r
  ·obtain rfl:=List.eq_nil_of_length_eq_zero r
   rfl
  ·unfold nmB
   rw[(h 0 r).2 rfl,aN5 fun j hj=>(h j hj).1]
   simp:nmB l=(decide (1≤l.length)&&decide (l.length≤64))))
 generalize y:l.length=len at*
 have F:=yH y
 clear y
 generalize T l=S at*
 go_enter Tryz.func97,Tryz.ntmps97
 go_wp2
 go_loop [3] (fun i=> ∃k:Nat,k≤len∧i= .int .i64 (k:Int)∧Hid (∀j,j<k→okC (l.getD j 0)=true∧(j=0→isDig (l.getD j 0)=false))) (fun i=>len-(intOf i).toNat)
 case atStart=>exact⟨0,by omega,rfl,yH fun j hj=>absurd hj (by omega)⟩
 case round=>
  obtain⟨k,hk,rfl,a⟩:=hrel
  rcases Nat.lt_or_ge k len with G|J
  ·have z:=X.out k (by omega)
   have D:(k:Int)<(len:Int):=by omega
   obtain⟨Y,Z⟩:=M.out k
   have n:=yH (I.out k (by omega))
   have m:=yH (fun(h:okC (l.getD k 0)=true∧(k=0→isDig (l.getD k 0)=false)) j (hj:j<k+1)=>(by
    rcases Nat.lt_or_ge j k with q|q
    ·exact a.out j q
    ·obtain rfl:j=k:=by omega
     exact h:okC (l.getD j 0)=true∧(j=0→isDig (l.getD j 0)=false)))
   clear a
   generalize l.getD k 0=c at*
   have t:((48≤c∧c≤57∧0<k)∨(57<c∧65≤c∧c≤90)∨c=95)∧(okC c=true∧(k=0→isDig c=false))∨(c<48∨(48≤c∧c≤57∧k=0)∨(57<c∧c<65)∨(90<c∧c≠95))∧(okC c=false∨k=0∧isDig c=true):=by
    simp only[okC,isDig,isLet,Bool.or_eq_true,Bool.and_eq_true,decide_eq_true_eq,Bool.or_eq_false_iff,Bool.and_eq_false_iff,decide_eq_false_iff_not]
    omega
   rcases t with⟨s,f⟩|⟨s,f⟩
   ·have u:=yH (m.out f)
    clear n m f
    rcases s with⟨p,o,x⟩|⟨p,o,x⟩|rfl
    all_goals
     go_wp2
     go_round
     case rel=>exact⟨k+1,by omega,by go_num,u⟩
     case measure=>simp[intOf];omega
   ·have g:=yH (n.out f)
    clear m n f
    rcases s with p|⟨p,o,x⟩|⟨p,o⟩|⟨p,o⟩
    ·go_wp2
     go_ret
     exact⟨aAC g.out.symm,rfl⟩
    ·have C: ¬(0:Int)<(k:Int):=by omega
     have N: ¬0<k:=by omega
     clear x
     go_wp2
     go_ret
     exact⟨aAC g.out.symm,rfl⟩
    ·go_wp2
     go_ret
     exact⟨aAC g.out.symm,rfl⟩
    ·have E:(c==95)=false:=by simpa using o
     clear o
     go_wp2
     go_ret
     exact⟨aAC g.out.symm,rfl⟩
  ·obtain rfl:k=len:=by omega
   have b:=yH (H.out (fun j hj=>a.out j (by have:=F.out;omega)))
   clear a
   have V:k=0∨(1≤k∧k≤64)∨64<k:=by omega
   rcases V with rfl|⟨q,L⟩|q
   ·have d:=yH (b.out.trans (show(decide (1≤0)&&decide (0≤64))=false from rfl))
    clear b
    go_wp2
    go_ret
    exact⟨aAC d.out.symm,rfl⟩
   ·have d:=yH (b.out.trans (show(decide (1≤k)&&decide (k≤64))=true by rw[decide_eq_true q,decide_eq_true L];rfl))
    clear b
    have v:decide ((k:Int)≤64)=true:=by simp;omega
    go_wp2
    go_ret
    exact⟨aAC d.out.symm,rfl⟩
   ·have d:=yH (b.out.trans (show(decide (1≤k)&&decide (k≤64))=false by rw[decide_eq_false (show ¬k≤64 by omega)];simp))
    clear b
    have v:decide ((k:Int)≤64)=false:=by simp;omega
    go_wp2
    go_ret
    exact⟨aAC d.out.symm,rfl⟩
abbrev box (n v:List Int):Obj:= .cells #[.string (T n),.string (T v)] 82
end Fb
namespace Fb
open Bytes8 Fa
theorem aDZ (c:Int)(w:World):Calls Tryz.prog 218 #[.int .u8 c] w fun e w'=>e= .returned (.bool (isDig c))∧w=w':=by
 by_cases b:48≤c<;>by_cases a:c≤57
 all_goals
  go_enter Tryz.func218,Tryz.ntmps218
  go_wp2
  go_ret
  exact⟨by simp[isDig,b,a],rfl⟩
theorem aF4 (c:Int)(w:World):Calls Tryz.prog 219 #[.int .u8 c] w fun e w'=>e= .returned (.bool (isLet c))∧w=w':=by
 by_cases b:65≤c<;>by_cases a:c≤90
 all_goals
  go_enter Tryz.func219,Tryz.ntmps219
  go_wp2
  go_ret
  exact⟨by simp[isLet,b,a],rfl⟩
theorem name_any (l:List Int)(z:AllB l)(w:World):Calls Tryz.prog 174 #[.string (T l)] w fun e w'=>e= .returned (.bool (nmB l))∧w=w':=by
 have N:=aA9 l
 have r:=yH (aFq l z)
 have v:(T l).toList.isEmpty=decide (l.length=0):=by
  rw[aAz];cases l<;>rfl
 by_cases o:l.length=0
 ·have q:nmB l=false:=by
   obtain rfl:=List.eq_nil_of_length_eq_zero o
   rfl
  rw[q]
  rw[decide_eq_true o]at v
  generalize T l=S at*
  clear r
  go_enter Tryz.func174,Tryz.ntmps174
  go_wp2
  go_ret
  exact⟨rfl,rfl⟩
 rw[decide_eq_false o]at v
 by_cases X:64<l.length
 ·have q:nmB l=false:=by
   cases h:nmB l with
   |false=>rfl
   |true=>have:=aKv h;omega
  rw[q]
  generalize T l=S at*
  clear r
  go_enter Tryz.func174,Tryz.ntmps174
  go_wp2
  go_ret
  exact⟨rfl,rfl⟩
 have M: ∀w,(Instr.index 9 (.string (T l)) (.int .i64 0)).run Tryz.prog w= .ok (.int .u8 (l.getD 0 0)) w:=r.out 0 (by omega)
 have s:=yH fun w=>aDZ (l.getD 0 0) w
 cases d:isDig (l.getD 0 0)with
 |true=>
  have q:nmB l=false:=by unfold nmB;rw[d];simp
  rw[q]
  rw[d]at s
  clear r d
  generalize l.getD 0 0=L at*
  generalize T l=S at*
  go_enter Tryz.func174,Tryz.ntmps174
  go_wp2_with(go_at_call 218;(with_reducible refine(s.out _).mono ?_);rintro e w' ⟨rfl,rfl⟩)
  go_ret
  exact⟨rfl,rfl⟩
 |false=>
  have R:=yH (fun h=>aOF (l:=l) (by omega) (by omega) d h)
  have G:=yH (fun j hj h=>aN6 (l:=l) (j:=j) hj h)
  rw[d]at s
  clear d
  have I:=yH fun j=>z.at_ j
  generalize x:l.length=len at*
  have E:=yH x
  clear x
  generalize C:l.getD 0 0=L at*
  clear C
  generalize T l=S at*
  go_enter Tryz.func174,Tryz.ntmps174
  go_wp2_with(go_at_call 218;(with_reducible refine(s.out _).mono ?_);rintro e w' ⟨rfl,rfl⟩)
  go_loop [18] (fun i=> ∃k:Nat,k≤len∧i= .int .i64 (k:Int)∧Hid (∀j,j<k→okC (l.getD j 0)=true)) (fun i=>len-(intOf i).toNat)
  case atStart=>exact⟨0,by omega,rfl,yH fun j hj=>absurd hj (by omega)⟩
  case round=>
   obtain⟨k,hk,rfl,g⟩:=hrel
   rcases Nat.lt_or_ge k len with F|H
   ·have y:=r.out k (by omega)
    have B:(k:Int)<(len:Int):=by omega
    have J:k≤64:=by omega
    have f:=yH fun w=>aDZ (l.getD k 0) w
    have m:=yH fun w=>aF4 (l.getD k 0) w
    obtain⟨Y,Z⟩:=I.out k
    have n:=yH (G.out k (by omega))
    have a:=yH (fun(h:okC (l.getD k 0)=true) j (hj:j<k+1)=>(by
     rcases Nat.lt_or_ge j k with A|A
     ·exact g.out j A
     ·obtain rfl:j=k:=by omega
      exact h:okC (l.getD j 0)=true))
    clear g
    generalize l.getD k 0=c at*
    have u:okC c=true∧(isDig c=true∨isDig c=false∧isLet c=true∨isDig c=false∧isLet c=false∧c=95)∨okC c=false∧isDig c=false∧isLet c=false∧c≠95:=by
     unfold okC
     cases isDig c<;>cases isLet c<;>by_cases V:c=95<;>simp[V]
    rcases u with⟨b,d|⟨d,p⟩|⟨d,p,rfl⟩⟩|⟨b,d,p,D⟩
    ·rw[d]at f
     clear d
     have a:=yH (a.out b)
     clear n b
     go_wp2_with(go_at_call 218;(with_reducible refine(f.out _).mono ?_);rintro e w' ⟨rfl,rfl⟩)
     go_round
     case rel=>exact⟨k+1,by omega,by go_num,a⟩
     case measure=>simp[intOf];omega
    ·rw[d]at f
     rw[p]at m
     clear d p
     have a:=yH (a.out b)
     clear n b
     go_wp2_with(first|(go_at_call 218;(with_reducible refine(f.out _).mono ?_);rintro e w' ⟨rfl,rfl⟩)|(go_at_call 219;(with_reducible refine(m.out _).mono ?_);rintro e w' ⟨rfl,rfl⟩))
     go_round
     case rel=>exact⟨k+1,by omega,by go_num,a⟩
     case measure=>simp[intOf];omega
    ·rw[d]at f
     rw[p]at m
     clear d p
     have a:=yH (a.out b)
     clear n b
     go_wp2_with(first|(go_at_call 218;(with_reducible refine(f.out _).mono ?_);rintro e w' ⟨rfl,rfl⟩)|(go_at_call 219;(with_reducible refine(m.out _).mono ?_);rintro e w' ⟨rfl,rfl⟩))
     go_round
     case rel=>exact⟨k+1,by omega,by go_num,a⟩
     case measure=>simp[intOf];omega
    ·rw[d]at f
     rw[p]at m
     clear d p
     have n:=yH (n.out b)
     clear a b
     go_wp2_with(first|(go_at_call 218;(with_reducible refine(f.out _).mono ?_);rintro e w' ⟨rfl,rfl⟩)|(go_at_call 219;(with_reducible refine(m.out _).mono ?_);rintro e w' ⟨rfl,rfl⟩))
     go_ret
     exact⟨aAC n.out.symm,rfl⟩
   ·obtain rfl:k=len:=by omega
    have t:=yH (R.out (fun j hj=>g.out j (by have:=E.out;omega)))
    clear g
    go_wp2
    go_ret
    exact⟨aAC t.out.symm,rfl⟩
end Fb
namespace Fc
open Bytes8 Blk8 Fa Fb
theorem aKh (a b:List Int)(h:a.length+b.length≤1000000)(w:World):(Op.stringOp .add (T a) (T b)).run Tryz.prog w= .ok (.string (T (a++b))) w:=by
 rw[run_string_add_sum w _ _ (by rw[aA9,aA9];omega),aQm]
theorem aBM (n v:List Int)(a:n.length+v.length≤900000)(w:World):
 Calls Tryz.prog 129 #[pv n v] w fun e w'=>e= .returned (.string (T (pay n v)))∧w.alloc (box n v)=w':=by
 have d:=aKh n [61] (by simp;omega)
 have c:=aKh (n++ [61]) v (by simp;omega)
 rw[←aPN]at d
 have b:pay n v=n++ [61]++v:=rfl
 rw[←b]at c
 dsimp only[pv,box]at*
 generalize T n=S at*
 generalize T v=V at*
 generalize T (n++ [61])=f at*
 generalize T (pay n v)=g at*
 clear b
 go_enter Tryz.func129,Tryz.ntmps129
 go_wp2
 go_ret
 exact⟨rfl,rfl⟩
def joinL (n v:List Int):List Int:=if flawI n v=0 then pay n v else []
theorem aBi {n v:List Int}(h:flawI n v=0):n.length≤64∧v.length≤256:=by
 unfold flawI at h
 by_cases a:nmB n=true
 ·rw[if_pos a]at h
  have:=(aKv a).2
  by_cases b:256<v.length
  ·rw[if_pos b]at h;cases h
  ·omega
 ·rw[if_neg a]at h;cases h
def Joined (n v:List Int)(w:World)(e:Ending)(w':World):Prop:= ∃A c,e= .returned (.tuple #[.slice A (joinL n v).length c,.int .i64 (flawI n v)])∧Bytes w' A (joinL n v)∧Grew w w'
theorem aKi (n v:List Int)(l:AllB n)(y:AllB v)(g:n.length≤9223372036854775807)(w:World):Calls Tryz.prog 128 #[pv n v] w (Joined n v w):=by
 have d:=yH fun w=>aF3 n l g w
 have x:=aA9 v
 by_cases h:flawI n v=0
 ·have c:joinL n v=pay n v:=if_pos h
  have f:=aBi h
  have a:nmB n=true:=by
   cases a:nmB n with
   |true=>rfl
   |false=>unfold flawI at h;rw[a]at h;cases h
  have r:=yH fun w=>aBM n v (by omega) w
  obtain⟨cf,z,b⟩:=aBL (pay n v) (aBr l y)
  have t:=fun w=>(b w).1
  have m:=yH fun w=>(b w).2
  clear b
  unfold Joined
  rw[c,h]
  rw[a]at d
  have k: ¬(256:Int)<(v.length:Int):=by omega
  dsimp only[pv,box]at*
  generalize T n=S at*
  generalize T v=V at*
  generalize T (pay n v)=P at*
  generalize pay n v=p at*
  generalize s:p.length=A at*
  generalize v.length=u at*
  clear h c f a
  go_enter Tryz.func128,Tryz.ntmps128
  go_wp2_with(first|(go_at_call 97;(with_reducible refine(d.out _).mono ?_);rintro e w' ⟨rfl,rfl⟩)|(go_at_call 129;(with_reducible refine(r.out _).mono ?_);rintro e w' ⟨rfl,rfl⟩))
  go_ret2
  refine⟨_,_,rfl,(m.out _).1 _ (by simp),?_⟩
  exact((Grew.refl w).alloc _).alloc _ |>.trans (m.out _).2
 ·have c:joinL n v=[]:=if_neg h
  have o:=Grew.boxed w (box n v)
  unfold Joined
  rw[c]
  cases a:nmB n with
  |false=>
   have j:flawI n v=1:=by unfold flawI;rw[a];rfl
   rw[j]
   rw[a]at d
   dsimp only[pv,box]at*
   generalize T n=S at*
   generalize T v=V at*
   clear c h j a
   go_enter Tryz.func128,Tryz.ntmps128
   go_wp2_with(go_at_call 97;(with_reducible refine(d.out _).mono ?_);rintro e w' ⟨rfl,rfl⟩)
   go_ret2
   exact⟨none,0,rfl,Bytes.nil _ _,o⟩
  |true=>
   have i:256<v.length:=by
    rcases Nat.lt_or_ge 256 v.length with q|q
    ·exact q
    ·exact absurd (by unfold flawI;rw[if_pos a,if_neg (by omega)]) h
   have j:flawI n v=21:=by unfold flawI;rw[if_pos a,if_pos i]
   rw[j]
   rw[a]at d
   dsimp only[pv,box]at*
   generalize T n=S at*
   generalize T v=V at*
   generalize v.length=u at*
   clear c h j a
   go_enter Tryz.func128,Tryz.ntmps128
   go_wp2_with(go_at_call 97;(with_reducible refine(d.out _).mono ?_);rintro e w' ⟨rfl,rfl⟩)
   go_ret2
   exact⟨none,0,rfl,Bytes.nil _ _,o⟩
end Fc
namespace Fc
end Fc
namespace Fo
open Bytes8 Fa Fb Fc
def lessP (n v m u:List Int):Bool:=ltL (pay n v) (pay m u)
theorem aCw (n v:List Int)(h:n.length+v.length≤900000)(w:World):
 Calls Tryz.prog 129 #[pv n v] w fun e w'=>e= .returned (.string (T (pay n v)))∧Grew w w':=
 (aBM n v h w).mono (by rintro e w' ⟨rfl,rfl⟩;exact⟨rfl,Grew.boxed _ _⟩)
end Fo
namespace Seq8
open Bytes8 Blk8 Fa Fb Numb Rows2
def SeqIn (w:World)(gq:Nat)(a:Option Addr)(len cap:Nat)(f:Nat→Int)(k:Nat):Prop:=
 Blk w gq [.slice a len cap,.int .i64 (k:Int)] 62∧InInts .i64 w a len f∧(0<len→ ∀b off,a=some ⟨b,off,none⟩→b≠gq)∧k≤len∧len≤9223372036854775807
theorem SeqIn.below {w w':World}{d:Nat}{a:Option Addr}{len b:Nat}{f:Nat→Int}{k:Nat}(h:SeqIn w d a len b f k)(c:Below w.heap.size w w'):SeqIn w' d a len b f k:=
 ⟨h.1.below c h.1.lt,h.2.1.below c,h.2.2⟩
theorem aBX {l:IntKind}{w w':World}{g:Nat}{a:Option Addr}{len:Nat}{f:Nat→Int}(h:InInts l w a len f)(j:KeptB w.heap.size g w w')(d:0<len→ ∀b c,a=some ⟨b,c,none⟩→b≠g):InInts l w' a len f:=fun i hi=>by
 obtain⟨b,c,e,k,m,n⟩:=h i hi
 exact⟨b,c,e,yL k j.size,(World.cell?_of_block (j.block b k (d (by omega) b c e))).trans m,n⟩
set_option maxRecDepth 100000 in
theorem aFg (g:Nat)(a:Option Addr)(len j:Nat)(f:Nat→Int)(k:Nat)(b:Int)(w:World)(D:1≤b)(M:b≤1000000)(h:SeqIn w g a len j f k):
 Calls Tryz.prog 63 #[.pointer (some ⟨g,0,none⟩),.int .i64 b] w fun e w'=> ∃(r k':Nat),e= .returned (.int .i64 (r:Int))∧(r:Int)<b∧SeqIn w' g a len j f k'∧KeptB w.heap.size g w w':=by
 obtain⟨t,l,c,N,H⟩:=h
 have n:=yH t
 have Y:=n.out.cell (i:=0) rfl
 have X:=n.out.cell (i:=1) rfl
 have V:=n.out.frozen 1
 by_cases u:k<len
 ·obtain⟨G,o,rfl,L,J,B⟩:=l k u
  have A:=c (by omega) G o rfl
  obtain⟨r,E,y⟩:=aDO (f k) b D
  have s:=yH fun w=>aBV (f k) b r w D (by omega) E.out
  have z: ¬(len:Int)≤(k:Int):=by omega
  have I: ∀v,(w.setCell ⟨g,1,none⟩ v).cell? ⟨G,o+k,none⟩=some (.int .i64 (f k)):=fun v=>by
   rw[←J];exact World.cell?_of_block (Below.heap_setCell _ _ _ _ A)
  have C:=yH l
  have d:=yH c
  have R:Tryz.prog.follows .mixedOrders=true:=by kernel_rfl
  clear l c t E B
  generalize f k=x at*
  go_enter Tryz.func63,Tryz.ntmps63
  go_wp2_with fail
  go_quiet (fail)
  obtain⟨m,q⟩: ∃x,x=nq:=⟨_,rfl⟩
  rw[←q]
  clear q nq
  go_wp2_with fail
  go_quiet ((go_at_call 18;exact aBZ (s.out _)))
  have F:=yH ((((KeptB.refl w.heap.size g w).drewN m).setCell (Or.inr rfl) (.int .i64 ((k:Int)+1)) (p:=⟨g,1,none⟩)).drewN nq)
  go_wp2
  go_ret
  refine⟨r,k+1,rfl,y,⟨?_,aBX C.out F.out d.out,d.out,by omega,H⟩,F.out⟩
  exact((n.out.drewN _).set_ 1 _).drewN _
 ·have z:(len:Int)≤(k:Int):=by omega
  have C:=yH l
  have d:=yH c
  clear l c t
  go_enter Tryz.func63,Tryz.ntmps63
  go_wp2_with fail
  go_quiet (fail)
  go_wp2
  go_ret
  refine⟨0,k,rfl,by omega,⟨n.out.drewN _,C.out,d.out,N,H⟩,(KeptB.refl _ _ _).drewN _⟩
abbrev nameLs:List (List Int):=[[65],[66],[77,69,83,83,65,71,69],[95,80,73,68],[88,95,49],[80,82,73,79,82,73,84,89]]
abbrev valueLs:List (List Int):=[[],[48],[49],[50,50],[97,61,98],[111,110,101,10,116,119,111],[0,255],[116,97,98,9,104,101,114,101],[108,111,110,103,32,108,111,110,103,32,108,111,110,103,32,108,111,110,103,32,108,111,110,103,32,108,111,110,103,32,108,111,110,103],[126,127,128]]
def texts (ls:List (List Int)):List Value:=ls.map fun l=> .string (T l)
theorem aMG: ∀n∈nameLs,AllB n∧nmB n=true:=by
 intro n a
 have h:nameLs.all (fun n=>n.all (fun x=>decide (0≤x)&&decide (x<256))&&nmB n)=true:=by decide+kernel
 have:=List.all_eq_true.1 h n a
 simp only[Bool.and_eq_true]at this
 exact⟨Ff.aGd this.1,this.2⟩
theorem aKj: ∀v∈valueLs,AllB v∧v.length≤256:=by
 intro n a
 have h:valueLs.all (fun n=>n.all (fun x=>decide (0≤x)&&decide (x<256))&&decide (n.length≤256))=true:=by decide+kernel
 have:=List.all_eq_true.1 h n a
 simp only[Bool.and_eq_true,decide_eq_true_eq]at this
 exact⟨Ff.aGd this.1,this.2⟩
theorem aOv {n v:List Int}(a:nmB n=true)(b:v.length≤256):flawI n v=0:=by
 unfold flawI;rw[if_pos a,if_neg (by omega)]
theorem aKk (w:World):Calls Tryz.prog 202 #[] w fun e w'=>e= .returned (.slice (some ⟨w.heap.size,0,none⟩) 6 6)∧Blk w' w.heap.size (texts nameLs) 9∧Below w.heap.size w w'∧w'.heap.size=w.heap.size+1:=by
 have h:texts nameLs=[.string {data:= #[65]},.string {data:= #[66]},.string {data:= #[77,69,83,83,65,71,69]},.string {data:= #[95,80,73,68]},.string {data:= #[88,95,49]},.string {data:= #[80,82,73,79,82,73,84,89]}]:=rfl
 rw[h]
 go_enter Tryz.func202,Tryz.ntmps202
 go_wp2
 go_ret
 exact⟨rfl,Blk.new w _ _,(Below.refl _ _).alloc (yR _) _,by simp⟩
set_option maxRecDepth 10000 in
theorem aJd (w:World):Calls Tryz.prog 203 #[] w fun e w'=>e= .returned (.slice (some ⟨w.heap.size,0,none⟩) 10 10)∧Blk w' w.heap.size (texts valueLs) 9∧Below w.heap.size w w'∧w'.heap.size=w.heap.size+1:=by
 have h:texts valueLs=[.string {data:= #[]},.string {data:= #[48]},.string {data:= #[49]},.string {data:= #[50,50]},.string {data:= #[97,61,98]},.string {data:= #[111,110,101,10,116,119,111]},.string {data:= #[0,255]},.string {data:= #[116,97,98,9,104,101,114,101]},.string {data:= #[108,111,110,103,32,108,111,110,103,32,108,111,110,103,32,108,111,110,103,32,108,111,110,103,32,108,111,110,103,32,108,111,110,103]},.string {data:= #[126,127,128]}]:=rfl
 rw[h]
 go_enter Tryz.func203,Tryz.ntmps203
 go_wp2
 go_ret
 exact⟨rfl,Blk.new w _ _,(Below.refl _ _).alloc (yR _) _,by simp⟩
end Seq8
namespace SeqP
open Bytes8 Blk8 Fa Fb Rows2 Seq8
theorem aMH (w:World)(g:Nat)(a:w.heap.size=g):Calls Tryz.prog 202 #[] w fun e w'=>e= .returned (.slice (some ⟨g,0,none⟩) 6 6)∧Blk w' g (texts nameLs) 9∧Below w.heap.size w w'∧w'.heap.size=g+1:=by
 subst a;exact aKk w
theorem aKl (w:World)(g:Nat)(a:w.heap.size=g):Calls Tryz.prog 203 #[] w fun e w'=>e= .returned (.slice (some ⟨g,0,none⟩) 10 10)∧Blk w' g (texts valueLs) 9∧Below w.heap.size w w'∧w'.heap.size=g+1:=by
 subst a;exact aJd w
theorem aOw {w:World}{g:Nat}{a:List (List Int)}{c:TypeId}(h:Blk w g (texts a) c)(i:Nat)(b:i<a.length):w.cell? ⟨g,i,none⟩=some (.string (T (a.getD i []))):=by
 refine h.cell ?_
 unfold texts
 rw[List.getElem?_map,List.getElem?_eq_getElem b]
 simp[List.getElem?_eq_getElem b]
theorem aFh {w:World}{g:Nat}{a:List (List Int)}{d:TypeId}(h:Blk w g (texts a) d)(i:Nat)(c:i<a.length){b:List Int}(e:b=a.getD i []):w.cell? ⟨g,i,none⟩=some (.string (T b)):=e▸aOw h i c
theorem getD_mem {a:List (List Int)}{i:Nat}(b:i<a.length):a.getD i []∈a:=by
 rw[List.getD_eq_getElem?_getD,List.getElem?_eq_getElem b]
 exact List.getElem_mem b
def Paired (gq:Nat)(a:Option Addr)(len cap:Nat)(f:Nat→Int)(w:World)(e:Ending)(w':World):Prop:=
 ∃n v k',e= .returned (pv n v)∧(AllB n∧AllB v∧flawI n v=0)∧SeqIn w' gq a len cap f k'∧KeptB w.heap.size gq w w'
set_option maxRecDepth 100000 in
theorem aMI (q:Nat)(a:Option Addr)(len d:Nat)(f:Nat→Int)(k:Nat)(w:World)(h:SeqIn w q a len d f k):
 Calls Tryz.prog 162 #[.pointer (some ⟨q,0,none⟩)] w (Paired q a len d f w):=by
 have ac:=h.1.lt
 have F:=yH ((Below.refl w.heap.size w).alloc (yR _) (.cells #[.string {data:= #[]},.string {data:= #[]}] 82))
 have S0:=yH (h.below F.out)
 have X:=yH (Blk.new w [.string {data:= #[]},.string {data:= #[]}] 82)
 have HI:=yH h.2.1
 have H:=yH h.2.2.1
 clear h
 unfold Paired
 have hm:Tryz.prog.follows .mixedOrders=true:=by kernel_rfl
 go_enter Tryz.func162,Tryz.ntmps162
 go_wp2_with fail
 go_region_with (first
  |(go_at_call 202;(with_reducible refine(aMH _ (w.heap.size+1) (by simp)).mono ?_);rintro e w1 ⟨rfl,Z,n,aa⟩;have N:=yH Z;have S1:=yH (SeqIn.below (w:=(w.alloc (.cells #[.string {data:= #[]},.string {data:= #[]}] 82)).drew) S0.out n);have M:=yH (Blk.below (w:=(w.alloc (.cells #[.string {data:= #[]},.string {data:= #[]}] 82)).drew) X.out n X.out.lt);have B1:=yH (F.out.drew.trans (n.mono F.out.size));clear Z n)
  |(go_at_call 63;(with_reducible refine(aFg q a len d f k 6 w1 (by decide) (by decide) S1.out).mono ?_);rintro e w2 ⟨i,k2,rfl,hi,x,o⟩;have S2:=yH x;have E:=yH (Blk.keptB N.out o N.out.lt (by omega));have R2:=yH (Blk.keptB M.out o M.out.lt (by omega));have G:=yH ((KeptB.of_below (g:=q) B1.out).trans (o.mono B1.out.size));obtain⟨t,B⟩: ∃t,t=nameLs.getD i []:=⟨_,rfl⟩;have m:=yH B;clear B;have C:i<nameLs.length:=(by simp;omega);have l:=yH C;clear C;have x2:=aFh E.out i l.out m.out;clear x o)
  |(go_at_call 203;(with_reducible refine(aKl _ w2.heap.size rfl).mono ?_);rintro e w3 ⟨rfl,hV,c,ab⟩;have L:=yH hV;have S3:=yH (SeqIn.below S2.out c);have V:=yH (R2.out.below c R2.out.lt);have I:=yH (E.out.below c E.out.lt);have Y:=yH (G.out.trans (KeptB.of_below (c.mono G.out.size)));have x3:=aFh I.out i l.out m.out;clear hV c)
  |(go_at_call 63;(with_reducible refine(aFg q a len d f k2 10 w3 (by decide) (by decide) S3.out).mono ?_);rintro e w4 ⟨j,k4,rfl,hj,z,b⟩;have J:=yH z;have N4:=yH (Blk.keptB I.out b I.out.lt (by omega));have D:=yH (Blk.keptB V.out b V.out.lt (by omega));have V4:=yH (Blk.keptB L.out b L.out.lt (by have:=G.out.size;omega));have K4:=yH (Y.out.trans (b.mono Y.out.size));have x4:=aFh N4.out i l.out m.out;obtain⟨u,A⟩: ∃u,u=valueLs.getD j []:=⟨_,rfl⟩;have y:=yH A;clear A;have r:j<valueLs.length:=(by simp;omega);have s:=yH r;clear r;have y4:=aFh V4.out j s.out y.out;have f0:=D.out.frozen 0;have f1:=D.out.frozen 1;have c0:=D.out.cell (i:=0) rfl;have c1:=D.out.cell (i:=1) rfl;clear z b))
 all_goals
  go_wp2
  obtain⟨n1,n2⟩:=aMG t (by rw[m.out];exact getD_mem l.out)
  obtain⟨v1,v2⟩:=aKj u (by rw[y.out];exact getD_mem s.out)
  have R:=(K4.out.setCell (p:=⟨w.heap.size,0,none⟩) (Or.inl (yR _)) (.string (T t))).setCell (p:=⟨w.heap.size,1,none⟩) (Or.inl (yR _)) (.string (T u))
  refine bodyPost_ret (v:=pv t u) (by simp[results,Tryz.results162,go_sem,c0,c1]) rfl ⟨t,u,k4,rfl,⟨n1,v1,aOv n2 v2⟩,⟨?_,aBX HI.out R H.out,J.out.2.2⟩,R⟩
  exact(J.out.1.far (p:=⟨w.heap.size,0,none⟩) (show q≠w.heap.size by omega) _).far (p:=⟨w.heap.size,1,none⟩) (show q≠w.heap.size by omega) _
end SeqP
namespace Fsp
open Bytes8 Blk8 Fa Fb OwnE
theorem aOx (l:List Int)(j:AllB l)(i:Nat)(c:i<l.length):((T l)[i]! ==(61:UInt8))=decide (l.getD i 0=61):=by
 have b:i<(T l).size:=by rw[aA9];exact c
 have a:i<(T l).toList.length:=by rw[aAz,List.length_map];exact c
 have k:(T l)[i]! =(T l)[i]'b:=getElem!_pos (T l) i b
 have f:((T l)[i]'b)=(T l).toList[i]'a:=by
  have:(T l).toList=(T l).data.toList:=ByteArray.toList_eq _
  simp only[this]
  rfl
 have g:(T l).toList[i]'a=(l[i]).toNat.toUInt8:=by simp only[aAz,List.getElem_map]
 have m:=j l[i] (List.getElem_mem c)
 have d:l.getD i 0=l[i]:=by simp[List.getElem?_eq_getElem c]
 rw[k,f,g,d]
 by_cases h:l[i]=61
 ·simp[h]
 ·have:(l[i]).toNat.toUInt8≠(61:UInt8):=fun e=>h (by
   have:=congrArg UInt8.toNat e
   simp at this
   omega)
  simp[h,this]
def idxI (l:List Int):Int:=if cutI l<l.length then(cutI l:Int)else -1
theorem aKm (l:List Int)(a:AllB l):firstIdx (T l) 61=idxI l:=by
 unfold firstIdx idxI
 rw[aA9]
 by_cases h:cutI l<l.length
 ·rw[if_pos h]
  have:(List.range l.length).find? (fun i=>(T l)[i]! ==(61:UInt8))=some (cutI l):=by
   rw[List.find?_range_eq_some]
   refine⟨?_,List.mem_range.2 h,fun j b=>?_⟩
   ·show((T l)[cutI l]! ==(61:UInt8))=true
    rw[aOx l a _ h,aHl h];rfl
   ·show(!((T l)[j]! ==(61:UInt8)))=true
    rw[aOx l a _ (by omega),decide_eq_false (aCe b)];rfl
  rw[this]
 ·rw[if_neg h]
  have:(List.range l.length).find? (fun i=>(T l)[i]! ==(61:UInt8))=none:=by
   rw[List.find?_range_eq_none]
   intro j b
   show(!((T l)[j]! ==(61:UInt8)))=true
   rw[aOx l a _ b,decide_eq_false (aCe (by have:=aHk l;omega))];rfl
  rw[this]
theorem aFi (l:List Int)(b:AllB l)(w:World):
 Calls Tryz.prog 245 #[.string (T l),.int .u8 61] w fun e w'=>e= .returned (.int .i64 (idxI l))∧w=w':=by
 have a: ∀w,(Extern.BytealgIndexByte.indexByte #[.string (T l),.int .u8 61]).run Tryz.prog w= .ok (.int .i64 (idxI l)) w:=fun w=>by
  rw[run_indexByte_string]
  show Result.ok (Value.int .i64 (firstIdx (T l) 61)) w=_
  rw[aKm l b]
 generalize T l=S at*
 generalize idxI l=I at*
 go_enter Tryz.func245,Tryz.ntmps245
 go_wp2
 rw[run_callFunc_extern Tryz.func249 (by kernel_rfl) (by kernel_rfl) (by kernel_rfl) (e:=Extern.BytealgIndexByte.indexByte) (by kernel_rfl),a]
 simp only[Result.andThen]
 rw[Oper.upon_value]
 go_wp2
 go_ret
 exact⟨rfl,rfl⟩
theorem aKn (l:List Int)(b:AllB l)(c:l.length≤1000000)(w:World):
 Calls Tryz.prog 244 #[.string (T l),.string {data:= #[61]}] w fun e w'=>e= .returned (.int .i64 (idxI l))∧w=w':=by
 have g:=yH fun w=>aFi l b w
 have f:([61]==(T l).toList)=decide ([61]=l):=by
  have i:=aHj (l:=[61]) (m:=l) (fun x hx=>by simp at hx;subst hx;decide) b
  rw[←i,show(T [61]).toList=[61]by rw[aAz];rfl]
 have a: ∀w,(Instr.index 9 (.string {data:= #[61]}) (.int .i64 0)).run Tryz.prog w= .ok (.int .u8 61) w:=fun w=>by
  have:=aFq [61] (fun x hx=>by simp at hx;subst hx;decide) 0 (by decide) w
  rw[aPN];exact this
 by_cases h: [61]=l
 ·have d:idxI l=0:=by subst h;decide
  rw[d]
  rw[decide_eq_true h]at f
  clear g a d h
  generalize T l=S at*
  go_enter Tryz.func244,Tryz.ntmps244
  go_wp2
  go_ret
  exact⟨rfl,rfl⟩
 ·rw[decide_eq_false h]at f
  clear h
  generalize T l=S at*
  generalize idxI l=I at*
  go_enter Tryz.func244,Tryz.ntmps244
  go_wp2_with(go_at_call 245;(with_reducible refine(g.out _).mono ?_);rintro e w' ⟨rfl,rfl⟩)
  go_ret
  exact⟨rfl,rfl⟩
theorem aMJ (l:List Int)(k:Nat)(b:k≤l.length)(w:World):(Instr.slice 9 (.string (T l)) none (some (.int .i64 (k:Int))) none).run Tryz.prog w= .ok (.string (T (l.take k))) w:=by
 have a:=aA9 l
 have e:=aPO l 0 k
 rw[List.drop_zero,Nat.sub_zero]at e
 rw[run_slice_string_to_if w 9 (T l) .i64 (k:Int) Tryz.underlying9,if_pos (by omega),Int.toNat_natCast,e]
theorem aMK (l:List Int)(k:Nat)(b:k≤l.length)(w:World):(Instr.slice 9 (.string (T l)) (some (.int .i64 (k:Int))) none none).run Tryz.prog w= .ok (.string (T (l.drop k))) w:=by
 have a:=aA9 l
 have e:=aPO l k l.length
 rw[List.take_of_length_le (by simp)]at e
 rw[run_slice_string_from_if w 9 (T l) .i64 (k:Int) Tryz.underlying9,if_pos (by omega),Int.toNat_natCast,a,e]
def cutA1 (l:List Int):List Int:=if cutI l<l.length then l.take (cutI l)else l
def cutA2 (l:List Int):List Int:=if cutI l<l.length then l.drop (cutI l+1)else []
theorem aML (l:List Int)(g:AllB l)(b:l.length≤1000000)(w:World):
 Calls Tryz.prog 238 #[.string (T l),.string {data:= #[61]}] w fun e w'=>e= .returned (.tuple #[.string (T (cutA1 l)),.string (T (cutA2 l)),.bool (decide (cutI l<l.length))])∧Grew w w':=by
 have f:=yH fun w=>aKn l g b w
 have i:=aA9 l
 by_cases h:cutI l<l.length
 ·have c:cutA1 l=l.take (cutI l):=if_pos h
  have a:cutA2 l=l.drop (cutI l+1):=if_pos h
  have d:idxI l=(cutI l:Int):=if_pos h
  have n:=aMJ l (cutI l) (by omega)
  have j: ∀w,(Instr.slice 9 (.string (T l)) (some (.int .i64 ((cutI l:Int)+1))) none none).run Tryz.prog w= .ok (.string (T (l.drop (cutI l+1)))) w:=aMK l (cutI l+1) (by omega)
  rw[c,a,decide_eq_true h]
  rw[d]at f
  have p:cutI l≤1000000:=by omega
  clear c a d g
  generalize l.length=len at*
  generalize T (l.take (cutI l))=o at*
  generalize T (l.drop (cutI l+1))=m at*
  generalize T l=S at*
  generalize cutI l=k at*
  go_enter Tryz.func238,Tryz.ntmps238
  go_wp2_with(go_at_call 244;(with_reducible refine(f.out _).mono ?_);rintro e w' ⟨rfl,rfl⟩)
  go_quiet (fail)
  go_wp2
  go_ret3
  exact⟨rfl,(Grew.refl w).drewN _⟩
 ·have c:cutA1 l=l:=if_neg h
  have a:cutA2 l=[]:=if_neg h
  have d:idxI l= -1:=if_neg h
  rw[c,a,decide_eq_false h,←aFp]
  rw[d]at f
  clear c a d g
  generalize T l=S at*
  go_enter Tryz.func238,Tryz.ntmps238
  go_wp2_with(go_at_call 244;(with_reducible refine(f.out _).mono ?_);rintro e w' ⟨rfl,rfl⟩)
  go_ret3
  exact⟨rfl,Grew.refl w⟩
theorem aOy (l:List Int)(f:AllB l)(a:l.length≤1000000)(w:World):
 Calls Tryz.prog 213 #[.string (T l),.string {data:= #[61]}] w fun e w'=>e= .returned (.tuple #[.string (T (cutA1 l)),.string (T (cutA2 l)),.bool (decide (cutI l<l.length))])∧Grew w w':=by
 have d:=yH fun w=>aML l f a w
 generalize T (cutA1 l)=g at*
 generalize T (cutA2 l)=h at*
 generalize decide (cutI l<l.length)=b at*
 generalize T l=S at*
 go_enter Tryz.func213,Tryz.ntmps213
 go_wp2_with(go_at_call 238;(with_reducible refine(d.out _).mono ?_);rintro e w' ⟨rfl,c⟩)
 go_ret3
 exact⟨rfl,c⟩
def Splitted (l:List Int)(w:World)(e:Ending)(w':World):Prop:=e= .returned (.tuple #[pv (splitN l) (splitV l),.int .i64 (splitE l)])∧Below w.heap.size w w'
set_option maxRecDepth 100000 in
set_option maxRecDepth 100000 in
theorem aF5 (a:Option Addr)(l:List Int)(len n:Nat)(w:World)(t:Bytes w a l)(E:l.length=len)(z:len≤1000000):
 Calls Tryz.prog 172 #[.slice a len n] w (Splitted l w):=by
 subst E
 have x:=t.1
 have y:=yH fun w=>aOy l x z w
 have G:(convert 24 9 (.slice a l.length n)).run Tryz.prog (w.alloc (.cells #[.string {data:= #[]},.string {data:= #[]}] 82))= .ok (.string (T l)) (w.alloc (.cells #[.string {data:= #[]},.string {data:= #[]}] 82)):=
  (t.below ((Below.refl w.heap.size w).alloc (yR _) _) (yR _)).string n _ rfl
 unfold Splitted
 have d:splitE l=if cutI l<l.length then(if nmB (l.take (cutI l))=true then(if 256<l.length-cutI l-1 then 21 else 0)else 20)else 20:=rfl
 have b0:Below w.heap.size w (w.alloc (.cells #[.string {data:= #[]},.string {data:= #[]}] 82)):=(Below.refl w.heap.size w).alloc (yR _) _
 by_cases h:cutI l<l.length
 ·have r:cutA1 l=l.take (cutI l):=if_pos h
  have m:cutA2 l=l.drop (cutI l+1):=if_pos h
  rw[r,m,decide_eq_true h]at y
  rw[if_pos h]at d
  have u:=yH fun w=>name_any (l.take (cutI l)) (x.take _) w
  have A:(T (l.drop (cutI l+1))).size=l.length-cutI l-1:=by rw[aA9,List.length_drop];omega
  cases g:nmB (l.take (cutI l))with
  |false=>
   rw[g]at u d
   have b:splitE l=20:=d
   obtain⟨f,j⟩:=aCC (l:=l) (by rw[b];decide)
   dsimp only[pv]
   rw[b,f,j,←aFp]
   clear d b f j g r m t x A
   generalize l.length=len at*
   generalize T (l.take (cutI l))=B at*
   generalize T (l.drop (cutI l+1))=C at*
   generalize T l=S at*
   clear h
   go_enter Tryz.func172,Tryz.ntmps172
   go_wp2_with(first|(go_at_call 213;(with_reducible refine(y.out _).mono ?_);rintro e w2 ⟨rfl,c⟩;have k:=yH (b0.trans (c.below.mono b0.size));have R:=yH ((Blk.new w [.string {data:= #[]},.string {data:= #[]}] 82).below c.below (by simp));have q:=R.out.cell (i:=0) rfl;have p:=R.out.cell (i:=1) rfl;have s:=R.out.frozen 0;have o:=R.out.frozen 1;clear c)|(go_at_call 174;(with_reducible refine(u.out _).mono ?_);rintro e w' ⟨rfl,rfl⟩))
   refine bodyPost_ret (v:= .tuple #[.agg #[.string {data:= #[]},.string {data:= #[]}],.int .i64 20]) (by simp[results_cell_tmp Tryz.results172,go_sem,q,p,s,o,Result.andThen]) rfl ⟨rfl,?_⟩
   (repeat (first|(with_reducible exact k.out)|refine Below.setCell ?_ (by simp) _|refine Below.alloc ?_ (by simp) _|refine below_drewN ?_ _))
  |true=>
   rw[g]at u d
   rw[if_pos rfl]at d
   by_cases D:256<l.length-cutI l-1
   ·have b:splitE l=21:=d.trans (if_pos D)
    obtain⟨f,j⟩:=aCC (l:=l) (by rw[b];decide)
    dsimp only[pv]
    rw[b,f,j,←aFp]
    clear d b f j g r m t x
    generalize l.length-cutI l-1=F at*
    generalize l.length=len at*
    generalize T (l.take (cutI l))=B at*
    generalize T (l.drop (cutI l+1))=C at*
    generalize T l=S at*
    clear h
    go_enter Tryz.func172,Tryz.ntmps172
    go_wp2_with(first|(go_at_call 213;(with_reducible refine(y.out _).mono ?_);rintro e w2 ⟨rfl,c⟩;have k:=yH (b0.trans (c.below.mono b0.size));have R:=yH ((Blk.new w [.string {data:= #[]},.string {data:= #[]}] 82).below c.below (by simp));have q:=R.out.cell (i:=0) rfl;have p:=R.out.cell (i:=1) rfl;have s:=R.out.frozen 0;have o:=R.out.frozen 1;clear c)|(go_at_call 174;(with_reducible refine(u.out _).mono ?_);rintro e w' ⟨rfl,rfl⟩))
    refine bodyPost_ret (v:= .tuple #[.agg #[.string {data:= #[]},.string {data:= #[]}],.int .i64 21]) (by simp[results_cell_tmp Tryz.results172,go_sem,q,p,s,o,Result.andThen]) rfl ⟨rfl,?_⟩
    (repeat (first|(with_reducible exact k.out)|refine Below.setCell ?_ (by simp) _|refine Below.alloc ?_ (by simp) _|refine below_drewN ?_ _))
   ·have b:splitE l=0:=d.trans (if_neg D)
    have f:splitN l=l.take (cutI l):=by unfold splitN;rw[if_pos b]
    have j:splitV l=l.drop (cutI l+1):=by unfold splitV;rw[if_pos b]
    dsimp only[pv]
    rw[b,f,j]
    clear d b f j g r m t x
    generalize l.length-cutI l-1=F at*
    generalize l.length=len at*
    generalize T (l.take (cutI l))=B at*
    generalize T (l.drop (cutI l+1))=C at*
    generalize T l=S at*
    clear h
    go_enter Tryz.func172,Tryz.ntmps172
    go_wp2_with(first|(go_at_call 213;(with_reducible refine(y.out _).mono ?_);rintro e w2 ⟨rfl,c⟩;have k:=yH (b0.trans (c.below.mono b0.size));have R:=yH ((Blk.new w [.string {data:= #[]},.string {data:= #[]}] 82).below c.below (by simp));have q:=R.out.cell (i:=0) rfl;have p:=R.out.cell (i:=1) rfl;have s:=R.out.frozen 0;have o:=R.out.frozen 1;clear c)|(go_at_call 174;(with_reducible refine(u.out _).mono ?_);rintro e w' ⟨rfl,rfl⟩))
    refine bodyPost_ret (v:= .tuple #[.agg #[.string B,.string C],.int .i64 0]) (by simp[results_cell_tmp Tryz.results172,go_sem,q,p,s,o,Result.andThen]) rfl ⟨rfl,?_⟩
    (repeat (first|(with_reducible exact k.out)|refine Below.setCell ?_ (by simp) _|refine Below.alloc ?_ (by simp) _|refine below_drewN ?_ _))
 ·have r:cutA1 l=l:=if_neg h
  have m:cutA2 l=[]:=if_neg h
  rw[r,m,decide_eq_false h,←aFp]at y
  rw[if_neg h]at d
  have b:splitE l=20:=d
  obtain⟨f,j⟩:=aCC (l:=l) (by rw[b];decide)
  dsimp only[pv]
  rw[b,f,j,←aFp]
  clear d b f j r m t x
  have u:=yH True.intro
  generalize l.length=len at*
  generalize T l=S at*
  clear h
  go_enter Tryz.func172,Tryz.ntmps172
  go_wp2_with(go_at_call 213;(with_reducible refine(y.out _).mono ?_);rintro e w2 ⟨rfl,c⟩;have k:=yH (b0.trans (c.below.mono b0.size));have R:=yH ((Blk.new w [.string {data:= #[]},.string {data:= #[]}] 82).below c.below (by simp));have q:=R.out.cell (i:=0) rfl;have p:=R.out.cell (i:=1) rfl;have s:=R.out.frozen 0;have o:=R.out.frozen 1;clear c)
  refine bodyPost_ret (v:= .tuple #[.agg #[.string {data:= #[]},.string {data:= #[]}],.int .i64 20]) (by simp[results_cell_tmp Tryz.results172,go_sem,q,p,s,o,Result.andThen]) rfl ⟨rfl,?_⟩
  (repeat (first|(with_reducible exact k.out)|refine Below.setCell ?_ (by simp) _|refine Below.alloc ?_ (by simp) _|refine below_drewN ?_ _))
end Fsp
namespace Fe
open Bytes8 Blk8 Fa Fb Fsp OwnE
theorem aQk (A:Option Addr)(len a b:Nat)(d:b≤a)(w:World):
 (Instr.slice 24 (.slice A len a) none (some (.int .i64 (b:Int))) none).run Tryz.prog w= .ok (.slice (cutA A a 0) b a) w:=by
 have c:Tryz.prog.underlying 24=some (.slice (Tryz.prog.elem 24)):=by rw[aDy];exact Tryz.underlying24
 rw[run_slice_h w 24 A len a c .i64 b (by omega) (by omega),aDy,aDc]
 simp[Result.andThen,sliced,cutA]
abbrev blank (w:World):World:=w.alloc (.cells #[.string {data:= #[]},.string {data:= #[]}] 82)
set_option maxRecDepth 100000 in
theorem aJe (a:Option Addr)(l:List Int)(len d:Nat)(w:World)(M:Bytes w a l)(hL:l.length=len)(ae:len≤1000000)(ad:len≤d)(F:d≤maxLen):
 Calls Tryz.prog 96 #[.slice a len d] w (Splitted l w):=by
 unfold maxLen at F
 have hA:=M.1
 have b0:Below w.heap.size w (blank w):=(Below.refl w.heap.size w).alloc (yR _) _
 have C:Bytes (blank w) a l:=M.below b0 (yR _)
 have aa:Bytes (blank w).drew a l:=C
 have R:=yH (Blk.new w [.string {data:= #[]},.string {data:= #[]}] 82)
 have r:Hid (splitE l=if cutI l<l.length then(if nmB (l.take (cutI l))=true then(if 256<l.length-cutI l-1 then 21 else 0)else 20)else 20):=yH rfl
 have p:=yH (fun h=>aCC (l:=l) h)
 have y:Hid (splitE l=0→splitN l=l.take (cutI l)):=yH fun h=>by unfold splitN;rw[if_pos h]
 have u:Hid (splitE l=0→splitV l=l.drop (cutI l+1)):=yH fun h=>by unfold splitV;rw[if_pos h]
 have HA:=yH hA
 have L:=yH C
 have q:=yH hL
 unfold Splitted
 dsimp only[pv,blank]at*
 have z:=yH b0
 clear C aa hL hA M b0
 go_enter Tryz.func96,Tryz.ntmps96
 go_wp2
 go_loop [4] (fun i=> ∃k:Nat,k≤len∧i= .int .i64 (k:Int)∧Hid (∀j,j<k→l.getD j 0≠61)) (fun i=>len-(intOf i).toNat)
 case atStart=>exact⟨0,by omega,rfl,yH fun j hj=>absurd hj (by omega)⟩
 case round=>
  obtain⟨k,hk,rfl,f⟩:=hrel
  rcases Nat.lt_or_ge k len with X|ah
  ·obtain⟨b,s,rfl,ac,N⟩:=L.out.spot (by have:=q.out;omega)
   have D:=N k (by have:=q.out;omega)
   obtain⟨c1,c2⟩:=HA.out.at_ k
   have af:(k:Int)<(len:Int):=by omega
   by_cases t:l.getD k 0=61
   ·have hcut:cutI l=k:=aKw (by have:=q.out;omega) t f.out
    rw[t]at D
    clear c1 c2 t f N
    rw[hcut,q.out,if_pos X]at r
    rw[hcut]at y u
    clear hcut
    have ag:=aQk (some ⟨b,s,none⟩) len d k (by omega)
    have I: ∀w,(Instr.slice 24 (.slice (some ⟨b,s,none⟩) len d) (some (.int .i64 ((k:Int)+1))) none none).run Tryz.prog w= .ok (.slice (cutA (some ⟨b,s,none⟩) d (k+1)) (len-(k+1)) (d-(k+1))) w:=aJC (some ⟨b,s,none⟩) len d (k+1) (by omega)
    have hv1:=((OwnE.Bytes.cut L.out d 0 k (by rw[q.out];omega))).string d k (by simp;have:=q.out;omega)
    have o:=((OwnE.Bytes.cut L.out.drew d 0 k (by rw[q.out];omega))).string d k (by simp;have:=q.out;omega)
    have n:=((OwnE.Bytes.cut L.out.drew d (k+1) (len-(k+1)) (by rw[q.out];omega))).string (d-(k+1)) (len-(k+1)) (by simp;have:=q.out;omega)
    rw[List.drop_zero]at hv1 o
    rw[List.take_of_length_le (by simp;have:=q.out;omega)]at n
    generalize cutA (some ⟨b,s,none⟩) d 0=A1 at*
    generalize cutA (some ⟨b,s,none⟩) d (k+1)=A2 at*
    have H:=yH fun w=>aF3 (l.take k) (HA.out.take k) (by have:=q.out;simp;omega) w
    have f0:=R.out.frozen 0
    have f1:=R.out.frozen 1
    have g0:=R.out.cell (i:=0) rfl
    have g1:=R.out.cell (i:=1) rfl
    cases x:nmB (l.take k)with
    |false=>
     rw[x]at H r
     have g:splitE l=20:=r.out
     obtain⟨A,B⟩:=p.out (by rw[g];decide)
     have m:=yH (And.intro g (And.intro A B))
     clear r g A B x p y u I n o
     change (convert _ _ _).run _ _= .ok (.string (T (l.take k))) _ at hv1
     generalize T (l.take k)=Z at*
     go_wp2_with(go_at_call 97;(with_reducible refine(H.out _).mono ?_);rintro e w' ⟨rfl,rfl⟩)
     refine bodyPost_ret (v:= .tuple #[.agg #[.string {data:= #[]},.string {data:= #[]}],.int .i64 20]) (by simp[results_cell_tmp Tryz.results96,go_sem,Result.andThen]) rfl ⟨by rw[m.out.1,m.out.2.1,m.out.2.2,←aFp],?_⟩
     (repeat (first|(with_reducible exact z.out)|(with_reducible exact Below.refl _ _)|refine Below.setCell ?_ (by simp) _|refine Below.alloc ?_ (by simp) _|refine Below.drew ?_|refine below_drewN ?_ _))
    |true=>
     rw[x]at H r
     rw[if_pos rfl]at r
     change (convert _ _ _).run _ _= .ok (.string (T (l.take k))) _ at hv1
     change (convert _ _ _).run _ _= .ok (.string (T (l.take k))) _ at o
     change (convert _ _ _).run _ _= .ok (.string (T (l.drop (k+1)))) _ at n
     by_cases hv:256<len-k-1
     ·have g:splitE l=21:=r.out.trans (if_pos hv)
      obtain⟨A,B⟩:=p.out (by rw[g];decide)
      have m:=yH (And.intro g (And.intro A B))
      clear r g A B x p y u I n o
      have hv2:(256:Int)<(len:Int)-(k:Int)-1:=by omega
      generalize T (l.take k)=Z at*
      go_wp2_with(go_at_call 97;(with_reducible refine(H.out _).mono ?_);rintro e w' ⟨rfl,rfl⟩)
      refine bodyPost_ret (v:= .tuple #[.agg #[.string {data:= #[]},.string {data:= #[]}],.int .i64 21]) (by simp[results_cell_tmp Tryz.results96,go_sem,Result.andThen]) rfl ⟨by rw[m.out.1,m.out.2.1,m.out.2.2,←aFp],?_⟩
      (repeat (first|(with_reducible exact z.out)|(with_reducible exact Below.refl _ _)|refine Below.setCell ?_ (by simp) _|refine Below.alloc ?_ (by simp) _|refine Below.drew ?_|refine below_drewN ?_ _))
     ·have g:splitE l=0:=r.out.trans (if_neg hv)
      have m:=yH (And.intro g (And.intro (y.out g) (u.out g)))
      clear r g x p y u
      have hv2: ¬(256:Int)<(len:Int)-(k:Int)-1:=by omega
      generalize J:T (l.take k)=Z at*
      generalize G:T (l.drop (k+1))=S2 at*
      have V:=yH J
      have Y:=yH G
      clear J G
      go_wp2_with(go_at_call 97;(with_reducible refine(H.out _).mono ?_);rintro e w' ⟨rfl,rfl⟩)
      go_region
      all_goals
       go_wp2
       refine bodyPost_ret (v:= .tuple #[.agg #[.string Z,.string S2],.int .i64 0]) (by simp[results_cell_tmp Tryz.results96,go_sem,Result.andThen]) rfl ⟨by rw[m.out.1,m.out.2.1,m.out.2.2,V.out,Y.out],?_⟩
       (repeat (first|(with_reducible exact z.out)|(with_reducible exact Below.refl _ _)|refine Below.setCell ?_ (by simp) _|refine Below.alloc ?_ (by simp) _|refine Below.drew ?_|refine below_drewN ?_ _))
   ·have ab:(l.getD k 0 !=61)=true:=by simpa using t
    have E:=yH (fun j (hj:j<k+1)=>(by
     rcases Nat.lt_or_ge j k with h1|h1
     ·exact f.out j h1
     ·obtain rfl:j=k:=by omega
      exact t:l.getD j 0≠61))
    clear f N t
    generalize l.getD k 0=c at*
    go_wp2
    go_round
    case rel=>exact⟨k+1,by omega,by go_num,E⟩
    case measure=>simp[intOf];omega
  ·obtain rfl:k=len:=by omega
   have hcut:cutI l=l.length:=aKx fun j hj=>f.out j (by have:=q.out;omega)
   rw[hcut,if_neg (Nat.lt_irrefl _)]at r
   have g:splitE l=20:=r.out
   obtain⟨A,B⟩:=p.out (by rw[g];decide)
   have m:=yH (And.intro g (And.intro A B))
   clear r g A B hcut f
   go_wp2
   refine bodyPost_ret (v:= .tuple #[.agg #[.string {data:= #[]},.string {data:= #[]}],.int .i64 20]) (by simp[results_cell_tmp Tryz.results96,go_sem,Result.andThen]) rfl ⟨by rw[m.out.1,m.out.2.1,m.out.2.2,←aFp],?_⟩
   (repeat (first|(with_reducible exact z.out)|(with_reducible exact Below.refl _ _)|refine Below.setCell ?_ (by simp) _|refine Below.alloc ?_ (by simp) _|refine Below.drew ?_|refine below_drewN ?_ _))
end Fe
end Go.Proofs.YtlelnfokffflnaaGreat
