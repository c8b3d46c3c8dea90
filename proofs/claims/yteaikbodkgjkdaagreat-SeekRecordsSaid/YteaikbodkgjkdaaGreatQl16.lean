/-
  Texts beneath.
-/
import Derived.Test.YteaikbodkgjkdaaGreatQl15
set_option linter.unusedVariables false
set_option linter.unusedSimpArgs false
set_option maxRecDepth 100000
set_option maxHeartbeats 2000000
open Go.ChangeShapes Go.WideShapes Go.ChangeAt Go.RowKit
namespace Go.Proofs.YteaikbodkgjkdaaGreat
namespace SeqP
open Bytes8 Blk8 Fa Fb Rows2 Seq8
theorem aMH (w:World)(g:Nat)(a:w.heap.size=g):Calls Tryz.prog 45 #[] w fun e w'=>e= .returned (.slice (some ⟨g,0,none⟩) 6 6)∧Blk w' g (texts nameLs) 9∧Below w.heap.size w w'∧w'.heap.size=g+1:=by
 subst a;exact aKj w
theorem aKk (w:World)(g:Nat)(a:w.heap.size=g):Calls Tryz.prog 46 #[] w fun e w'=>e= .returned (.slice (some ⟨g,0,none⟩) 10 10)∧Blk w' g (texts valueLs) 9∧Below w.heap.size w w'∧w'.heap.size=g+1:=by
 subst a;exact aJb w
theorem aOw {w:World}{g:Nat}{a:List (List Int)}{c:TypeId}(h:Blk w g (texts a) c)(i:Nat)(b:i<a.length):w.cell? ⟨g,i,none⟩=some (.string (T (a.getD i []))):=by
 refine h.cell ?_
 unfold texts
 rw[List.getElem?_map,yG b]
 simp[yG b]
theorem aFh {w:World}{g:Nat}{a:List (List Int)}{c:TypeId}(h:Blk w g (texts a) c)(i:Nat)(d:i<a.length){b:List Int}(e:b=a.getD i []):w.cell? ⟨g,i,none⟩=some (.string (T b)):=e▸aOw h i d
theorem getD_mem {a:List (List Int)}{i:Nat}(b:i<a.length):a.getD i []∈a:=by
 rw[yD,yG b]
 exact List.getElem_mem b
def Paired (gq:Nat)(a:Option Addr)(len cap:Nat)(f:Nat→Int)(w:World)(e:Ending)(w':World):Prop:=
 ∃n v k',e= .returned (pv n v)∧(AllB n∧AllB v∧flawI n v=0)∧SeqIn w' gq a len cap f k'∧KeptB w.heap.size gq w w'
set_option maxRecDepth 100000 in
theorem aMI (q:Nat)(a:Option Addr)(len l:Nat)(f:Nat→Int)(k:Nat)(w:World)(h:SeqIn w q a len l f k):
 Calls Tryz.prog 15 #[.pointer (some ⟨q,0,none⟩)] w (Paired q a len l f w):=by
 have ab:=h.1.lt
 have G:=yH ((yB w.heap.size w).alloc (yR _) (.cells #[.string {data:= #[]},.string {data:= #[]}] 24))
 have S0:=yH (h.below G.out)
 have X:=yH (Blk.new w [.string {data:= #[]},.string {data:= #[]}] 24)
 have HI:=yH h.2.1
 have H:=yH h.2.2.1
 clear h
 unfold Paired
 have hm:Tryz.prog.follows .mixedOrders=true:=by kernel_rfl
 go_enter Tryz.func15,Tryz.ntmps15
 go_wp2_with fail
 go_region_with (first
  |(go_at_call 45;(with_reducible refine(aMH _ (w.heap.size+1) (by simp)).mono ?_);rintro e w1 ⟨rfl,hN,o,ac⟩;have M:=yH hN;have S1:=yH (SeqIn.below (w:=(w.alloc (.cells #[.string {data:= #[]},.string {data:= #[]}] 24)).drew) S0.out o);have R:=yH (Blk.below (w:=(w.alloc (.cells #[.string {data:= #[]},.string {data:= #[]}] 24)).drew) X.out o X.out.lt);have V:=yH (G.out.drew.trans (o.mono G.out.size));clear hN o)
  |(go_at_call 42;(with_reducible refine(aFg q a len l f k 6 w1 (by decide) (by decide) S1.out).mono ?_);rintro e w2 ⟨i,k2,rfl,hi,x,m⟩;have S2:=yH x;have E:=yH (Blk.keptB M.out m M.out.lt (by omega));have L:=yH (Blk.keptB R.out m R.out.lt (by omega));have F:=yH ((KeptB.of_below (g:=q) V.out).trans (m.mono V.out.size));obtain⟨t,z⟩: ∃t,t=nameLs.getD i []:=⟨_,rfl⟩;have d:=yH z;clear z;have C:i<nameLs.length:=(by simp;omega);have n:=yH C;clear C;have x2:=aFh E.out i n.out d.out;clear x m)
  |(go_at_call 46;(with_reducible refine(aKk _ w2.heap.size rfl).mono ?_);rintro e w3 ⟨rfl,Y,c,aa⟩;have J:=yH Y;have S3:=yH (SeqIn.below S2.out c);have Z:=yH (L.out.below c L.out.lt);have I:=yH (E.out.below c E.out.lt);have N:=yH (F.out.trans (KeptB.of_below (c.mono F.out.size)));have x3:=aFh I.out i n.out d.out;clear Y c)
  |(go_at_call 42;(with_reducible refine(aFg q a len l f k2 10 w3 (by decide) (by decide) S3.out).mono ?_);rintro e w4 ⟨j,k4,rfl,hj,A,b⟩;have S4:=yH A;have N4:=yH (Blk.keptB I.out b I.out.lt (by omega));have D:=yH (Blk.keptB Z.out b Z.out.lt (by omega));have V4:=yH (Blk.keptB J.out b J.out.lt (by have:=F.out.size;omega));have K4:=yH (N.out.trans (b.mono N.out.size));have x4:=aFh N4.out i n.out d.out;obtain⟨u,B⟩: ∃u,u=valueLs.getD j []:=⟨_,rfl⟩;have y:=yH B;clear B;have r:j<valueLs.length:=(by simp;omega);have s:=yH r;clear r;have y4:=aFh V4.out j s.out y.out;have f0:=D.out.frozen 0;have f1:=D.out.frozen 1;have c0:=D.out.cell (i:=0) rfl;have c1:=D.out.cell (i:=1) rfl;clear A b))
 all_goals
  go_wp2
  obtain⟨n1,n2⟩:=aMG t (by rw[d.out];exact getD_mem n.out)
  obtain⟨v1,v2⟩:=aKi u (by rw[y.out];exact getD_mem s.out)
  have HK:=(K4.out.setCell (p:=⟨w.heap.size,0,none⟩) (Or.inl (yR _)) (.string (T t))).setCell (p:=⟨w.heap.size,1,none⟩) (Or.inl (yR _)) (.string (T u))
  refine bodyPost_ret (v:=pv t u) (by simp[results,Tryz.results15,go_sem,c0,c1]) rfl ⟨t,u,k4,rfl,⟨n1,v1,aOv n2 v2⟩,⟨?_,aBX HI.out HK H.out,S4.out.2.2⟩,HK⟩
  exact(S4.out.1.far (p:=⟨w.heap.size,0,none⟩) (show q≠w.heap.size by omega) _).far (p:=⟨w.heap.size,1,none⟩) (show q≠w.heap.size by omega) _
end SeqP
namespace Fsp
open Bytes8 Blk8 Fa Fb OwnE
theorem aOx (l:List Int)(j:AllB l)(i:Nat)(c:i<l.length):((T l)[i]! ==(61:UInt8))=decide (l.getD i 0=61):=by
 have b:i<(T l).size:=by rw[aA9];exact c
 have a:i<(T l).toList.length:=by rw[aAz,List.length_map];exact c
 have d:(T l)[i]! =(T l)[i]'b:=getElem!_pos (T l) i b
 have f:((T l)[i]'b)=(T l).toList[i]'a:=by
  have:(T l).toList=(T l).data.toList:=ByteArray.toList_eq _
  simp only[this]
  rfl
 have k:(T l).toList[i]'a=(l[i]).toNat.toUInt8:=by simp only[aAz,List.getElem_map]
 have m:=j l[i] (List.getElem_mem c)
 have g:l.getD i 0=l[i]:=by simp[yG c]
 rw[d,f,k,g]
 by_cases h:l[i]=61
 ·simp[h]
 ·have:(l[i]).toNat.toUInt8≠(61:UInt8):=fun e=>h (by
   have:=congrArg UInt8.toNat e
   simp at this
   omega)
  simp[h,this]
def idxI (l:List Int):Int:=if cutI l<l.length then(cutI l:Int)else -1
theorem aKl (l:List Int)(b:AllB l):firstIdx (T l) 61=idxI l:=by
 unfold firstIdx idxI
 rw[aA9]
 by_cases h:cutI l<l.length
 ·rw[if_pos h]
  have:(List.range l.length).find? (fun i=>(T l)[i]! ==(61:UInt8))=some (cutI l):=by
   rw[List.find?_range_eq_some]
   refine⟨?_,List.mem_range.2 h,fun j a=>?_⟩
   ·show((T l)[cutI l]! ==(61:UInt8))=true
    rw[aOx l b _ h,aHi h];rfl
   ·show(!((T l)[j]! ==(61:UInt8)))=true
    rw[aOx l b _ (by omega),decide_eq_false (aCe a)];rfl
  rw[this]
 ·rw[if_neg h]
  have:(List.range l.length).find? (fun i=>(T l)[i]! ==(61:UInt8))=none:=by
   rw[List.find?_range_eq_none]
   intro j a
   show(!((T l)[j]! ==(61:UInt8)))=true
   rw[aOx l b _ a,decide_eq_false (aCe (by have:=aHh l;omega))];rfl
  rw[this]
theorem aFi (l:List Int)(a:AllB l)(w:World):
 Calls Tryz.prog 244 #[.string (T l),.int .u8 61] w fun e w'=>e= .returned (.int .i64 (idxI l))∧w=w':=by
 have b: ∀w,(Extern.BytealgIndexByte.indexByte #[.string (T l),.int .u8 61]).run Tryz.prog w= .ok (.int .i64 (idxI l)) w:=fun w=>by
  rw[run_indexByte_string]
  show Result.ok (Value.int .i64 (firstIdx (T l) 61)) w=_
  rw[aKl l a]
 generalize T l=S at*
 generalize idxI l=I at*
 go_enter Tryz.func244,Tryz.ntmps244
 go_wp2
 rw[run_callFunc_extern Tryz.func250 (by kernel_rfl) (by kernel_rfl) (by kernel_rfl) (e:=Extern.BytealgIndexByte.indexByte) (by kernel_rfl),b]
 simp only[Result.andThen]
 rw[Oper.upon_value]
 go_wp2
 go_ret
 exact⟨rfl,rfl⟩
theorem aKm (l:List Int)(f:AllB l)(g:l.length≤1000000)(w:World):
 Calls Tryz.prog 237 #[.string (T l),.string {data:= #[61]}] w fun e w'=>e= .returned (.int .i64 (idxI l))∧w=w':=by
 have d:=yH fun w=>aFi l f w
 have c:([61]==(T l).toList)=decide ([61]=l):=by
  have i:=aHg (l:=[61]) (m:=l) (fun x hx=>by simp at hx;subst hx;decide) f
  rw[←i,show(T [61]).toList=[61]by rw[aAz];rfl]
 have a: ∀w,(Instr.index 9 (.string {data:= #[61]}) (.int .i64 0)).run Tryz.prog w= .ok (.int .u8 61) w:=fun w=>by
  have:=aFq [61] (fun x hx=>by simp at hx;subst hx;decide) 0 (by decide) w
  rw[aPN];exact this
 by_cases h: [61]=l
 ·have b:idxI l=0:=by subst h;decide
  rw[b]
  rw[decide_eq_true h]at c
  clear d a b h
  generalize T l=S at*
  go_enter Tryz.func237,Tryz.ntmps237
  go_wp2
  go_ret
  exact⟨rfl,rfl⟩
 ·rw[decide_eq_false h]at c
  clear h
  generalize T l=S at*
  generalize idxI l=I at*
  go_enter Tryz.func237,Tryz.ntmps237
  go_wp2_with(go_at_call 244;(with_reducible refine(d.out _).mono ?_);rintro e w' ⟨rfl,rfl⟩)
  go_ret
  exact⟨rfl,rfl⟩
theorem aMJ (l:List Int)(k:Nat)(a:k≤l.length)(w:World):(Instr.slice 9 (.string (T l)) none (some (.int .i64 (k:Int))) none).run Tryz.prog w= .ok (.string (T (l.take k))) w:=by
 have b:=aA9 l
 have e:=aPO l 0 k
 rw[List.drop_zero,Nat.sub_zero]at e
 rw[run_slice_string_to_if w 9 (T l) .i64 (k:Int) Tryz.underlying9,if_pos (by omega),Int.toNat_natCast,e]
theorem aMK (l:List Int)(k:Nat)(b:k≤l.length)(w:World):(Instr.slice 9 (.string (T l)) (some (.int .i64 (k:Int))) none none).run Tryz.prog w= .ok (.string (T (l.drop k))) w:=by
 have a:=aA9 l
 have e:=aPO l k l.length
 rw[List.take_of_length_le (by simp)]at e
 rw[run_slice_string_from_if w 9 (T l) .i64 (k:Int) Tryz.underlying9,if_pos (by omega),Int.toNat_natCast,a,e]
def cutA1 (l:List Int):List Int:=if cutI l<l.length then l.take (cutI l)else l
def cutA2 (l:List Int):List Int:=if cutI l<l.length then l.drop (cutI l+1)else []
theorem aML (l:List Int)(g:AllB l)(d:l.length≤1000000)(w:World):
 Calls Tryz.prog 222 #[.string (T l),.string {data:= #[61]}] w fun e w'=>e= .returned (.tuple #[.string (T (cutA1 l)),.string (T (cutA2 l)),.bool (decide (cutI l<l.length))])∧Grew w w':=by
 have f:=yH fun w=>aKm l g d w
 have i:=aA9 l
 by_cases h:cutI l<l.length
 ·have c:cutA1 l=l.take (cutI l):=if_pos h
  have a:cutA2 l=l.drop (cutI l+1):=if_pos h
  have b:idxI l=(cutI l:Int):=if_pos h
  have m:=aMJ l (cutI l) (by omega)
  have o: ∀w,(Instr.slice 9 (.string (T l)) (some (.int .i64 ((cutI l:Int)+1))) none none).run Tryz.prog w= .ok (.string (T (l.drop (cutI l+1)))) w:=aMK l (cutI l+1) (by omega)
  rw[c,a,decide_eq_true h]
  rw[b]at f
  have n:cutI l≤1000000:=by omega
  clear c a b g
  generalize l.length=len at*
  generalize T (l.take (cutI l))=p at*
  generalize T (l.drop (cutI l+1))=j at*
  generalize T l=S at*
  generalize cutI l=k at*
  go_enter Tryz.func222,Tryz.ntmps222
  go_wp2_with(go_at_call 237;(with_reducible refine(f.out _).mono ?_);rintro e w' ⟨rfl,rfl⟩)
  go_quiet (fail)
  go_wp2
  go_ret3
  exact⟨rfl,(Grew.refl w).drewN _⟩
 ·have c:cutA1 l=l:=if_neg h
  have a:cutA2 l=[]:=if_neg h
  have b:idxI l= -1:=if_neg h
  rw[c,a,decide_eq_false h,←aFp]
  rw[b]at f
  clear c a b g
  generalize T l=S at*
  go_enter Tryz.func222,Tryz.ntmps222
  go_wp2_with(go_at_call 237;(with_reducible refine(f.out _).mono ?_);rintro e w' ⟨rfl,rfl⟩)
  go_ret3
  exact⟨rfl,Grew.refl w⟩
theorem aOy (l:List Int)(d:AllB l)(a:l.length≤1000000)(w:World):
 Calls Tryz.prog 206 #[.string (T l),.string {data:= #[61]}] w fun e w'=>e= .returned (.tuple #[.string (T (cutA1 l)),.string (T (cutA2 l)),.bool (decide (cutI l<l.length))])∧Grew w w':=by
 have c:=yH fun w=>aML l d a w
 generalize T (cutA1 l)=i at*
 generalize T (cutA2 l)=g at*
 generalize decide (cutI l<l.length)=b at*
 generalize T l=S at*
 go_enter Tryz.func206,Tryz.ntmps206
 go_wp2_with(go_at_call 222;(with_reducible refine(c.out _).mono ?_);rintro e w' ⟨rfl,f⟩)
 go_ret3
 exact⟨rfl,f⟩
def Splitted (l:List Int)(w:World)(e:Ending)(w':World):Prop:=e= .returned (.tuple #[pv (splitN l) (splitV l),.int .i64 (splitE l)])∧Below w.heap.size w w'
set_option maxRecDepth 100000 in
set_option maxRecDepth 100000 in
theorem aF4 (a:Option Addr)(l:List Int)(len q:Nat)(w:World)(t:Bytes w a l)(E:l.length=len)(z:len≤1000000):
 Calls Tryz.prog 181 #[.slice a len q] w (Splitted l w):=by
 subst E
 have u:=t.1
 have x:=yH fun w=>aOy l u z w
 have F:(convert 26 9 (.slice a l.length q)).run Tryz.prog (w.alloc (.cells #[.string {data:= #[]},.string {data:= #[]}] 24))= .ok (.string (T l)) (w.alloc (.cells #[.string {data:= #[]},.string {data:= #[]}] 24)):=
  (t.below ((yB w.heap.size w).alloc (yR _) _) (yR _)).string q _ rfl
 unfold Splitted
 have d:splitE l=if cutI l<l.length then(if nmB (l.take (cutI l))=true then(if 256<l.length-cutI l-1 then 21 else 0)else 20)else 20:=rfl
 have b0:Below w.heap.size w (w.alloc (.cells #[.string {data:= #[]},.string {data:= #[]}] 24)):=(yB w.heap.size w).alloc (yR _) _
 by_cases h:cutI l<l.length
 ·have p:cutA1 l=l.take (cutI l):=if_pos h
  have k:cutA2 l=l.drop (cutI l+1):=if_pos h
  rw[p,k,decide_eq_true h]at x
  rw[if_pos h]at d
  have y:=yH fun w=>name_any (l.take (cutI l)) (u.take _) w
  have B:(T (l.drop (cutI l+1))).size=l.length-cutI l-1:=by rw[aA9,List.length_drop];omega
  cases j:nmB (l.take (cutI l))with
  |false=>
   rw[j]at y d
   have b:splitE l=20:=d
   obtain⟨g,f⟩:=aCC (l:=l) (by rw[b];decide)
   dsimp only[pv]
   rw[b,g,f,←aFp]
   clear d b g f j p k t u B
   generalize l.length=len at*
   generalize T (l.take (cutI l))=C at*
   generalize T (l.drop (cutI l+1))=A at*
   generalize T l=S at*
   clear h
   go_enter Tryz.func181,Tryz.ntmps181
   go_wp2_with(first|(go_at_call 206;(with_reducible refine(x.out _).mono ?_);rintro e w2 ⟨rfl,c⟩;have n:=yH (b0.trans (c.below.mono b0.size));have R:=yH ((Blk.new w [.string {data:= #[]},.string {data:= #[]}] 24).below c.below (by simp));have s:=R.out.cell (i:=0) rfl;have r:=R.out.cell (i:=1) rfl;have m:=R.out.frozen 0;have o:=R.out.frozen 1;clear c)|(go_at_call 163;(with_reducible refine(y.out _).mono ?_);rintro e w' ⟨rfl,rfl⟩))
   refine bodyPost_ret (v:= .tuple #[.agg #[.string {data:= #[]},.string {data:= #[]}],.int .i64 20]) (by simp[results_cell_tmp Tryz.results181,go_sem,s,r,m,o,Result.andThen]) rfl ⟨rfl,?_⟩
   (repeat (first|(with_reducible exact n.out)|refine Below.setCell ?_ (by simp) _|refine Below.alloc ?_ (by simp) _|refine below_drewN ?_ _))
  |true=>
   rw[j]at y d
   rw[if_pos rfl]at d
   by_cases D:256<l.length-cutI l-1
   ·have b:splitE l=21:=d.trans (if_pos D)
    obtain⟨g,f⟩:=aCC (l:=l) (by rw[b];decide)
    dsimp only[pv]
    rw[b,g,f,←aFp]
    clear d b g f j p k t u
    generalize l.length-cutI l-1=G at*
    generalize l.length=len at*
    generalize T (l.take (cutI l))=C at*
    generalize T (l.drop (cutI l+1))=A at*
    generalize T l=S at*
    clear h
    go_enter Tryz.func181,Tryz.ntmps181
    go_wp2_with(first|(go_at_call 206;(with_reducible refine(x.out _).mono ?_);rintro e w2 ⟨rfl,c⟩;have n:=yH (b0.trans (c.below.mono b0.size));have R:=yH ((Blk.new w [.string {data:= #[]},.string {data:= #[]}] 24).below c.below (by simp));have s:=R.out.cell (i:=0) rfl;have r:=R.out.cell (i:=1) rfl;have m:=R.out.frozen 0;have o:=R.out.frozen 1;clear c)|(go_at_call 163;(with_reducible refine(y.out _).mono ?_);rintro e w' ⟨rfl,rfl⟩))
    refine bodyPost_ret (v:= .tuple #[.agg #[.string {data:= #[]},.string {data:= #[]}],.int .i64 21]) (by simp[results_cell_tmp Tryz.results181,go_sem,s,r,m,o,Result.andThen]) rfl ⟨rfl,?_⟩
    (repeat (first|(with_reducible exact n.out)|refine Below.setCell ?_ (by simp) _|refine Below.alloc ?_ (by simp) _|refine below_drewN ?_ _))
   ·have b:splitE l=0:=d.trans (if_neg D)
    have g:splitN l=l.take (cutI l):=by unfold splitN;rw[if_pos b]
    have f:splitV l=l.drop (cutI l+1):=by unfold splitV;rw[if_pos b]
    dsimp only[pv]
    rw[b,g,f]
    clear d b g f j p k t u
    generalize l.length-cutI l-1=G at*
    generalize l.length=len at*
    generalize T (l.take (cutI l))=C at*
    generalize T (l.drop (cutI l+1))=A at*
    generalize T l=S at*
    clear h
    go_enter Tryz.func181,Tryz.ntmps181
    go_wp2_with(first|(go_at_call 206;(with_reducible refine(x.out _).mono ?_);rintro e w2 ⟨rfl,c⟩;have n:=yH (b0.trans (c.below.mono b0.size));have R:=yH ((Blk.new w [.string {data:= #[]},.string {data:= #[]}] 24).below c.below (by simp));have s:=R.out.cell (i:=0) rfl;have r:=R.out.cell (i:=1) rfl;have m:=R.out.frozen 0;have o:=R.out.frozen 1;clear c)|(go_at_call 163;(with_reducible refine(y.out _).mono ?_);rintro e w' ⟨rfl,rfl⟩))
    refine bodyPost_ret (v:= .tuple #[.agg #[.string C,.string A],.int .i64 0]) (by simp[results_cell_tmp Tryz.results181,go_sem,s,r,m,o,Result.andThen]) rfl ⟨rfl,?_⟩
    (repeat (first|(with_reducible exact n.out)|refine Below.setCell ?_ (by simp) _|refine Below.alloc ?_ (by simp) _|refine below_drewN ?_ _))
 ·have p:cutA1 l=l:=if_neg h
  have k:cutA2 l=[]:=if_neg h
  rw[p,k,decide_eq_false h,←aFp]at x
  rw[if_neg h]at d
  have b:splitE l=20:=d
  obtain⟨g,f⟩:=aCC (l:=l) (by rw[b];decide)
  dsimp only[pv]
  rw[b,g,f,←aFp]
  clear d b g f p k t u
  have y:=yH True.intro
  generalize l.length=len at*
  generalize T l=S at*
  clear h
  go_enter Tryz.func181,Tryz.ntmps181
  go_wp2_with(go_at_call 206;(with_reducible refine(x.out _).mono ?_);rintro e w2 ⟨rfl,c⟩;have n:=yH (b0.trans (c.below.mono b0.size));have R:=yH ((Blk.new w [.string {data:= #[]},.string {data:= #[]}] 24).below c.below (by simp));have s:=R.out.cell (i:=0) rfl;have r:=R.out.cell (i:=1) rfl;have m:=R.out.frozen 0;have o:=R.out.frozen 1;clear c)
  refine bodyPost_ret (v:= .tuple #[.agg #[.string {data:= #[]},.string {data:= #[]}],.int .i64 20]) (by simp[results_cell_tmp Tryz.results181,go_sem,s,r,m,o,Result.andThen]) rfl ⟨rfl,?_⟩
  (repeat (first|(with_reducible exact n.out)|refine Below.setCell ?_ (by simp) _|refine Below.alloc ?_ (by simp) _|refine below_drewN ?_ _))
end Fsp
namespace Fe
open Bytes8 Blk8 Fa Fb Fsp OwnE
theorem aQk (A:Option Addr)(len a b:Nat)(d:b≤a)(w:World):
 (Instr.slice 26 (.slice A len a) none (some (.int .i64 (b:Int))) none).run Tryz.prog w= .ok (.slice (cutA A a 0) b a) w:=by
 have c:Tryz.prog.underlying 26=some (.slice (Tryz.prog.elem 26)):=by rw[aDy];exact Tryz.underlying26
 rw[run_slice_h w 26 A len a c .i64 b (by omega) (by omega),aDy,aDc]
 simp[Result.andThen,sliced,cutA]
abbrev blank (w:World):World:=w.alloc (.cells #[.string {data:= #[]},.string {data:= #[]}] 24)
set_option maxRecDepth 100000 in
theorem aJc (a:Option Addr)(l:List Int)(len d:Nat)(w:World)(N:Bytes w a l)(hL:l.length=len)(ac:len≤1000000)(ab:len≤d)(F:d≤maxLen):
 Calls Tryz.prog 89 #[.slice a len d] w (Splitted l w):=by
 unfold maxLen at F
 have hA:=N.1
 have b0:Below w.heap.size w (blank w):=(yB w.heap.size w).alloc (yR _) _
 have E:Bytes (blank w) a l:=N.below b0 (yR _)
 have Y:Bytes (blank w).drew a l:=E
 have R:=yH (Blk.new w [.string {data:= #[]},.string {data:= #[]}] 24)
 have t:Hid (splitE l=if cutI l<l.length then(if nmB (l.take (cutI l))=true then(if 256<l.length-cutI l-1 then 21 else 0)else 20)else 20):=yH rfl
 have q:=yH (fun h=>aCC (l:=l) h)
 have x:Hid (splitE l=0→splitN l=l.take (cutI l)):=yH fun h=>by unfold splitN;rw[if_pos h]
 have u:Hid (splitE l=0→splitV l=l.drop (cutI l+1)):=yH fun h=>by unfold splitV;rw[if_pos h]
 have HA:=yH hA
 have L:=yH E
 have s:=yH hL
 unfold Splitted
 dsimp only[pv,blank]at*
 have z:=yH b0
 clear E Y hL hA N b0
 go_enter Tryz.func89,Tryz.ntmps89
 go_wp2
 go_loop [4] (fun i=> ∃k:Nat,k≤len∧i= .int .i64 (k:Int)∧Hid (∀j,j<k→l.getD j 0≠61)) (fun i=>len-(intOf i).toNat)
 case atStart=>exact⟨0,by omega,rfl,yH fun j hj=>absurd hj (by omega)⟩
 case round=>
  obtain⟨k,hk,rfl,f⟩:=hrel
  rcases Nat.lt_or_ge k len with M|ae
  ·obtain⟨b,r,rfl,aa,hc⟩:=L.out.spot (by have:=s.out;omega)
   have C:=hc k (by have:=s.out;omega)
   obtain⟨c1,c2⟩:=HA.out.at_ k
   have af:(k:Int)<(len:Int):=by omega
   by_cases p:l.getD k 0=61
   ·have hcut:cutI l=k:=aKv (by have:=s.out;omega) p f.out
    rw[p]at C
    clear c1 c2 p f hc
    rw[hcut,s.out,if_pos M]at t
    rw[hcut]at x u
    clear hcut
    have ag:=aQk (some ⟨b,r,none⟩) len d k (by omega)
    have J: ∀w,(Instr.slice 26 (.slice (some ⟨b,r,none⟩) len d) (some (.int .i64 ((k:Int)+1))) none none).run Tryz.prog w= .ok (.slice (cutA (some ⟨b,r,none⟩) d (k+1)) (len-(k+1)) (d-(k+1))) w:=aJA (some ⟨b,r,none⟩) len d (k+1) (by omega)
    have hv1:=((OwnE.Bytes.cut L.out d 0 k (by rw[s.out];omega))).string d k (by simp;have:=s.out;omega)
    have o:=((OwnE.Bytes.cut L.out.drew d 0 k (by rw[s.out];omega))).string d k (by simp;have:=s.out;omega)
    have n:=((OwnE.Bytes.cut L.out.drew d (k+1) (len-(k+1)) (by rw[s.out];omega))).string (d-(k+1)) (len-(k+1)) (by simp;have:=s.out;omega)
    rw[List.drop_zero]at hv1 o
    rw[List.take_of_length_le (by simp;have:=s.out;omega)]at n
    generalize cutA (some ⟨b,r,none⟩) d 0=A1 at*
    generalize cutA (some ⟨b,r,none⟩) d (k+1)=A2 at*
    have I:=yH fun w=>aF2 (l.take k) (HA.out.take k) (by have:=s.out;simp;omega) w
    have f0:=R.out.frozen 0
    have f1:=R.out.frozen 1
    have g0:=R.out.cell (i:=0) rfl
    have g1:=R.out.cell (i:=1) rfl
    cases y:nmB (l.take k)with
    |false=>
     rw[y]at I t
     have g:splitE l=20:=t.out
     obtain⟨B,A⟩:=q.out (by rw[g];decide)
     have m:=yH (And.intro g (And.intro B A))
     clear t g B A y q x u J n o
     change (convert _ _ _).run _ _= .ok (.string (T (l.take k))) _ at hv1
     generalize T (l.take k)=Z at*
     go_wp2_with(go_at_call 101;(with_reducible refine(I.out _).mono ?_);rintro e w' ⟨rfl,rfl⟩)
     refine bodyPost_ret (v:= .tuple #[.agg #[.string {data:= #[]},.string {data:= #[]}],.int .i64 20]) (by simp[results_cell_tmp Tryz.results89,go_sem,Result.andThen]) rfl ⟨by rw[m.out.1,m.out.2.1,m.out.2.2,←aFp],?_⟩
     (repeat (first|(with_reducible exact z.out)|(with_reducible exact yB _ _)|refine Below.setCell ?_ (by simp) _|refine Below.alloc ?_ (by simp) _|refine Below.drew ?_|refine below_drewN ?_ _))
    |true=>
     rw[y]at I t
     rw[if_pos rfl]at t
     change (convert _ _ _).run _ _= .ok (.string (T (l.take k))) _ at hv1
     change (convert _ _ _).run _ _= .ok (.string (T (l.take k))) _ at o
     change (convert _ _ _).run _ _= .ok (.string (T (l.drop (k+1)))) _ at n
     by_cases hv:256<len-k-1
     ·have g:splitE l=21:=t.out.trans (if_pos hv)
      obtain⟨B,A⟩:=q.out (by rw[g];decide)
      have m:=yH (And.intro g (And.intro B A))
      clear t g B A y q x u J n o
      have hv2:(256:Int)<(len:Int)-(k:Int)-1:=by omega
      generalize T (l.take k)=Z at*
      go_wp2_with(go_at_call 101;(with_reducible refine(I.out _).mono ?_);rintro e w' ⟨rfl,rfl⟩)
      refine bodyPost_ret (v:= .tuple #[.agg #[.string {data:= #[]},.string {data:= #[]}],.int .i64 21]) (by simp[results_cell_tmp Tryz.results89,go_sem,Result.andThen]) rfl ⟨by rw[m.out.1,m.out.2.1,m.out.2.2,←aFp],?_⟩
      (repeat (first|(with_reducible exact z.out)|(with_reducible exact yB _ _)|refine Below.setCell ?_ (by simp) _|refine Below.alloc ?_ (by simp) _|refine Below.drew ?_|refine below_drewN ?_ _))
     ·have g:splitE l=0:=t.out.trans (if_neg hv)
      have m:=yH (And.intro g (And.intro (x.out g) (u.out g)))
      clear t g y q x u
      have hv2: ¬(256:Int)<(len:Int)-(k:Int)-1:=by omega
      generalize G:T (l.take k)=Z at*
      generalize H:T (l.drop (k+1))=S2 at*
      have V:=yH G
      have X:=yH H
      clear G H
      go_wp2_with(go_at_call 101;(with_reducible refine(I.out _).mono ?_);rintro e w' ⟨rfl,rfl⟩)
      go_region
      all_goals
       go_wp2
       refine bodyPost_ret (v:= .tuple #[.agg #[.string Z,.string S2],.int .i64 0]) (by simp[results_cell_tmp Tryz.results89,go_sem,Result.andThen]) rfl ⟨by rw[m.out.1,m.out.2.1,m.out.2.2,V.out,X.out],?_⟩
       (repeat (first|(with_reducible exact z.out)|(with_reducible exact yB _ _)|refine Below.setCell ?_ (by simp) _|refine Below.alloc ?_ (by simp) _|refine Below.drew ?_|refine below_drewN ?_ _))
   ·have ad:(l.getD k 0 !=61)=true:=by simpa using p
    have D:=yH (fun j (hj:j<k+1)=>(by
     rcases Nat.lt_or_ge j k with h1|h1
     ·exact f.out j h1
     ·obtain rfl:j=k:=by omega
      exact p:l.getD j 0≠61))
    clear f hc p
    generalize l.getD k 0=c at*
    go_wp2
    go_round
    case rel=>exact⟨k+1,by omega,by go_num,D⟩
    case measure=>simp[intOf];omega
  ·obtain rfl:k=len:=by omega
   have hcut:cutI l=l.length:=aKw fun j hj=>f.out j (by have:=s.out;omega)
   rw[hcut,if_neg (Nat.lt_irrefl _)]at t
   have g:splitE l=20:=t.out
   obtain⟨B,A⟩:=q.out (by rw[g];decide)
   have m:=yH (And.intro g (And.intro B A))
   clear t g B A hcut f
   go_wp2
   refine bodyPost_ret (v:= .tuple #[.agg #[.string {data:= #[]},.string {data:= #[]}],.int .i64 20]) (by simp[results_cell_tmp Tryz.results89,go_sem,Result.andThen]) rfl ⟨by rw[m.out.1,m.out.2.1,m.out.2.2,←aFp],?_⟩
   (repeat (first|(with_reducible exact z.out)|(with_reducible exact yB _ _)|refine Below.setCell ?_ (by simp) _|refine Below.alloc ?_ (by simp) _|refine Below.drew ?_|refine below_drewN ?_ _))
end Fe
namespace Mi
open Bytes8 Blk8 Own8 OwnE Gb Gp Numb Seq8
def mkId (x:Int):Nat→Int:=fun i=>if i=0 then 94 else if i=15 then x else 0
theorem aCX {x:Int}(h:0≤x∧x<256):IdOk (mkId x):=fun i=>by
 unfold mkId
 split
 ·decide
 ·split
  ·exact h
  ·decide
abbrev idR (x:Int):List Value:=(idL (mkId x)).map (Value.int .u8)
theorem aOz (x:Int):(z16.set 0 (.int .u8 94)).set 15 (.int .u8 x)=idR x:=rfl
theorem aFj (x:Int):(Tryz.prog.info? 61).map (·.size)=some (idR x).toArray.size:=by rw[idInfo];rfl
theorem aOA (x:Int):(idR x).toArray.all (·.oneCell')=true:=by
 rw[Array.all_eq_true_iff_forall_mem]
 intro v a
 simp only[List.mem_toArray,List.mem_map]at a
 obtain⟨i,_,rfl⟩:=a
 rfl
attribute [local irreducible] wpList Code.wp
theorem aKn (n:Int)(w:World):
 Calls Tryz.prog 64 #[.int .i64 n] w fun e w'=> ∃x:Int,(0≤x∧x<5)∧e= .returned (idV (mkId x))∧Below w.heap.size w w':=by
 obtain⟨j,f,b⟩:=aDO n 5 (by decide)
 have a:=yH fun w=>aBV n 5 j w (by decide) (by decide) f.out
 clear f
 have k:=yH (show Blk ((w.alloc (.cells z16.toArray 61)).alloc (.cells z16.toArray 61)) w.heap.size z16 61 from(Blk.new w z16 _).alloc _)
 have d:=yH (show Blk ((w.alloc (.cells z16.toArray 61)).alloc (.cells z16.toArray 61)) (w.heap.size+1) z16 61 from Blk.new_at _ _ _ _ (by simp))
 have b0:=yH (((yB w.heap.size w).alloc (yR _) (.cells z16.toArray 61)).alloc (by simp) (.cells z16.toArray 61))
 have q:=yH (show((w.alloc (.cells z16.toArray 61)).alloc (.cells z16.toArray 61)).heap.size=w.heap.size+2 by simp)
 go_enter Tryz.func64,Tryz.ntmps64
 go_upto_region 2 with fail
 generalize (w.alloc (.cells z16.toArray 61)).alloc (.cells z16.toArray 61)=w0 at*
 have s:=d.out.cell (i:=0) rfl
 have r:=d.out.frozen 0
 have c:=yH (d.out.set_ 0 (.int .u8 94))
 have o:=c.out.cell (i:=15) rfl
 have m:=c.out.frozen 15
 go_upto_region 3 with(first|(go_at_call 36;(with_reducible refine(a.out _).mono ?_);rintro e w' ⟨rfl,rfl⟩)|fail)
 have g:=yH (show Blk _ (w.heap.size+1) (idR (j:Int)) 61 from aOz (j:Int)▸c.out.set_ 15 (.int .u8 (j:Int)))
 have l:=yH ((b0.out.setCell (p:=⟨w.heap.size+1,0,none⟩) (Nat.le_succ _) (.int .u8 94)).setCell (p:=⟨w.heap.size+1,15,none⟩) (Nat.le_succ _) (.int .u8 (j:Int)))
 have Z:=yH ((k.out.far (p:=⟨w.heap.size+1,0,none⟩) (by simp) (.int .u8 94)).far (p:=⟨w.heap.size+1,15,none⟩) (by simp) (.int .u8 (j:Int)))
 generalize (w0.setCell ⟨w.heap.size+1,0,none⟩ (.int .u8 94)).setCell ⟨w.heap.size+1,15,none⟩ (.int .u8 (j:Int))=w1 at*
 go_wp2_with(first
  |((with_reducible apply aAb 9);refine wpList_load_row rfl 61 (.tmp 3) rfl (w.heap.size+1) rfl 61 (idR (j:Int)).toArray (0,0) _ g.out Tryz.underlying61 rfl (aFj _) ?_)
  |((with_reducible apply aAa (.tmp 2) (.tmp 9));refine wpList_store_row rfl 61 (.tmp 2) (.tmp 9) rfl w.heap.size (idR (j:Int)).toArray rfl rfl 61 _ Z.out (aFj _) rfl (aOA _) ?_)
  |fail)
 refine bodyPost_ret (v:= .agg (idR (j:Int)).toArray) (by exact results_cell_row Tryz.results64 _ _ w.heap.size 61 _ (0,0) _ rfl (setRow_heap _ w.heap.size _ _ _ (0,0) Z.out) Tryz.underlying61 rfl (aFj _)) rfl ?_
 exact⟨(j:Int),⟨by omega,b⟩,rfl,below_setRow l.out (yR _) _⟩
theorem aMM (c:Nat)(a:Option Addr)(len b:Nat)(f:Nat→Int)(k:Nat)(w:World)(h:SeqIn w c a len b f k):
 Calls Tryz.prog 24 #[.pointer (some ⟨c,0,none⟩)] w fun e w'=>e= .returned (.bool (decide (k<len)))∧Below w.heap.size w w':=by
 have d:=h.1.cell (i:=0) rfl
 have g:=h.1.cell (i:=1) rfl
 clear h
 go_enter Tryz.func24,Tryz.ntmps24
 go_wp2
 go_region
 go_wp2
 go_ret
 exact⟨by simp,(yB _ _).drew⟩
end Mi
namespace Mf
open Bytes8 Blk8 Own8 OwnA OwnE Od Ga Ma Kf Mb Mc Md Me Fa Fb Dc
def knC (k:Kn)(v:Value):List Value:=[.string (T k.text),.int .u64 (k.at_:Int),.int .i64 (k.slot:Int),.int .i64 (k.count:Int),v]
def kf (l:List (Kn×Value)):List Value:=l.flatMap fun p=>knC p.1 p.2
theorem aKo (l:List (Kn×Value))(p:Kn×Value):kf (l++ [p])=kf l++knC p.1 p.2:=by simp[kf]
theorem aN3 (l:List (Kn×Value)):(kf l).length=l.length*5:=by
 induction l with
 |nil=>rfl
 |cons p l ih=>
  have:kf (p::l)=knC p.1 p.2++kf l:=by simp[kf]
  rw[this,yA,ih]
  simp[knC]
  omega
theorem aPI (l:List (Kn×Value)): ∀(i:Nat) (h:i<l.length) (j:Nat),j<5→(kf l)[i*5+j]? =(knC l[i].1 l[i].2)[j]? :=by
 induction l with
 |nil=>intro i h;cases h
 |cons p l ih=>
  intro i h j b
  have e:kf (p::l)=knC p.1 p.2++kf l:=by simp[kf]
  have a:(knC p.1 p.2).length=5:=rfl
  rw[e]
  cases i with
  |zero=>
   rw[List.getElem?_append_left (by rw[a];omega)]
   simp
  |succ i=>
   rw[List.getElem?_append_right (by rw[a];omega),a,show(i+1)*5+j-5=i*5+j by omega]
   rw[ih i (by simpa using h) j b]
   rfl
theorem aMN:Elt 142 124 5 64 (.agg #[.string {data:= #[]},.int .u64 0,.int .i64 0,.int .i64 0,.slice none 0 0]):=⟨Tryz.underlying124,by kernel_rfl,rfl,by decide⟩
abbrev OwnK (w:World)(B:Nat)(A:Option Addr)(n c:Nat)(l:List (Kn×Value)):Prop:=OwnE 142 5 w B A n c (kf l)
theorem aAy {w:World}{B n c:Nat}{A:Option Addr}{l:List (Kn×Value)}(h:OwnK w B A n c l):l.length=n:=by
 have:=h.len
 rw[aN3]at this
 omega
theorem aBp {w:World}{B n c:Nat}{A:Option Addr}{l:List (Kn×Value)}(h:OwnK w B A n c l)(i:Nat)(f:i<l.length): ∃b,A=some ⟨b,0,none⟩∧b<w.heap.size∧
 w.cell? ⟨b,i*5,none⟩=some (.string (T l[i].1.text))∧w.cell? ⟨b,i*5+1,none⟩=some (.int .u64 (l[i].1.at_:Int))∧w.cell? ⟨b,i*5+2,none⟩=some (.int .i64 (l[i].1.slot:Int))∧w.cell? ⟨b,i*5+3,none⟩=some (.int .i64 (l[i].1.count:Int))∧w.cell? ⟨b,i*5+4,none⟩=some l[i].2:=by
 have k:=aN3 l
 obtain⟨b,rfl,_,e,m⟩:=OwnE.cell h (i:=i*5) (by omega)
 have a: ∀j,j<5→w.cell? ⟨b,i*5+j,none⟩=(knC l[i].1 l[i].2)[j]? :=fun j hj=>by
  obtain⟨b2,d,_,_,g⟩:=OwnE.cell h (i:=i*5+j) (by omega)
  injection d with d
  injection d with d
  subst d
  rw[g,aPI l i f j hj]
 refine⟨b,rfl,e,?_,a 1 (by decide),a 2 (by decide),a 3 (by decide),a 4 (by decide)⟩
 have:=a 0 (by decide)
 rw[Nat.add_zero]at this
 exact this
theorem aIf {w:World}{B n c:Nat}{A:Option Addr}{l:List (Kn×Value)}(h:OwnK w B A n c l):Kns w A (l.map Prod.fst):=fun i hi=>by
 rw[List.length_map]at hi
 obtain⟨b,e,f,g,j,a,d,_⟩:=aBp h i hi
 refine⟨b,e,f,?_⟩
 simp only[List.getElem_map]
 exact⟨g,j,a,d⟩
theorem OwnE.keptF {E:TypeId}{size:Nat}{F:Nat→Prop}{w w':World}{base n c:Nat}{A:Option Addr}{xs:List Value}(h:OwnE E size w base A n c xs)(i:KeptF F w w')(m: ∀g,ownB A=some g→ ¬F g):OwnE E size w' base A n c xs:=by
 refine⟨Nat.le_trans h.1 i.size,h.2.1,?_⟩
 rcases h.2.2 with a|⟨k,f,b,a,j,e,l⟩
 ·exact .inl a
 ·refine .inr ⟨k,f,b,a,j,?_,l⟩
  have d:k<w.heap.size:=by
   rcases Nat.lt_or_ge k w.heap.size with h|h
   ·exact h
   ·rw[Array.getElem?_eq_none h]at e;cases e
  injection a with e1 e2 e3
  subst e1
  rw[i.block k d (m k rfl)];exact e
theorem MkB.below {w w':World}{B g a cb:Nat}{S:Sl}{m:Mk}(h:MkB w B g a cb S m)(b:Below w.heap.size w w'):MkB w' B g a cb S m:=
 ⟨h.st.below b h.st.lt,h.own.kept b (yR _),h.ne⟩
theorem aBD {w:World}{B g b n c:Nat}{l:List Int}(h:Own w B (some ⟨b,0,none⟩) n c l)(a:g≠b)(i:Nat)(v:Value):Own (w.setCell ⟨g,i,none⟩ v) B (some ⟨b,0,none⟩) n c l:=
 Kf.Own.keptF h (KeptF.set1 w g i v) (fun j hj e=>a (by injection hj with hj;exact(e.symm.trans hj.symm)))
theorem MkB.depth {w:World}{B g a cb:Nat}{S:Sl}{m:Mk}(h:MkB w B g a cb S m)(v:Nat):MkB (w.setCell ⟨g,142,none⟩ (.int .u64 (v:Int))) B g a cb S {m with depth:=v}:=
 ⟨by have:=h.st.set_ 142 (.int .u64 (v:Int));rw[Mk.set_depth]at this;exact this,aBD h.own h.ne _ _,h.ne⟩
theorem MkB.setN {w:World}{B g a cb:Nat}{S:Sl}{m:Mk}(h:MkB w B g a cb S m)(i k:Nat)(c:i<20)(b:k=119+i)(v:Int):MkB (w.setCell ⟨g,k,none⟩ (.int .u64 v)) B g a cb S {m with h:=setN m.h i v}:=
 ⟨by have:=h.st.set_ k (.int .u64 v);rw[Mk.set_Nk _ _ i k c b]at this;exact this,aBD h.own h.ne _ _,h.ne⟩
theorem MkB.setF {w:World}{B g a cb:Nat}{S:Sl}{m:Mk}(h:MkB w B g a cb S m)(v:Value):MkB (w.setCell ⟨g,145,none⟩ v) B g a cb {S with f:=v} m:=
 ⟨by have:=h.st.set_ 145 v;rw[Mk.set_f]at this;exact this,aBD h.own h.ne _ _,h.ne⟩
theorem MkB.grown {w w':World}{row:Option Nat}{B g a cb:Nat}{S:Sl}{m:Mk}(h:MkB w B g a cb S m)(b:w.grownBy w' row)(d:row≠some g)(c:row≠some a):MkB w' B g a cb S m:=
 ⟨(b.block g h.st.lt (fun e=>d e.symm)).trans h.st,aNB h.own b (fun j hj e=>c (by injection hj with hj;rw[e,←hj])),h.ne⟩
theorem MkB.same {w:World}{B g c cb:Nat}{S:Sl}{m m':Mk}(h:MkB w B g c cb S m)(e:m.C=m'.C)(d:m.h=m'.h)(f:m.depth=m'.depth)(a:m.b=m'.b):MkB w B g c cb S m':=
 ⟨by rw[←Mk.cells_same e d f,←a];exact h.st,by rw[←a];exact h.own,h.ne⟩
theorem aN4 (a b:Nat):(if a<b then((b:Nat):Int)else(a:Int))=((max a b:Nat):Int):=by
 by_cases h:a<b
 ·rw[if_pos h,Nat.max_eq_right (by omega)]
 ·rw[if_neg h,Nat.max_eq_left (by omega)]
end Mf
end Go.Proofs.YteaikbodkgjkdaaGreat
