/-
  Texts beneath.
-/
import Derived.Sort.Grow
import Derived.Test.YteaikbodkgjkdaaGreatQl14
set_option linter.unusedVariables false
set_option linter.unusedSimpArgs false
set_option maxRecDepth 100000
set_option maxHeartbeats 2000000
open Go.ChangeShapes Go.WideShapes Go.ChangeAt Go.RowKit
namespace Go.Proofs.YteaikbodkgjkdaaGreat
namespace Mc
open Bytes8 Blk8 Own8 OwnA OwnE Ob Od Ga Ma Kf Mb
structure Sl where
 b:Value
 d:Value
 f:Value
 m:Value
def Cf.at_ (C:Cf)(i:Nat):Value:=
 if i<48 then(if i<16 then .int .u8 (C.F i)else if i<32 then .int .u8 (C.M (i-16))else .int .u8 (C.S (i-32)))
 else if i=48 then .int .i64 (C.ds:Int)else if i=49 then .int .i64 (C.fs:Int)else if i=50 then .int .i64 (C.most:Int)else .bool C.keyed
def Mk.at_ (m:Mk)(S:Sl)(i:Nat):Value:=
 if i<142 then(if i<52 then Cf.at_ m.C i else m.h.at_ 20 (i-52))
 else if i=142 then .int .u64 (m.depth:Int)else if i=143 then S.b else if i=144 then S.d else if i=145 then S.f else S.m
def Mk.cells (m:Mk)(S:Sl):List Value:=(List.range 147).map (Mk.at_ m S)
theorem Mk.len (m:Mk)(S:Sl):(Mk.cells m S).length=147:=by simp[Mk.cells]
theorem Mk.get (m:Mk)(S:Sl)(i:Nat)(a:i<147):(Mk.cells m S)[i]? =some (Mk.at_ m S i):=by simp[Mk.cells,a]
theorem Mk.get_N (m:Mk)(S:Sl)(i:Nat)(a:i<20):(Mk.cells m S)[119+i]? =some (.int .u64 (m.h.N i)):=by
 rw[Mk.get m S _ (by omega)]
 unfold Mk.at_
 rw[if_pos (by omega),if_neg (by omega),show 119+i-52=67+i by omega]
 have:=m.h.get_N 20 i a
 rw[m.h.get 20 _ (by omega)]at this
 exact this
theorem Mk.get_depth (m:Mk)(S:Sl):(Mk.cells m S)[142]? =some (.int .u64 (m.depth:Int)):=by rw[Mk.get m S _ (by decide)];rfl
theorem Mk.get_b (m:Mk)(S:Sl):(Mk.cells m S)[143]? =some S.b:=by rw[Mk.get m S _ (by decide)];rfl
theorem Mk.get_d (m:Mk)(S:Sl):(Mk.cells m S)[144]? =some S.d:=by rw[Mk.get m S _ (by decide)];rfl
theorem Mk.get_f (m:Mk)(S:Sl):(Mk.cells m S)[145]? =some S.f:=by rw[Mk.get m S _ (by decide)];rfl
theorem Mk.get_m (m:Mk)(S:Sl):(Mk.cells m S)[146]? =some S.m:=by rw[Mk.get m S _ (by decide)];rfl
theorem Mk.get_ds (m:Mk)(S:Sl):(Mk.cells m S)[48]? =some (.int .i64 (m.C.ds:Int)):=by rw[Mk.get m S _ (by decide)];rfl
theorem Mk.get_fs (m:Mk)(S:Sl):(Mk.cells m S)[49]? =some (.int .i64 (m.C.fs:Int)):=by rw[Mk.get m S _ (by decide)];rfl
theorem Mk.get_most (m:Mk)(S:Sl):(Mk.cells m S)[50]? =some (.int .i64 (m.C.most:Int)):=by rw[Mk.get m S _ (by decide)];rfl
theorem Mk.get_F (m:Mk)(S:Sl)(i:Nat)(a:i<16):(Mk.cells m S)[i]? =some (.int .u8 (m.C.F i)):=by
 rw[Mk.get m S _ (by omega)]
 unfold Mk.at_ Cf.at_
 rw[if_pos (by omega),if_pos (by omega),if_pos (by omega),if_pos a]
abbrev fileV (C:Cf):List Value:=[.int .u8 (C.F 0),.int .u8 (C.F 1),.int .u8 (C.F 2),.int .u8 (C.F 3),.int .u8 (C.F 4),.int .u8 (C.F 5),.int .u8 (C.F 6),.int .u8 (C.F 7),.int .u8 (C.F 8),.int .u8 (C.F 9),.int .u8 (C.F 10),.int .u8 (C.F 11),.int .u8 (C.F 12),.int .u8 (C.F 13),.int .u8 (C.F 14),.int .u8 (C.F 15)]
theorem Mk.file_range {w:World}{g:Nat}{T:TypeId}{m:Mk}{S:Sl}(c:Blk w g (Mk.cells m S) T):w.rangeAt g 0 (fileV m.C):=fun j v hj=>by
 have a:j<16:=(List.getElem?_eq_some_iff.1 hj).1
 have b:=c.cell (Mk.get_F m S j a)
 have e:(fileV m.C)[j]? =some (.int .u8 (m.C.F j)):=by
  rcases j with _|_|_|_|_|_|_|_|_|_|_|_|_|_|_|_|j
  all_goals first|rfl|omega
 rw[e]at hj
 injection hj with hj
 subst hj
 rw[Nat.zero_add]
 exact b
theorem Mk.get_keyed (m:Mk)(S:Sl):(Mk.cells m S)[51]? =some (.bool m.C.keyed):=by rw[Mk.get m S _ (by decide)];rfl
theorem aBo (f c:Nat→Value)(n i:Nat)(v:Value)(g:c i=v)(d: ∀j,j≠i→c j=f j):((List.range n).map f).set i v=(List.range n).map c:=by
 apply List.ext_getElem?
 intro j
 rw[List.getElem?_set]
 by_cases a:j<n
 ·by_cases b:i=j
  ·subst b
   simp[a,g]
  ·rw[if_neg b]
   simp[a,d j (fun e=>b e.symm)]
 ·simp[a]
  omega
theorem at_N (m:Mk)(S:Sl)(i:Nat)(a:i<20):Mk.at_ m S (119+i)= .int .u64 (m.h.N i):=by
 have:=Mk.get_N m S i a
 rw[Mk.get m S _ (by omega)]at this
 injection this
theorem Mk.set_N (m:Mk)(S:Sl)(i:Nat)(e:i<20)(v:Int):(Mk.cells m S).set (119+i) (.int .u64 v)=Mk.cells {m with h:=setN m.h i v} S:=by
 refine aBo _ _ _ _ _ ?_ fun j hj=>?_
 ·rw[at_N _ _ _ e];simp[setN]
 ·unfold Mk.at_
  by_cases b:j<142
  ·rw[if_pos b,if_pos b]
   by_cases a:j<52
   ·rw[if_pos a,if_pos a]
   ·rw[if_neg a,if_neg a]
    unfold HD.at_
    simp only[setN]
    by_cases d:j-52<67+20
    ·by_cases c:j-52<67
     ·simp only[c,if_true]
     ·rw[if_neg (by omega),if_neg c,if_pos d,if_neg (by omega),if_neg c,if_pos d,if_neg (by omega)]
    ·simp only[d,if_false]
  ·rw[if_neg b,if_neg b]
theorem Mk.set_Nk (m:Mk)(S:Sl)(i k:Nat)(b:i<20)(a:k=119+i)(v:Int):(Mk.cells m S).set k (.int .u64 v)=Mk.cells {m with h:=setN m.h i v} S:=by subst a;exact Mk.set_N m S i b v
theorem Mk.get_Nk (m:Mk)(S:Sl)(i k:Nat)(b:i<20)(a:k=119+i):(Mk.cells m S)[k]? =some (.int .u64 (m.h.N i)):=by subst a;exact Mk.get_N m S i b
theorem Mk.set_depth (m:Mk)(S:Sl)(v:Nat):(Mk.cells m S).set 142 (.int .u64 (v:Int))=Mk.cells {m with depth:=v} S:=
 aBo _ _ _ _ _ rfl fun j hj=>by
  unfold Mk.at_
  by_cases a:j<142
  ·rw[if_pos a,if_pos a]
  ·rw[if_neg a,if_neg a,if_neg hj,if_neg hj]
theorem Mk.set_b (m:Mk)(S:Sl)(v:Value):(Mk.cells m S).set 143 v=Mk.cells m {S with b:=v}:=
 aBo _ _ _ _ _ rfl fun j hj=>by
  unfold Mk.at_
  by_cases a:j<142
  ·rw[if_pos a,if_pos a]
  ·rw[if_neg a,if_neg a,if_neg hj,if_neg hj]
theorem Mk.set_d (m:Mk)(S:Sl)(v:Value):(Mk.cells m S).set 144 v=Mk.cells m {S with d:=v}:=
 aBo _ _ _ _ _ rfl fun j hj=>by
  unfold Mk.at_
  by_cases a:j<142
  ·rw[if_pos a,if_pos a]
  ·rw[if_neg a,if_neg a,if_neg hj,if_neg hj]
theorem Mk.set_f (m:Mk)(S:Sl)(v:Value):(Mk.cells m S).set 145 v=Mk.cells m {S with f:=v}:=
 aBo _ _ _ _ _ rfl fun j hj=>by
  unfold Mk.at_
  by_cases a:j<142
  ·rw[if_pos a,if_pos a]
  ·rw[if_neg a,if_neg a,if_neg hj,if_neg hj]
theorem Mk.set_m (m:Mk)(S:Sl)(v:Value):(Mk.cells m S).set 146 v=Mk.cells m {S with m:=v}:=by
 refine(List.ext_getElem? fun j=>?_)
 rw[List.getElem?_set]
 by_cases e:j<147
 ·by_cases f:146=j
  ·subst f
   rw[if_pos rfl,if_pos (by rw[Mk.len];decide),Mk.get _ _ _ e]
   rfl
  ·rw[if_neg f,Mk.get _ _ _ e,Mk.get _ _ _ e]
   unfold Mk.at_
   by_cases c:j<142
   ·rw[if_pos c,if_pos c]
   ·rw[if_neg c,if_neg c]
    by_cases a:j=142
    ·rw[if_pos a,if_pos a]
    ·rw[if_neg a,if_neg a]
     by_cases d:j=143
     ·rw[if_pos d,if_pos d]
     ·rw[if_neg d,if_neg d]
      by_cases b:j=144
      ·rw[if_pos b,if_pos b]
      ·rw[if_neg b,if_neg b,if_pos (by omega),if_pos (by omega)]
 ·rw[if_neg (by omega),List.getElem?_eq_none (by rw[Mk.len];omega),List.getElem?_eq_none (by rw[Mk.len];omega)]
theorem Mk.cells_same {m m':Mk}(a:m.C=m'.C)(c:m.h=m'.h)(b:m.depth=m'.depth)(S:Sl):Mk.cells m S=Mk.cells m' S:=by
 unfold Mk.cells
 congr 1
 funext i
 unfold Mk.at_
 rw[a,c,b]
theorem aDY {w:World}{b:Array Oper}{rest:List Oper}{o:Oper}{a:Act}{Q:Exit→Act→World→Prop}(i:o.guard=none)(s x:Operand)
 (j:o.op= .call {callee:= .builtin .append,args:= #[s,x],argTypes:= #[26,26]})
 (base e:Nat)(n c:Nat)(l:List Int)(hs:a.eval s= .slice (some ⟨e,0,none⟩) n c)(z:Own w base (some ⟨e,0,none⟩) n c l)(J:0<n)(p:Option Addr)(m r:Nat)(f:List Int)(D:a.eval x= .slice p m r)(u:Bytes w p f)(E:f.length=m)(k:n+m≤70368744177664)
 (h: ∀b' d w',Own w' base (some ⟨b',0,none⟩) (n+m) d (l++f)→w.grownBy w' (some e)→(b'=e∨b'=w.heap.size)→wpList Tryz.prog b Q rest (a.put o.dst (.slice (some ⟨b',0,none⟩) (n+m) d)) w'):wpList Tryz.prog b Q (o::rest) a w:=
 wpList_plain i fun K hK=>by
  obtain⟨I,d,w',B,q,t,C⟩:=aCR w o.type base _ n c l z p m r f u E k
  unfold Oper.wp execOp
  simp only[j,resolve,invoke,builtin,Sem.run_bind,Sem.run_pure,Result.andThen_ok,List.map_toArray,List.map_cons,List.map_nil,hs,D,B]
  rcases q.2.2.2.2 with⟨L,G⟩|⟨g,v,y,F,A,H,_⟩
  ·exfalso;omega
  ·injection F with e1 e2 e3
   subst e1
   refine hK _ _ (h g d w' q t ?_)
   simpa [ownB]using C
end Mc
namespace Md
open Bytes8 Blk8 Own8 OwnM OwnE Od Ga Ma Kf Mb Mc
structure MkB (w:World)(B g bb cb:Nat)(S:Sl)(m:Mk):Prop where
 st:Blk w g (Mk.cells m {S with b:= .slice (some ⟨bb,0,none⟩) m.b.length cb}) 126
 own:Own w B (some ⟨bb,0,none⟩) m.b.length cb m.b
 ne:g≠bb
def Two (g bb:Nat)(k:Nat):Prop:=k=g∨k=bb
theorem MkB.put {w w':World}{B g a cb:Nat}{S:Sl}{m:Mk}(h:MkB w B g a cb S m){l:List Int}(c:l.length=m.b.length)(e:Own w' B (some ⟨a,0,none⟩) m.b.length cb l)(d:Put8 a w w'):MkB w' B g a cb S {m with b:=l}:=
 ⟨by show Blk w' g (Mk.cells m {S with b:= .slice (some ⟨a,0,none⟩) l.length cb}) _
     rw[c];exact aCu h.st d.kept h.ne,by show Own w' B _ l.length cb l;rw[c];exact e,h.ne⟩
def LongB (w:World)(B g bb:Nat)(S:Sl)(m:Mk)(w':World):Prop:= ∃bb' cb',MkB w' B g bb' cb' S m∧(bb'=bb∨w.heap.size≤bb')∧KeptF (Two g bb) w w'
attribute [local irreducible] Mk.cells wpList Code.wp
theorem aEJ (B g t cb:Nat)(S:Sl)(m:Mk)(L:Option Addr)(k V:Nat)(c:List Int)(w:World)(h:MkB w B g t cb S m)(hb:Bytes w L c)(A:c.length=k)(h0:0<m.b.length)(hn:m.b.length+k≤4000000)(h7:0≤m.h.N 7∧m.h.N 7≤1000000)(hg:B≤g):
 Calls Tryz.prog 68 #[.pointer (some ⟨g,0,none⟩),.slice L k V] w fun e w'=>e= .returned (.int .u64 (m.b.length:Nat))∧LongB w B g t S (m.object c) w':=by
 obtain⟨hs,X,s⟩:=h
 generalize Y:m.b.length=n at*
 have H:=yH Y
 have y:=yH hs
 have HO:=yH X
 have c3:=y.out.cell (Mk.get_b _ _)
 have f3:=y.out.frozen 143
 have ab:=y.out.lt
 clear hs X Y
 go_enter Tryz.func68,Tryz.ntmps68
 go_upto_region 4 with(refine aDY rfl (.tmp 16) (.tmp 17) rfl B t n cb m.b rfl HO.out h0 L k V c rfl hb A (by omega) ?_;intro d f w2 v q u;have D:=yH v;have r:=yH (aAl y.out q s);have E:=yH (KeptF.grow _ q);clear v q;have e3:=r.out.cell (Mk.get_b _ _);have d3:w2.frozen? ⟨g,143,none⟩=false:=r.out.frozen 143;have o:=yH (r.out.set_ 143 (.slice (some ⟨d,0,none⟩) (n+k) f));have e6:=o.out.cell (i:=125) ((List.getElem?_set_ne (by decide)).trans (Mk.get_Nk _ _ 6 125 (by decide) rfl));have d6:(w2.setCell ⟨g,143,none⟩ (.slice (some ⟨d,0,none⟩) (n+k) f)).frozen? ⟨g,125,none⟩=false:=o.out.frozen 125)
 have l:g≠d:=by
  rcases u with h|h
  ·rw[h];exact s
  ·omega
 obtain⟨I,a⟩: ∃x,x=(w2.setCell ⟨g,143,none⟩ (.slice (some ⟨d,0,none⟩) (n+k) f)).setCell ⟨g,125,none⟩ (.int .u64 (n:Int)):=⟨_,rfl⟩
 have z:=o.out.set_ 125 (.int .u64 (n:Int))
 rw[Mk.set_b,Mk.set_Nk _ _ 6 125 (by decide) rfl,←a]at z
 have M:=yH z
 have d7:=M.out.cell (Mk.get_Nk _ _ 7 126 (by decide) rfl)
 have g7:=M.out.frozen 126
 rw[show(setN m.h 6 (n:Int)).N 7=m.h.N 7 from rfl]at d7
 have J:=yH (show Own I B (some ⟨d,0,none⟩) (n+k) f (m.b++c)by
  have h1:Own (w2.setCell ⟨g,143,none⟩ (.slice (some ⟨d,0,none⟩) (n+k) f)) B (some ⟨d,0,none⟩) (n+k) f (m.b++c):=Kf.Own.keptF D.out (KeptF.set1 w2 g 143 _) (fun j hj e=>l (by injection hj with hj;exact(e.symm.trans hj.symm)))
  rw[a]
  exact Kf.Own.keptF h1 (KeptF.set1 _ g 125 _) (fun j hj e=>l (by injection hj with hj;exact(e.symm.trans hj.symm))))
 have C:=yH (show KeptF (Two g t) w I by
  rw[a]
  exact(KeptF.setCell (p:=⟨g,143,none⟩) (F:=Two g t) (E.out.mono (fun i e=>Or.inr (Option.some.inj e).symm)) (fun _=>Or.inl rfl) _).setCell (p:=⟨g,125,none⟩) (fun _=>Or.inl rfl) _)
 clear z
 rw[←a]
 clear a
 have aa:IntKind.u64.wrap (m.h.N 7+1)=m.h.N 7+1:=by rw[IntKind.wrap_u64];omega
 go_region
 go_wp2
 go_ret
 refine⟨rfl,d,f,⟨?_,?_,l⟩,?_,?_⟩
 ·have R:=M.out.set_ 126 (.int .u64 (m.h.N 7+1))
  rw[Mk.set_Nk _ _ 7 126 (by decide) rfl]at R
  have G:(m.object c).b.length=n+k:=by show(m.b++c).length=_;rw[yA,H.out,A]
  rw[G]
  have e:=Mk.cells_same (m:={m with h:=setN (setN m.h 6 (n:Int)) 7 (m.h.N 7+1)}) (m':=m.object c) rfl (by show _=setN (setN m.h 6 ((m.b.length:Nat):Int)) 7 (m.h.N 7+1);rw[H.out]) rfl {S with b:= .slice (some ⟨d,0,none⟩) (n+k) f}
  have Z:Blk (I.setCell ⟨g,126,none⟩ (.int .u64 (m.h.N 7+1))) g (Mk.cells {m with h:=setN (setN m.h 6 (n:Int)) 7 (m.h.N 7+1)} {S with b:= .slice (some ⟨d,0,none⟩) (n+k) f}) 126:=R
  rw[e]at Z
  exact Z
 ·have G:(m.object c).b.length=n+k:=by show(m.b++c).length=_;rw[yA,H.out,A]
  rw[G]
  exact Kf.Own.keptF J.out ((KeptF.set1 _ g 126 _).drew) (fun j hj e=>l (by injection hj with hj;exact(e.symm.trans hj.symm)))
 ·rcases u with h|h
  ·exact .inl h
  ·exact .inr (by omega)
 ·exact(C.out.setCell (p:=⟨g,126,none⟩) (fun _=>Or.inl rfl) _).drew
end Md
namespace Me
open Bytes8 Blk8 Own8 OwnE Od Ga Ma Kf Mb Mc
def Kns (w:World)(A:Option Addr)(ks:List Kn):Prop:= ∀i (h:i<ks.length),∃b,A=some ⟨b,0,none⟩∧b<w.heap.size∧
 w.cell? ⟨b,i*5,none⟩=some (.string (Fa.T ks[i].text))∧w.cell? ⟨b,i*5+1,none⟩=some (.int .u64 (ks[i].at_:Int))∧w.cell? ⟨b,i*5+2,none⟩=some (.int .i64 (ks[i].slot:Int))∧w.cell? ⟨b,i*5+3,none⟩=some (.int .i64 (ks[i].count:Int))
theorem aEK {l:List Kn}{slot:Nat}(h:inSlot l slot≠0): ∃k∈l,lastIn l slot=k.at_:=by
 unfold inSlot at h
 unfold lastIn
 rcases hf:(l.filter fun k=>k.slot==slot).getLast? with _|k
 ·rw[List.getLast?_eq_none_iff]at hf
  rw[hf]at h
  exact absurd rfl h
 ·have:=List.mem_of_getLast? hf
  exact⟨k,(List.mem_filter.1 this).1,by rw[hf];rfl⟩
theorem aCv (l:List Kn)(slot:Nat):inSlot l slot≤l.length:=List.length_filter_le _ _
attribute [local irreducible] Mk.cells wpList Code.wp
theorem aIe (g z cb n c a slot len ac:Nat)(I:List Value)(T:TypeId)(l:List Int)(A:Option Addr)(d:List Kn)(B:Nat)(w:World)(hs:Blk w g I T)(h3:I[143]? =some (.slice (some ⟨z,0,none⟩) n cb))(hb:Own w B (some ⟨z,0,none⟩) n cb l)(o:g≠z)(hn:n≤4000000)
 (hk:Kns w A d)(hl:d.length=len)(af:len≤1000000)(aj:slot≤1000)(ht:c+16*slot+16≤n)(ha: ∀k∈d,k.at_+32≤n):
 Calls Tryz.prog 110 #[.pointer (some ⟨g,0,none⟩),.slice A len ac,.int .u64 (c:Int),.int .u64 (a:Int),.int .i64 (slot:Int)] w fun e w'=>e= .returned (.int .u64 (inSlot d slot:Nat))∧Own w' B (some ⟨z,0,none⟩) n cb (hung l d c a slot)∧Put8 z w w':=by
 have Z:=yH hs
 have V:=yH h3
 have HB:=yH hb
 have HK:=yH hk
 have HA:=yH ha
 have HL:=yH hl
 clear hs h3 hb hk ha hl
 go_enter Tryz.func110,Tryz.ntmps110
 go_wp2
 go_loopw [11,12,13] (fun x y i wr=> ∃k:Nat,k≤len∧i= .int .i64 (k:Int)∧x= .int .u64 (inSlot (d.take k) slot:Nat)∧y= .int .u64 (lastIn (d.take k) slot:Nat)∧wr=w) (fun _ _ i _=>len-(intOf i).toNat)
 case atStart=>exact⟨0,Nat.zero_le _,rfl,rfl,rfl,rfl⟩
 case round=>
  obtain⟨k,ai,rfl,rfl,rfl,rfl⟩:=hrel
  by_cases ab:k<len
  ·have N:k<d.length:=by rw[HL.out];exact ab
   obtain⟨b,rfl,ah,c0,c1,c2,c4⟩:=HK.out k N
   have X:=yH (aDw d k N)
   have v:=yH (aHW (d.take k) d[k] slot)
   have m:=yH (aCm (d.take k) d[k] slot)
   have ad:inSlot (d.take k) slot≤k:=Nat.le_trans (aCv _ _) (by simp;omega)
   clear c0 c4
   generalize d[k]=q at*
   obtain⟨qs,F⟩: ∃x,x=q.slot:=⟨_,rfl⟩
   obtain⟨J,j⟩: ∃x,x=inSlot (d.take k) slot:=⟨_,rfl⟩
   obtain⟨L,f⟩: ∃x,x=lastIn (d.take k) slot:=⟨_,rfl⟩
   rw[←F]at c2
   rw[←j]at v ad⊢
   rw[←f]at m⊢
   have D:=yH F
   clear F j f
   by_cases M:qs=slot
   ·have d1:((qs:Int)==(slot:Int))=true:=by simp[M]
    rw[if_pos (D.out▸M)]at v m
    clear M
    go_wp2
    go_roundw
    case rel=>exact⟨k+1,by omega,by go_num,by rw[X.out,v.out];go_num,by rw[X.out,m.out],trivial⟩
    case measure=>simp[intOf];omega
   ·have d1:((qs:Int)==(slot:Int))=false:=by simp;omega
    rw[if_neg (fun e=>M (D.out▸e))]at v m
    clear M
    go_wp2
    go_roundw
    case rel=>exact⟨k+1,by omega,by go_num,by rw[X.out,v.out];rfl,by rw[X.out,m.out],trivial⟩
    case measure=>simp[intOf];omega
  ·obtain rfl:k=len:=by omega
   rw[←HL.out,List.take_length]
   obtain⟨J,j⟩: ∃x,x=inSlot d slot:=⟨_,rfl⟩
   obtain⟨L,f⟩: ∃x,x=lastIn d slot:=⟨_,rfl⟩
   rw[←j,←f]
   have R:L+32≤n∨J=0:=by
    rcases Nat.eq_zero_or_pos J with h|h
    ·exact .inr h
    ·left
     obtain⟨q,aa,ae⟩:=aEK (l:=d) (slot:=slot) (by omega)
     rw[f,ae]
     exact HA.out q aa
   have C:J≤d.length:=by rw[j];exact aCv _ _
   rw[HL.out]at C
   have v:=yH j
   have m:=yH f
   clear j f
   by_cases Y:J=0
   ·have HE:=yH (show hung l d c a slot=put8 (put8 l (c+16*slot) a) (c+16*slot+8) a by unfold hung;rw[←v.out,if_pos Y])
    subst Y
    clear R C
    go_wp2_with(first|(go_at_call 72;(with_reducible refine Calls.mono (aF1 g z cb n (c+16*slot) _ (by omega) I T l a B _ Z.out V.out HB.out o (by omega) hn) ?_);rintro e w1 ⟨rfl,r,s⟩;have E:=yH r;have t:=yH s;clear r s)|(go_at_call 72;(refine Calls.mono (aF1 g z cb n (c+16*slot+8) _ (by omega) I T _ a B _ (aCu Z.out t.out.kept o) V.out E.out o (by omega) hn) ?_);rintro e w2 ⟨rfl,u,p⟩;have H:=yH u;have G:=yH p;clear u p)|fail)
    go_ret
    exact⟨by rw[←v.out];rfl,by rw[HE.out];exact H.out,t.out.trans G.out⟩
   ·have d0:((J:Int)==0)=false:=by simp;omega
    have ag:L+32≤n:=by omega
    have HE:=yH (show hung l d c a slot=put8 (put8 l (L+24) a) (c+16*slot+8) a by unfold hung;rw[←v.out,if_neg Y,←m.out])
    clear R Y
    go_wp2_with(first|(go_at_call 72;(with_reducible refine Calls.mono (aF1 g z cb n (L+24) _ (by omega) I T l a B _ Z.out V.out HB.out o (by omega) hn) ?_);rintro e w1 ⟨rfl,r,s⟩;have E:=yH r;have t:=yH s;clear r s)|(go_at_call 72;(refine Calls.mono (aF1 g z cb n (c+16*slot+8) _ (by omega) I T _ a B _ (aCu Z.out t.out.kept o) V.out E.out o (by omega) hn) ?_);rintro e w2 ⟨rfl,u,p⟩;have H:=yH u;have G:=yH p;clear u p)|fail)
    go_ret
    exact⟨by rw[←v.out];rfl,by rw[HE.out];exact H.out,t.out.trans G.out⟩
end Me
namespace Fb
open Bytes8 Blk8
def Grew (w w':World):Prop:= ∃q os,w'=Sort.grow (w.drewN q) os
theorem Grew.refl (w:World):Grew w w:=⟨0,#[],by rw[Sort.grow_empty];rfl⟩
theorem Grew.alloc {w w':World}(h:Grew w w')(o:Obj):Grew w (w'.alloc o):=by
 obtain⟨q,a,rfl⟩:=h
 exact⟨q,a++ #[o],by rw[Sort.alloc_eq_grow,Sort.grow_grow]⟩
theorem Grew.drew {w w':World}(h:Grew w w'):Grew w w'.drew:=by
 obtain⟨q,a,rfl⟩:=h
 exact⟨q+1,a,rfl⟩
theorem Grew.drewN {w w':World}(h:Grew w w')(n:Nat):Grew w (w'.drewN n):=by
 obtain⟨q,a,rfl⟩:=h
 refine⟨q+n,a,?_⟩
 simp only[Sort.grow,World.drewN,Nat.add_assoc]
theorem Grew.trans {a b c:World}(h:Grew a b)(k:Grew b c):Grew a c:=by
 obtain⟨q,os,rfl⟩:=h
 obtain⟨e,d,rfl⟩:=k
 refine⟨q+e,os++d,?_⟩
 simp only[Sort.grow,World.drewN,Nat.add_assoc,Array.append_assoc]
theorem Grew.below {w w':World}(h:Grew w w'):Below w.heap.size w w':=by
 obtain⟨q,a,rfl⟩:=h
 refine⟨rfl,rfl,rfl,by simp[Sort.grow,World.drewN],fun k hk=>?_⟩
 exact Sort.heap_grow_old (w.drewN q) a hk
theorem Grew.boxed (w:World)(o:Obj):Grew w (w.alloc o):=(Grew.refl w).alloc o
end Fb
namespace Fc
open Bytes8 Blk8 Fa Fb
theorem aBL (l:List Int)(b:AllB l): ∃(cf:World→Nat) (mk:World→World),∀w,
 (convert 9 26 (.string (T l))).run Tryz.prog w= .ok (.slice (some ⟨w.heap.size,0,none⟩) l.length (cf w)) (mk w)∧(∀g,w.heap.size=g→Bytes (mk w) (some ⟨g,0,none⟩) l)∧Grew w (mk w):=by
 refine⟨fun w=>grownCap w (T l).size 0 5,fun w=>w.drew.alloc (.cells (bytesRow (T l) (grownCap w (T l).size 0 5)) 5 ((bytesRow (T l) (grownCap w (T l).size 0 5)).size,(bytesRow (T l) (grownCap w (T l).size 0 5)).size+1)),fun w=>⟨?_,?_,?_⟩⟩
 ·rw[run_bytes_of_string w 9 26 5 (T l) Tryz.underlying9 Tryz.underlying26 Tryz.underlying5,aA9]
 ·rintro g rfl
  refine⟨b,fun i hi=>⟨w.heap.size,0,rfl,by simp,?_⟩⟩
  rw[Nat.zero_add]
  show(w.drew.alloc (.cells _ _ _)).cell? ⟨w.drew.heap.size,i,none⟩=_
  rw[World.cell?_alloc_mark]
  have a:i<(T l).data.size:=by
   have:=aA9 l
   show i<(T l).size
   omega
  refine(bytesRow_at (T l) _ i a).trans ?_
  have c:(T l).data[i]=(T l).toList[i]'(by rw[ByteArray.toList_eq];simpa using a):=by simp only[ByteArray.toList_eq];rfl
  rw[c]
  simp only[aAz,List.getElem_map]
  have f:=b l[i] (List.getElem_mem hi)
  have d:l.getD i 0=l[i]:=by simp[yG hi]
  rw[d]
  have e:(((l[i]).toNat.toUInt8.toNat:Nat):Int)=l[i]:=by simp;omega
  rw[e]
 ·exact((Grew.refl w).drew).alloc _
end Fc
namespace Fb
open Bytes8 Fa
theorem aF2 (l:List Int)(A:AllB l)(B:l.length≤9223372036854775807)(w:World):Calls Tryz.prog 101 #[.string (T l)] w fun e w'=>e= .returned (.bool (nmB l))∧w=w':=by
 have I:=aA9 l
 have X:=yH (aFq l A)
 have H:=yH fun j=>A.at_ j
 have M:=yH (fun j (hj:j<l.length) (h:okC (l.getD j 0)=false∨j=0∧isDig (l.getD j 0)=true)=>(by
  rcases h with h|⟨rfl,h⟩
  ·exact aN6 hj h
  ·unfold nmB;rw[h];simp:nmB l=false))
 have V:=yH (fun(h: ∀j,j<l.length→okC (l.getD j 0)=true∧(j=0→isDig (l.getD j 0)=false))=>(by
  rcases Nat.eq_zero_or_pos l.length with u|u
  ·obtain rfl:=List.eq_nil_of_length_eq_zero u
   rfl
  ·unfold nmB
   rw[(h 0 u).2 rfl,aN5 fun j hj=>(h j hj).1]
   simp:nmB l=(decide (1≤l.length)&&decide (l.length≤64))))
 generalize z:l.length=len at*
 have N:=yH z
 clear z
 generalize T l=S at*
 go_enter Tryz.func101,Tryz.ntmps101
 go_wp2
 go_loop [3] (fun i=> ∃k:Nat,k≤len∧i= .int .i64 (k:Int)∧Hid (∀j,j<k→okC (l.getD j 0)=true∧(j=0→isDig (l.getD j 0)=false))) (fun i=>len-(intOf i).toNat)
 case atStart=>exact⟨0,by omega,rfl,yH fun j hj=>absurd hj (by omega)⟩
 case round=>
  obtain⟨k,Y,rfl,a⟩:=hrel
  rcases Nat.lt_or_ge k len with D|C
  ·have y:=X.out k (by omega)
   have J:(k:Int)<(len:Int):=by omega
   obtain⟨Z,c2⟩:=H.out k
   have m:=yH (M.out k (by omega))
   have n:=yH (fun(h:okC (l.getD k 0)=true∧(k=0→isDig (l.getD k 0)=false)) j (hj:j<k+1)=>(by
    rcases Nat.lt_or_ge j k with p|p
    ·exact a.out j p
    ·obtain rfl:j=k:=by omega
     exact h:okC (l.getD j 0)=true∧(j=0→isDig (l.getD j 0)=false)))
   clear a
   generalize l.getD k 0=c at*
   have x:((48≤c∧c≤57∧0<k)∨(57<c∧65≤c∧c≤90)∨c=95)∧(okC c=true∧(k=0→isDig c=false))∨(c<48∨(48≤c∧c≤57∧k=0)∨(57<c∧c<65)∨(90<c∧c≠95))∧(okC c=false∨k=0∧isDig c=true):=by
    simp only[okC,isDig,isLet,Bool.or_eq_true,Bool.and_eq_true,decide_eq_true_eq,Bool.or_eq_false_iff,Bool.and_eq_false_iff,decide_eq_false_iff_not]
    omega
   rcases x with⟨r,f⟩|⟨r,f⟩
   ·have v:=yH (n.out f)
    clear m n f
    rcases r with⟨q,o,t⟩|⟨q,o,t⟩|rfl
    all_goals
     go_wp2
     go_round
     case rel=>exact⟨k+1,by omega,by go_num,v⟩
     case measure=>simp[intOf];omega
   ·have g:=yH (m.out f)
    clear n m f
    rcases r with q|⟨q,o,t⟩|⟨q,o⟩|⟨q,o⟩
    ·go_wp2
     go_ret
     exact⟨aAC g.out.symm,rfl⟩
    ·have G: ¬(0:Int)<(k:Int):=by omega
     have E: ¬0<k:=by omega
     clear t
     go_wp2
     go_ret
     exact⟨aAC g.out.symm,rfl⟩
    ·go_wp2
     go_ret
     exact⟨aAC g.out.symm,rfl⟩
    ·have L:(c==95)=false:=by simpa using o
     clear o
     go_wp2
     go_ret
     exact⟨aAC g.out.symm,rfl⟩
  ·obtain rfl:k=len:=by omega
   have b:=yH (V.out (fun j hj=>a.out j (by have:=N.out;omega)))
   clear a
   have R:k=0∨(1≤k∧k≤64)∨64<k:=by omega
   rcases R with rfl|⟨p,F⟩|p
   ·have d:=yH (b.out.trans (show(decide (1≤0)&&decide (0≤64))=false from rfl))
    clear b
    go_wp2
    go_ret
    exact⟨aAC d.out.symm,rfl⟩
   ·have d:=yH (b.out.trans (show(decide (1≤k)&&decide (k≤64))=true by rw[decide_eq_true p,decide_eq_true F];rfl))
    clear b
    have s:decide ((k:Int)≤64)=true:=by simp;omega
    go_wp2
    go_ret
    exact⟨aAC d.out.symm,rfl⟩
   ·have d:=yH (b.out.trans (show(decide (1≤k)&&decide (k≤64))=false by rw[decide_eq_false (show ¬k≤64 by omega)];simp))
    clear b
    have s:decide ((k:Int)≤64)=false:=by simp;omega
    go_wp2
    go_ret
    exact⟨aAC d.out.symm,rfl⟩
abbrev box (n v:List Int):Obj:= .cells #[.string (T n),.string (T v)] 24
end Fb
namespace Fb
open Bytes8 Fa
theorem aDZ (c:Int)(w:World):Calls Tryz.prog 191 #[.int .u8 c] w fun e w'=>e= .returned (.bool (isDig c))∧w=w':=by
 by_cases a:48≤c<;>by_cases b:c≤57
 all_goals
  go_enter Tryz.func191,Tryz.ntmps191
  go_wp2
  go_ret
  exact⟨by simp[isDig,a,b],rfl⟩
theorem aF3 (c:Int)(w:World):Calls Tryz.prog 192 #[.int .u8 c] w fun e w'=>e= .returned (.bool (isLet c))∧w=w':=by
 by_cases a:65≤c<;>by_cases b:c≤90
 all_goals
  go_enter Tryz.func192,Tryz.ntmps192
  go_wp2
  go_ret
  exact⟨by simp[isLet,a,b],rfl⟩
theorem name_any (l:List Int)(A:AllB l)(w:World):Calls Tryz.prog 163 #[.string (T l)] w fun e w'=>e= .returned (.bool (nmB l))∧w=w':=by
 have H:=aA9 l
 have r:=yH (aFq l A)
 have v:(T l).toList.isEmpty=decide (l.length=0):=by
  rw[aAz];cases l<;>rfl
 by_cases o:l.length=0
 ·have q:nmB l=false:=by
   obtain rfl:=List.eq_nil_of_length_eq_zero o
   rfl
  rw[q]
  rw[decide_eq_true o]at v
  generalize T l=S at*
  clear r
  go_enter Tryz.func163,Tryz.ntmps163
  go_wp2
  go_ret
  exact⟨rfl,rfl⟩
 rw[decide_eq_false o]at v
 by_cases X:64<l.length
 ·have q:nmB l=false:=by
   cases h:nmB l with
   |false=>rfl
   |true=>have:=aKu h;omega
  rw[q]
  generalize T l=S at*
  clear r
  go_enter Tryz.func163,Tryz.ntmps163
  go_wp2
  go_ret
  exact⟨rfl,rfl⟩
 have V: ∀w,(Instr.index 9 (.string (T l)) (.int .i64 0)).run Tryz.prog w= .ok (.int .u8 (l.getD 0 0)) w:=r.out 0 (by omega)
 have s:=yH fun w=>aDZ (l.getD 0 0) w
 cases d:isDig (l.getD 0 0)with
 |true=>
  have q:nmB l=false:=by unfold nmB;rw[d];simp
  rw[q]
  rw[d]at s
  clear r d
  generalize l.getD 0 0=F at*
  generalize T l=S at*
  go_enter Tryz.func163,Tryz.ntmps163
  go_wp2_with(go_at_call 191;(with_reducible refine(s.out _).mono ?_);rintro e w' ⟨rfl,rfl⟩)
  go_ret
  exact⟨rfl,rfl⟩
 |false=>
  have J:=yH (fun h=>aOF (l:=l) (by omega) (by omega) d h)
  have M:=yH (fun j hj h=>aN6 (l:=l) (j:=j) hj h)
  rw[d]at s
  clear d
  have G:=yH fun j=>A.at_ j
  generalize z:l.length=len at*
  have N:=yH z
  clear z
  generalize E:l.getD 0 0=F at*
  clear E
  generalize T l=S at*
  go_enter Tryz.func163,Tryz.ntmps163
  go_wp2_with(go_at_call 191;(with_reducible refine(s.out _).mono ?_);rintro e w' ⟨rfl,rfl⟩)
  go_loop [18] (fun i=> ∃k:Nat,k≤len∧i= .int .i64 (k:Int)∧Hid (∀j,j<k→okC (l.getD j 0)=true)) (fun i=>len-(intOf i).toNat)
  case atStart=>exact⟨0,by omega,rfl,yH fun j hj=>absurd hj (by omega)⟩
  case round=>
   obtain⟨k,Y,rfl,g⟩:=hrel
   rcases Nat.lt_or_ge k len with C|B
   ·have x:=r.out k (by omega)
    have I:(k:Int)<(len:Int):=by omega
    have D:k≤64:=by omega
    have f:=yH fun w=>aDZ (l.getD k 0) w
    have n:=yH fun w=>aF3 (l.getD k 0) w
    obtain⟨Z,c2⟩:=G.out k
    have m:=yH (M.out k (by omega))
    have a:=yH (fun(h:okC (l.getD k 0)=true) j (hj:j<k+1)=>(by
     rcases Nat.lt_or_ge j k with y|y
     ·exact g.out j y
     ·obtain rfl:j=k:=by omega
      exact h:okC (l.getD j 0)=true))
    clear g
    generalize l.getD k 0=c at*
    have u:okC c=true∧(isDig c=true∨isDig c=false∧isLet c=true∨isDig c=false∧isLet c=false∧c=95)∨okC c=false∧isDig c=false∧isLet c=false∧c≠95:=by
     unfold okC
     cases isDig c<;>cases isLet c<;>by_cases R:c=95<;>simp[R]
    rcases u with⟨b,d|⟨d,p⟩|⟨d,p,rfl⟩⟩|⟨b,d,p,L⟩
    ·rw[d]at f
     clear d
     have a:=yH (a.out b)
     clear m b
     go_wp2_with(go_at_call 191;(with_reducible refine(f.out _).mono ?_);rintro e w' ⟨rfl,rfl⟩)
     go_round
     case rel=>exact⟨k+1,by omega,by go_num,a⟩
     case measure=>simp[intOf];omega
    ·rw[d]at f
     rw[p]at n
     clear d p
     have a:=yH (a.out b)
     clear m b
     go_wp2_with(first|(go_at_call 191;(with_reducible refine(f.out _).mono ?_);rintro e w' ⟨rfl,rfl⟩)|(go_at_call 192;(with_reducible refine(n.out _).mono ?_);rintro e w' ⟨rfl,rfl⟩))
     go_round
     case rel=>exact⟨k+1,by omega,by go_num,a⟩
     case measure=>simp[intOf];omega
    ·rw[d]at f
     rw[p]at n
     clear d p
     have a:=yH (a.out b)
     clear m b
     go_wp2_with(first|(go_at_call 191;(with_reducible refine(f.out _).mono ?_);rintro e w' ⟨rfl,rfl⟩)|(go_at_call 192;(with_reducible refine(n.out _).mono ?_);rintro e w' ⟨rfl,rfl⟩))
     go_round
     case rel=>exact⟨k+1,by omega,by go_num,a⟩
     case measure=>simp[intOf];omega
    ·rw[d]at f
     rw[p]at n
     clear d p
     have m:=yH (m.out b)
     clear a b
     go_wp2_with(first|(go_at_call 191;(with_reducible refine(f.out _).mono ?_);rintro e w' ⟨rfl,rfl⟩)|(go_at_call 192;(with_reducible refine(n.out _).mono ?_);rintro e w' ⟨rfl,rfl⟩))
     go_ret
     exact⟨aAC m.out.symm,rfl⟩
   ·obtain rfl:k=len:=by omega
    have t:=yH (J.out (fun j hj=>g.out j (by have:=N.out;omega)))
    clear g
    go_wp2
    go_ret
    exact⟨aAC t.out.symm,rfl⟩
end Fb
namespace Fc
open Bytes8 Blk8 Fa Fb
theorem aKg (a b:List Int)(h:a.length+b.length≤1000000)(w:World):(Op.stringOp .add (T a) (T b)).run Tryz.prog w= .ok (.string (T (a++b))) w:=by
 rw[run_string_add_sum w _ _ (by rw[aA9,aA9];omega),aQm]
theorem aBM (n v:List Int)(b:n.length+v.length≤900000)(w:World):
 Calls Tryz.prog 43 #[pv n v] w fun e w'=>e= .returned (.string (T (pay n v)))∧w.alloc (box n v)=w':=by
 have d:=aKg n [61] (by simp;omega)
 have c:=aKg (n++ [61]) v (by simp;omega)
 rw[←aPN]at d
 have a:pay n v=n++ [61]++v:=rfl
 rw[←a]at c
 dsimp only[pv,box]at*
 generalize T n=S at*
 generalize T v=V at*
 generalize T (n++ [61])=g at*
 generalize T (pay n v)=f at*
 clear a
 go_enter Tryz.func43,Tryz.ntmps43
 go_wp2
 go_ret
 exact⟨rfl,rfl⟩
def joinL (n v:List Int):List Int:=if flawI n v=0 then pay n v else []
theorem aBi {n v:List Int}(h:flawI n v=0):n.length≤64∧v.length≤256:=by
 unfold flawI at h
 by_cases a:nmB n=true
 ·rw[if_pos a]at h
  have:=(aKu a).2
  by_cases b:256<v.length
  ·rw[if_pos b]at h;cases h
  ·omega
 ·rw[if_neg a]at h;cases h
def Joined (n v:List Int)(w:World)(e:Ending)(w':World):Prop:= ∃A c,e= .returned (.tuple #[.slice A (joinL n v).length c,.int .i64 (flawI n v)])∧Bytes w' A (joinL n v)∧Grew w w'
theorem aKh (n v:List Int)(m:AllB n)(u:AllB v)(g:n.length≤9223372036854775807)(w:World):Calls Tryz.prog 108 #[pv n v] w (Joined n v w):=by
 have c:=yH fun w=>aF2 n m g w
 have y:=aA9 v
 by_cases h:flawI n v=0
 ·have d:joinL n v=pay n v:=if_pos h
  have i:=aBi h
  have a:nmB n=true:=by
   cases a:nmB n with
   |true=>rfl
   |false=>unfold flawI at h;rw[a]at h;cases h
  have x:=yH fun w=>aBM n v (by omega) w
  obtain⟨cf,A,b⟩:=aBL (pay n v) (aBr m u)
  have t:=fun w=>(b w).1
  have o:=yH fun w=>(b w).2
  clear b
  unfold Joined
  rw[d,h]
  rw[a]at c
  have k: ¬(256:Int)<(v.length:Int):=by omega
  dsimp only[pv,box]at*
  generalize T n=S at*
  generalize T v=V at*
  generalize T (pay n v)=P at*
  generalize pay n v=p at*
  generalize r:p.length=z at*
  generalize v.length=s at*
  clear h d i a
  go_enter Tryz.func108,Tryz.ntmps108
  go_wp2_with(first|(go_at_call 101;(with_reducible refine(c.out _).mono ?_);rintro e w' ⟨rfl,rfl⟩)|(go_at_call 43;(with_reducible refine(x.out _).mono ?_);rintro e w' ⟨rfl,rfl⟩))
  go_ret2
  refine⟨_,_,rfl,(o.out _).1 _ (by simp),?_⟩
  exact((Grew.refl w).alloc _).alloc _ |>.trans (o.out _).2
 ·have d:joinL n v=[]:=if_neg h
  have l:=Grew.boxed w (box n v)
  unfold Joined
  rw[d]
  cases a:nmB n with
  |false=>
   have j:flawI n v=1:=by unfold flawI;rw[a];rfl
   rw[j]
   rw[a]at c
   dsimp only[pv,box]at*
   generalize T n=S at*
   generalize T v=V at*
   clear d h j a
   go_enter Tryz.func108,Tryz.ntmps108
   go_wp2_with(go_at_call 101;(with_reducible refine(c.out _).mono ?_);rintro e w' ⟨rfl,rfl⟩)
   go_ret2
   exact⟨none,0,rfl,Bytes.nil _ _,l⟩
  |true=>
   have f:256<v.length:=by
    rcases Nat.lt_or_ge 256 v.length with q|q
    ·exact q
    ·exact absurd (by unfold flawI;rw[if_pos a,if_neg (by omega)]) h
   have j:flawI n v=21:=by unfold flawI;rw[if_pos a,if_pos f]
   rw[j]
   rw[a]at c
   dsimp only[pv,box]at*
   generalize T n=S at*
   generalize T v=V at*
   generalize v.length=s at*
   clear d h j a
   go_enter Tryz.func108,Tryz.ntmps108
   go_wp2_with(go_at_call 101;(with_reducible refine(c.out _).mono ?_);rintro e w' ⟨rfl,rfl⟩)
   go_ret2
   exact⟨none,0,rfl,Bytes.nil _ _,l⟩
end Fc
namespace Fc
end Fc
namespace Fo
open Bytes8 Fa Fb Fc
def lessP (n v m u:List Int):Bool:=ltL (pay n v) (pay m u)
theorem aCw (n v:List Int)(h:n.length+v.length≤900000)(w:World):
 Calls Tryz.prog 43 #[pv n v] w fun e w'=>e= .returned (.string (T (pay n v)))∧Grew w w':=
 (aBM n v h w).mono (by rintro e w' ⟨rfl,rfl⟩;exact⟨rfl,Grew.boxed _ _⟩)
end Fo
namespace Seq8
open Bytes8 Blk8 Fa Fb Numb Rows2
def SeqIn (w:World)(gq:Nat)(a:Option Addr)(len cap:Nat)(f:Nat→Int)(k:Nat):Prop:=
 Blk w gq [.slice a len cap,.int .i64 (k:Int)] 42∧InInts .i64 w a len f∧(0<len→ ∀b off,a=some ⟨b,off,none⟩→b≠gq)∧k≤len∧len≤9223372036854775807
theorem SeqIn.below {w w':World}{c:Nat}{a:Option Addr}{len b:Nat}{f:Nat→Int}{k:Nat}(h:SeqIn w c a len b f k)(d:Below w.heap.size w w'):SeqIn w' c a len b f k:=
 ⟨h.1.below d h.1.lt,h.2.1.below d,h.2.2⟩
theorem aBX {j:IntKind}{w w':World}{k:Nat}{a:Option Addr}{len:Nat}{f:Nat→Int}(h:InInts j w a len f)(g:KeptB w.heap.size k w w')(d:0<len→ ∀b c,a=some ⟨b,c,none⟩→b≠k):InInts j w' a len f:=fun i hi=>by
 obtain⟨b,c,e,l,m,n⟩:=h i hi
 exact⟨b,c,e,yL l g.size,(World.cell?_of_block (g.block b l (d (by omega) b c e))).trans m,n⟩
set_option maxRecDepth 100000 in
theorem aFg (g:Nat)(a:Option Addr)(len l:Nat)(f:Nat→Int)(k:Nat)(b:Int)(w:World)(E:1≤b)(M:b≤1000000)(h:SeqIn w g a len l f k):
 Calls Tryz.prog 42 #[.pointer (some ⟨g,0,none⟩),.int .i64 b] w fun e w'=> ∃(r k':Nat),e= .returned (.int .i64 (r:Int))∧(r:Int)<b∧SeqIn w' g a len l f k'∧KeptB w.heap.size g w w':=by
 obtain⟨C,n,c,L,F⟩:=h
 have j:=yH C
 have Y:=j.out.cell (i:=0) rfl
 have V:=j.out.cell (i:=1) rfl
 have R:=j.out.frozen 1
 by_cases t:k<len
 ·obtain⟨D,o,rfl,J,N,u⟩:=n k t
  have z:=c (by omega) D o rfl
  obtain⟨r,G,B⟩:=aDO (f k) b E
  have q:=yH fun w=>aBV (f k) b r w E (by omega) G.out
  have y: ¬(len:Int)≤(k:Int):=by omega
  have I: ∀v,(w.setCell ⟨g,1,none⟩ v).cell? ⟨D,o+k,none⟩=some (.int .i64 (f k)):=fun v=>by
   rw[←N];exact World.cell?_of_block (Below.heap_setCell _ _ _ _ z)
  have A:=yH n
  have d:=yH c
  have X:Tryz.prog.follows .mixedOrders=true:=by kernel_rfl
  clear n c C G u
  generalize f k=x at*
  go_enter Tryz.func42,Tryz.ntmps42
  go_wp2_with fail
  go_quiet (fail)
  obtain⟨m,s⟩: ∃x,x=nq:=⟨_,rfl⟩
  rw[←s]
  clear s nq
  go_wp2_with fail
  go_quiet ((go_at_call 36;exact aBZ (q.out _)))
  have H:=yH ((((KeptB.refl w.heap.size g w).drewN m).setCell (Or.inr rfl) (.int .i64 ((k:Int)+1)) (p:=⟨g,1,none⟩)).drewN nq)
  go_wp2
  go_ret
  refine⟨r,k+1,rfl,B,⟨?_,aBX A.out H.out d.out,d.out,by omega,F⟩,H.out⟩
  exact((j.out.drewN _).set_ 1 _).drewN _
 ·have y:(len:Int)≤(k:Int):=by omega
  have A:=yH n
  have d:=yH c
  clear n c C
  go_enter Tryz.func42,Tryz.ntmps42
  go_wp2_with fail
  go_quiet (fail)
  go_wp2
  go_ret
  refine⟨0,k,rfl,by omega,⟨j.out.drewN _,A.out,d.out,L,F⟩,(KeptB.refl _ _ _).drewN _⟩
abbrev nameLs:List (List Int):=[[65],[66],[77,69,83,83,65,71,69],[95,80,73,68],[88,95,49],[80,82,73,79,82,73,84,89]]
abbrev valueLs:List (List Int):=[[],[48],[49],[50,50],[97,61,98],[111,110,101,10,116,119,111],[0,255],[116,97,98,9,104,101,114,101],[108,111,110,103,32,108,111,110,103,32,108,111,110,103,32,108,111,110,103,32,108,111,110,103,32,108,111,110,103,32,108,111,110,103],[126,127,128]]
def texts (ls:List (List Int)):List Value:=ls.map fun l=> .string (T l)
theorem aMG: ∀n∈nameLs,AllB n∧nmB n=true:=by
 intro n a
 have h:nameLs.all (fun n=>n.all (fun x=>decide (0≤x)&&decide (x<256))&&nmB n)=true:=by decide+kernel
 have:=List.all_eq_true.1 h n a
 simp only[Bool.and_eq_true]at this
 exact⟨Ff.aGc this.1,this.2⟩
theorem aKi: ∀v∈valueLs,AllB v∧v.length≤256:=by
 intro n a
 have h:valueLs.all (fun n=>n.all (fun x=>decide (0≤x)&&decide (x<256))&&decide (n.length≤256))=true:=by decide+kernel
 have:=List.all_eq_true.1 h n a
 simp only[Bool.and_eq_true,decide_eq_true_eq]at this
 exact⟨Ff.aGc this.1,this.2⟩
theorem aOv {n v:List Int}(a:nmB n=true)(b:v.length≤256):flawI n v=0:=by
 unfold flawI;rw[if_pos a,if_neg (by omega)]
theorem aKj (w:World):Calls Tryz.prog 45 #[] w fun e w'=>e= .returned (.slice (some ⟨w.heap.size,0,none⟩) 6 6)∧Blk w' w.heap.size (texts nameLs) 9∧Below w.heap.size w w'∧w'.heap.size=w.heap.size+1:=by
 have h:texts nameLs=[.string {data:= #[65]},.string {data:= #[66]},.string {data:= #[77,69,83,83,65,71,69]},.string {data:= #[95,80,73,68]},.string {data:= #[88,95,49]},.string {data:= #[80,82,73,79,82,73,84,89]}]:=rfl
 rw[h]
 go_enter Tryz.func45,Tryz.ntmps45
 go_wp2
 go_ret
 exact⟨rfl,Blk.new w _ _,(yB _ _).alloc (yR _) _,by simp⟩
set_option maxRecDepth 10000 in
theorem aJb (w:World):Calls Tryz.prog 46 #[] w fun e w'=>e= .returned (.slice (some ⟨w.heap.size,0,none⟩) 10 10)∧Blk w' w.heap.size (texts valueLs) 9∧Below w.heap.size w w'∧w'.heap.size=w.heap.size+1:=by
 have h:texts valueLs=[.string {data:= #[]},.string {data:= #[48]},.string {data:= #[49]},.string {data:= #[50,50]},.string {data:= #[97,61,98]},.string {data:= #[111,110,101,10,116,119,111]},.string {data:= #[0,255]},.string {data:= #[116,97,98,9,104,101,114,101]},.string {data:= #[108,111,110,103,32,108,111,110,103,32,108,111,110,103,32,108,111,110,103,32,108,111,110,103,32,108,111,110,103,32,108,111,110,103]},.string {data:= #[126,127,128]}]:=rfl
 rw[h]
 go_enter Tryz.func46,Tryz.ntmps46
 go_wp2
 go_ret
 exact⟨rfl,Blk.new w _ _,(yB _ _).alloc (yR _) _,by simp⟩
end Seq8
end Go.Proofs.YteaikbodkgjkdaaGreat
