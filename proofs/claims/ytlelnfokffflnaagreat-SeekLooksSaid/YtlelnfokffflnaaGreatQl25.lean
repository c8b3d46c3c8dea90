/-
  Texts beneath the proof.
-/
import Derived.Test.YtlelnfokffflnaaGreatQl22
set_option linter.unusedVariables false
set_option linter.unusedSimpArgs false
set_option maxRecDepth 100000
set_option maxHeartbeats 8000000
open Go.ChangeShapes Go.WideShapes Go.ChangeAt Go.RowKit
namespace Go.Proofs.YtlelnfokffflnaaGreat
namespace Np
open Bytes8 Blk8 Own8 OwnM OwnA OwnE Rows2 Ob Od Ga Ma Kf Mb Mc Md Mf Mg Fa Fb Dc Yc Yk Gb Na Nc Nd Nh Nk Nm No
def Cf.cells (C:Cf):List Value:=(List.range 52).map (Cf.at_ C)
theorem Cf.len (C:Cf):(Cf.cells C).length=52:=by simp[Cf.cells]
theorem Cf.get (C:Cf)(i:Nat)(b:i<52):(Cf.cells C)[i]? =some (Cf.at_ C i):=by simp[Cf.cells,b]
theorem Cf.get_ds (C:Cf):(Cf.cells C)[48]? =some (.int .i64 (C.ds:Int)):=by rw[Cf.get C _ (by decide)];rfl
theorem Cf.get_fs (C:Cf):(Cf.cells C)[49]? =some (.int .i64 (C.fs:Int)):=by rw[Cf.get C _ (by decide)];rfl
theorem Cf.get_keyed (C:Cf):(Cf.cells C)[51]? =some (.bool C.keyed):=by rw[Cf.get C _ (by decide)];rfl
abbrev idJ (K:Nat→Int):List Value:=[.int .u8 (K 0),.int .u8 (K 1),.int .u8 (K 2),.int .u8 (K 3),.int .u8 (K 4),.int .u8 (K 5),.int .u8 (K 6),.int .u8 (K 7),.int .u8 (K 8),.int .u8 (K 9),.int .u8 (K 10),.int .u8 (K 11),.int .u8 (K 12),.int .u8 (K 13),.int .u8 (K 14),.int .u8 (K 15)]
theorem aBl (K:Nat→Int):(Tryz.prog.info? 37).map (·.size)=some (idJ K).length:=by kernel_rfl
theorem aC7 (K:Nat→Int)(j:Nat)(b:j<16):(idJ K)[j]? =some (.int .u8 (K j)):=by
 rcases j with _|_|_|_|_|_|_|_|_|_|_|_|_|_|_|_|j
 all_goals first|rfl|omega
theorem Cf.range {w:World}{g:Nat}{T:TypeId}{C:Cf}(d:Blk w g (Cf.cells C) T)(K:Nat→Int)(o:Nat)(f:o+16≤48)(c: ∀j,j<16→Cf.at_ C (o+j)= .int .u8 (K j)):w.rangeAt g o (idJ K):=fun j v hj=>by
 have b:j<16:=(List.getElem?_eq_some_iff.1 hj).1
 rw[aC7 K j b]at hj
 injection hj with hj
 subst hj
 rw[←c j b]
 exact d.cell (Cf.get C _ (by omega))
theorem Cf.at_F (C:Cf)(j:Nat)(b:j<16):Cf.at_ C (0+j)= .int .u8 (C.F j):=by unfold Cf.at_;rw[if_pos (by omega),if_pos (by omega),Nat.zero_add]
theorem Cf.at_M (C:Cf)(j:Nat)(b:j<16):Cf.at_ C (16+j)= .int .u8 (C.M j):=by unfold Cf.at_;rw[if_pos (by omega),if_neg (by omega),if_pos (by omega),Nat.add_sub_cancel_left]
theorem Cf.at_S (C:Cf)(j:Nat)(b:j<16):Cf.at_ C (32+j)= .int .u8 (C.S j):=by unfold Cf.at_;rw[if_pos (by omega),if_neg (by omega),if_neg (by omega),Nat.add_sub_cancel_left]
theorem aOd:(Tryz.prog.info? 79).map (·.size)=some 52:=by kernel_rfl
theorem Cf.info (C:Cf):(Tryz.prog.info? 79).map (·.size)=some (Cf.cells C).length:=by rw[aOd,Cf.len]
def hdI3 (C:Cf):Nat→Int:=fun i=>if i<16 then C.F i else if i<32 then C.M (i-16)else if i<48 then 0 else C.S (i-48)
def hdZ:HD:=⟨0,0,0,fun _=>0,fun _=>0,0,0,0⟩
def hdB (C:Cf):HD:=⟨2,0,1,hdI3 C,fun _=>0,0,0,0⟩
def tabB (k:Int)(n:Nat):List Int:=objB k (nums (prs (fun _=>0) (fun _=>0) n))
theorem aAu (k:Int)(n:Nat):(tabB k n).length=16+16*n:=by
 unfold tabB
 rw[aBj,aDv]
 unfold padN
 omega
def z272:List Int:=List.replicate 272 0
def Mk.n0 (C:Cf):Mk:=⟨C,hdZ,0,z272,[],[],[]⟩
def Mk.n1 (C:Cf):Mk:=⟨C,hdZ,0,z272++tabB 4 C.ds,[],[],[]⟩
def Mk.n2 (C:Cf):Mk:=⟨C,hdZ,0,z272++tabB 4 C.ds++tabB 5 C.fs,[],[],[]⟩
def hdK (C:Cf):HD:={hdB C with ic:=if C.keyed then 4 else 0}
def hdN (C:Cf)(after:Int):HD:=setN (setN (setN (setN (setN (setN (setN (setN (hdK C) 0 272) 2 288) 3 (16*(C.ds:Int))) 4 (304+16*(C.ds:Int))) 5 (16*(C.fs:Int))) 6 (288+16*(C.ds:Int))) 7 2) 9 after
def Mk.new (C:Cf)(after:Int):Mk:={Mk.n2 C with h:=hdN C after}
def S0:Sl:=⟨.bool false,.slice none 0 0,.slice none 0 0,.slice none 0 0⟩
def p0 (bb cb:Nat):Pl:=⟨bb,cb,none,0,0,none,0,0,.slice none 0 0,[],[]⟩
theorem aNe (C:Cf)(c:Nat):Tryz.prog.built 157 [(0,.agg (Cf.cells C).toArray),(3,.slice (some ⟨c,0,none⟩) 272 272)]=some (Mk.cells (Mk.n0 C) {S0 with b:= .slice (some ⟨c,0,none⟩) 272 272}).toArray:=by kernel_rfl
def setsL:List Value→Nat→List Value→List Value
 |l,_,[]=>l
 |l,o,v::r=>setsL (l.set o v) (o+1) r
theorem aGs: ∀(b:List Value) (l:List Value) (o j:Nat),(setsL l o b)[j]? =if o≤j∧j<o+b.length∧j<l.length then b[j-o]? else l[j]?
 | [],l,o,j=>by
   unfold setsL
   rw[if_neg (by simp;omega)]
 |v::r,l,o,j=>by
  unfold setsL
  rw[aGs r (l.set o v) (o+1) j,List.length_set]
  by_cases h1:o+1≤j∧j<o+1+r.length∧j<l.length
  ·rw[if_pos h1,if_pos (by simp;omega),show j-o=(j-(o+1))+1 by omega,List.getElem?_cons_succ]
  ·rw[if_neg h1,List.getElem?_set]
   by_cases h2:o=j
   ·subst h2
    rw[if_pos rfl]
    by_cases h3:o<l.length
    ·rw[if_pos h3,if_pos (by simp;omega)]
     simp
    ·rw[if_neg h3,if_neg (by omega),List.getElem?_eq_none (by omega)]
   ·rw[if_neg h2,if_neg (by simp;omega)]
theorem aIz {g:Nat}{T:TypeId}: ∀(vs:List Value) (o:Nat) (l:List Value) (w:World),Blk w g l T→Blk (w.setCells g o vs) g (setsL l o vs) T
 | [],o,l,w,h=>h
 |v::r,o,l,w,h=>aIz r (o+1) (l.set o v) _ (h.set_ o v)
theorem aB3 {F:Nat→Prop}{g:Nat}(b:F g){a:World}: ∀(vs:List Value) (o:Nat) (w:World),KeptF F a w→KeptF F a (w.setCells g o vs)
 | [],o,w,h=>h
 |v::r,o,w,h=>aB3 b r (o+1) _ (h.setCell (p:=⟨g,o,none⟩) (fun _=>b) v)
theorem aKO (m:Mk)(S:Sl)(h:HD):setsL (Mk.cells m S) 52 (h.cells 20)=Mk.cells {m with h:=h} S:=by
 apply List.ext_getElem?
 intro j
 rw[aGs,HD.len,Mk.len]
 by_cases b:52≤j∧j<52+(70+20)∧j<147
 ·rw[if_pos b,h.get 20 _ (by omega),Mk.get _ _ _ b.2.2]
  unfold Mk.at_
  rw[if_pos (by omega),if_neg (by omega)]
 ·rw[if_neg b]
  by_cases c:j<147
  ·rw[Mk.get _ _ _ c,Mk.get _ _ _ c]
   exact congrArg some (Nk.aC2 _ _ _ _ rfl rfl fun h3 h4=>by omega)
  ·rw[List.getElem?_eq_none (by rw[Mk.len];omega),List.getElem?_eq_none (by rw[Mk.len];omega)]
theorem set_ic (m:Mk)(S:Sl)(v:Int):(Mk.cells m S).set 53 (.int .u32 v)=Mk.cells {m with h:={m.h with ic:=v}} S:=
 aBo _ _ _ _ _ rfl fun j hj=>Nk.aC2 _ _ _ _ rfl rfl fun h1 h2=>by
  unfold HD.at_
  repeat' split
  all_goals first|rfl|(exfalso;omega)
theorem aPZ (m:Mk)(S:Sl):(Mk.cells m S)[53]? =some (.int .u32 m.h.ic):=by rw[Mk.get m S _ (by decide)];rfl
theorem aNf {w:World}{g:Nat}{T:TypeId}{m:Mk}{S:Sl}(h:Blk w g (Mk.cells m S) T)(o n:Nat)(b:o+n≤147):w.there g o n:=fun j hj=>⟨by rw[h.cell (Mk.get _ _ (o+j) (by omega))];rfl,h.frozen _⟩
theorem MkB.app {w w2:World}{B g p cb d f n k:Nat}{S:Sl}{m:Mk}{c:List Int}(h:MkB w B g p cb S m)(s:m.b.length=n)(t:c.length=k)(u:Own w2 B (some ⟨d,0,none⟩) (n+k) f (m.b++c))(l:w.grownBy w2 (some p))(o:d=p∨d=w.heap.size):
 MkB (w2.setCell ⟨g,143,none⟩ (.slice (some ⟨d,0,none⟩) (n+k) f)) B g d f S {m with b:=m.b++c}:=by
 subst s t
 have i:g≠d:=by
  rcases o with r|r
  ·rw[r];exact h.ne
  ·have:=h.st.lt;omega
 have q:=(aAl h.st l h.ne).set_ 143 (.slice (some ⟨d,0,none⟩) (m.b.length+c.length) f)
 rw[Mk.set_b]at q
 refine⟨?_,?_,i⟩
 ·have e:Mk.cells m {S with b:= .slice (some ⟨d,0,none⟩) (m.b.length+c.length) f}=Mk.cells {m with b:=m.b++c} {S with b:= .slice (some ⟨d,0,none⟩) (m.b++c).length f}:=by
   rw[List.length_append]
   exact Mk.cells_same rfl rfl rfl _
  rw[←e]
  exact q
 ·show Own _ B _ (m.b++c).length f (m.b++c)
  rw[List.length_append]
  exact Kf.Own.keptF u (KeptF.set1 w2 g 143 _) (fun j hj e=>i (by injection hj with hj;exact(e.symm.trans hj.symm)))
theorem at_new {w:World}{B g c cb:Nat}{m:Mk}(h:MkB w B g c cb S0 m)(b:B≤g)(f:m.datas=[])(j:m.fields=[])(i:m.main=[]):At w B g (p0 c cb) m:=
 have d:B≤w.heap.size:=Nat.le_trans b (Nat.le_of_lt h.st.lt)
 {st:=h,dr:=OwnE.nil _ _ d,fr:=OwnE.nil _ _ d,dm:=f.symm,fm:=j.symm
  da:=fun q hq=>by cases hq
  ma:=by rw[i];exact Arr.nil _ _
  dg:=fun k h=>by cases h
  fg:=fun k h=>by cases h
  df:=fun k h=>by cases h
  gB:=b
  fo:=fun q hq=>by cases hq}
theorem aKP:(Tryz.prog.info? 203).map (fun i=>(i.zero,i.size,i.bytes))=some (some (.agg #[.int .u64 0,.int .u64 0]),2,16):=by kernel_rfl
theorem aIA (n j:Nat)(b:j<n*2):(madeCells #[Value.int .u64 0,.int .u64 0] (n*2))[j]? =some (Value.int .u64 0):=by
 unfold madeCells
 rw[Array.getElem?_map,Array.getElem?_range,if_pos b]
 have:j%2=0∨j%2=1:=by omega
 rcases this with h|h
 ·simp[h]
 ·simp[h]
theorem aB4 (n:Nat)(g:n≤1000)(w:World):(Instr.makeSlice 105 (.int .i64 (n:Int)) (.int .i64 (n:Int))).run Tryz.prog w= .ok (.slice (some ⟨w.heap.size,0,none⟩) n n) (w.alloc (.cells (madeCells #[.int .u64 0,.int .u64 0] (n*2)) 203)):=by
 obtain⟨i,d,b⟩:=Option.map_eq_some_iff.1 aKP
 simp only[Prod.mk.injEq]at b
 obtain⟨c,hs,f⟩:=b
 have h:=run_make (P:=Tryz.prog) w 105 203 i _ Tryz.underlying105 d c .i64 .i64 (n:Int) (n:Int) (by omega) (Int.le_refl _) (by rw[f];omega) (by omega)
 rw[hs,Int.toNat_natCast]at h
 exact h
theorem aKQ (n:Nat)(w:World):In2 (w.alloc (.cells (madeCells #[.int .u64 0,.int .u64 0] (n*2)) 203)) (some ⟨w.heap.size,0,none⟩) n (fun _=>0) (fun _=>0):=fun i hi=>by
 have h:Blk (w.alloc (.cells (madeCells #[.int .u64 0,.int .u64 0] (n*2)) 203)) w.heap.size (madeCells #[.int .u64 0,.int .u64 0] (n*2)).toList 203:=by
  unfold Blk
  rw[Array.toArray_toList]
  exact heap_alloc_new w _
 exact⟨w.heap.size,0,rfl,by simp,by rw[Nat.zero_add];exact h.cell (by rw[Array.getElem?_toList];exact aIA n (i*2) (by omega)),by rw[Nat.zero_add];exact h.cell (by rw[Array.getElem?_toList];exact aIA n (i*2+1) (by omega)),⟨Int.le_refl _,by show(0:Int)≤18446744073709551615;decide⟩,⟨Int.le_refl _,by show(0:Int)≤18446744073709551615;decide⟩⟩
theorem aKR (w:World):(Instr.makeSlice 24 (.int .i64 272) (.int .i64 272)).run Tryz.prog w= .ok (.slice (some ⟨w.heap.size,0,none⟩) 272 272) (w.alloc (.cells (Array.replicate 272 (Value.int .u8 0)) 5)):=by
 obtain⟨i,d,b⟩:=Option.map_eq_some_iff.1 aJ3
 simp only[Prod.mk.injEq]at b
 obtain⟨c,hs,f⟩:=b
 have h:=run_make_row (P:=Tryz.prog) 24 5 i (.int .u8 0) Tryz.underlying24 d c hs rfl .i64 .i64 272 (by rw[f];omega) (by omega) w
 have e:madeCells #[Value.int .u8 0] 272=Array.replicate 272 (Value.int .u8 0):=by
  apply Array.ext'
  rw[toList_madeCells_one]
  simp
 rw[e]at h
 exact h
theorem aAG {w:World}{b:Array Oper}{o:Oper}{a:Act}{K:Act→World→Prop}{Q:Exit→Act→World→Prop}{E:Prop}(k:o.guard=none)(s x:Operand)
 (q:o.op= .call {callee:= .builtin .append,args:= #[s,x],argTypes:= #[24,24]})
 (base f n c:Nat)(l:List Int)(hs:a.eval s= .slice (some ⟨f,0,none⟩) n c)(u:Own w base (some ⟨f,0,none⟩) n c l)(L:0<n)(j:Option Addr)(m t:Nat)(d:List Int)(F:a.eval x= .slice j m t)(J:Bytes w j d)(z:d.length=m)(p:n+m≤70368744177664)
 (h: ∀b' i w',Own w' base (some ⟨b',0,none⟩) (n+m) i (l++d)→w.grownBy w' (some f)→(b'=f∨b'=w.heap.size)→K (a.put o.dst (.slice (some ⟨b',0,none⟩) (n+m) i)) w'):
 if Region.wanted o (yielded b a.tmps)=true then Oper.wp Tryz.prog o a w K Q else E:=by
 have y:Region.wanted o (yielded b a.tmps)=true:=by simp[Region.wanted,k]
 rw[if_pos y]
 obtain⟨M,i,w',C,r,G,A⟩:=aCR w o.type base _ n c l u j m t d J z p
 unfold Oper.wp execOp
 simp only[q,resolve,invoke,builtin,Sem.run_bind,Sem.run_pure,Result.andThen_ok,List.map_toArray,List.map_cons,List.map_nil,hs,F,C]
 rcases r.2.2.2.2 with⟨N,V⟩|⟨g,D,I,B,H,R,_⟩
 ·exfalso;omega
 ·injection B with e1 e2 e3
  subst e1
  refine h g i w' r G ?_
  simpa [ownB]using A
def bldM (parts:Array (Nat×Value)):Sem Value:=Instr.build 157 parts
theorem aKS (b:Array (Nat×Value)):Instr.build 157 b=bldM b:=rfl
theorem aNg (C:Cf)(c:Nat)(w:World):(bldM #[(0,.agg (Cf.cells C).toArray),(3,.slice (some ⟨c,0,none⟩) 272 272)]).run Tryz.prog w= .ok (.agg (Mk.cells (Mk.n0 C) {S0 with b:= .slice (some ⟨c,0,none⟩) 272 272}).toArray) w:=by
 unfold bldM
 exact run_build w _ _ _ (aNe C c)
theorem aOR (w0:World)(B:Nat)(C:Cf)(c:B≤w0.heap.size):
 MkB ((w0.alloc (.cells (Array.replicate 272 (Value.int .u8 0)) 5)).alloc (.cells (Mk.cells (Mk.n0 C) {S0 with b:= .slice (some ⟨w0.heap.size,0,none⟩) 272 272}).toArray 157)).drew B (w0.heap.size+1) w0.heap.size 272 S0 (Mk.n0 C):=by
 refine⟨?_,?_,Nat.succ_ne_self _⟩
 ·exact(Blk.new_at _ (Mk.cells (Mk.n0 C) {S0 with b:= .slice (some ⟨w0.heap.size,0,none⟩) 272 272}) _ (w0.heap.size+1) (by simp)).drew
 ·refine Kf.Own.keptF (F:=None') (w:=w0.alloc (.cells (Array.replicate 272 (Value.int .u8 0)) 5)) ?_ ((KeptF.refl _ _).alloc _).drew (fun _ _ h=>h.elim)
  refine⟨AllB.zeros 272,rfl,Nat.le_trans c (by simp),?_⟩
  have h:=World.ownsRow_lit w0 (base:=B) (e:=5) (size:=1) (Array.replicate 272 (Value.int .u8 0)) 272 c (by decide) (by simp)
  have e:(Array.replicate 272 (Value.int .u8 0)).toList=z272.map (Value.int .u8):=by unfold z272;simp
  rw[e]at h
  exact h
theorem aJw {F:Nat→Prop}{w w':World}{g:Nat}{b:List Value}{T:TypeId}(h:Blk w g b T)(d:KeptF F w w')(c: ¬F g):Blk w' g b T:=(d.block g h.lt c).trans h
theorem At.heads {w:World}{B g:Nat}{p:Pl}{m:Mk}(h:At w B g p m)(c:HD):At (w.setCells g 52 (c.cells 20)) B g p {m with h:=c}:=by
 have b:=aB3 (F:=One g) (g:=g) (rfl:g=g) (a:=w) (c.cells 20) 52 w (KeptF.refl _ _)
 refine h.turn (aB3 (F:=p.foot g) (Or.inl rfl) (c.cells 20) 52 w (KeptF.refl _ _)) (fun _ h=> .inl h) ⟨?_,Kf.Own.keptF h.st.own b (fun j hj e=>h.st.ne (by injection hj with hj;exact(e.symm.trans hj.symm))),h.st.ne⟩
  (Mf.OwnE.keptF h.dr b fun j hj e=>(h.dg j hj).1 e) (Mf.OwnE.keptF h.fr b fun j hj e=>(h.fg j hj).1 e)
  h.dm h.fm (fun q hq=> .inl hq) (.inl ⟨rfl,rfl⟩) h.dg h.fg h.df (fun q hq=> .inl hq)
 have:=aIz (c.cells 20) 52 _ _ h.st.st
 rw[aKO]at this
 exact this
attribute [local irreducible] Mk.cells HD.cells Cf.cells wpList Code.wp
attribute [local go_sem ↓] aKS
theorem aDr (C:Cf)(R:Int)(w:World)(aU:0<C.ds∧C.ds≤64)(aT:0<C.fs∧C.fs≤64):
 Calls Tryz.prog 32 #[.agg (Cf.cells C).toArray,.int .u64 R] w fun e w'=> ∃g,e= .returned (.pointer (some ⟨g,0,none⟩))∧(∃p,At w' w.heap.size g p (Mk.new C R))∧Below w.heap.size w w':=by
 obtain⟨B,hB⟩: ∃x,w.heap.size=x:=⟨_,rfl⟩
 have aF:=yH hB
 have R0:=yH (show Blk (w.alloc (.cells (Cf.cells C).toArray 79)) B (Cf.cells C) 79 from hB▸Blk.new w _ _)
 have b0:=yH (show Below B w (w.alloc (.cells (Cf.cells C).toArray 79))from hB▸(Below.refl w.heap.size w).alloc (yR _) _)
 have s0:=yH (show(w.alloc (.cells (Cf.cells C).toArray 79)).heap.size=B+1 by simp[hB])
 rw[hB]
 go_enter Tryz.func32,Tryz.ntmps32
 go_upto_region 1 with fail
 clear hB
 generalize w.alloc (.cells (Cf.cells C).toArray 79)=w0 at*
 have aI:=yH (show w0.drew.rangeAt B 0 (Cf.cells C)from fun j v hj=>by rw[Nat.zero_add];exact R0.out.cell hj)
 have aA:=yH (show((w0.alloc (.cells (Array.replicate 272 (Value.int .u8 0)) 5)).drew).rangeAt B 0 (Cf.cells C)from fun j v hj=>by rw[Nat.zero_add];exact(R0.out.alloc _).cell hj)
 have az:=yH (show(((w0.alloc (.cells (Array.replicate 272 (Value.int .u8 0)) 5)).alloc (.cells (Mk.cells (Mk.n0 C) {S0 with b:= .slice (some ⟨w0.heap.size,0,none⟩) 272 272}).toArray 157)).drew).rangeAt B 0 (Cf.cells C)from fun j v hj=>by rw[Nat.zero_add];exact((R0.out.alloc _).alloc _).cell hj)
 have aK:=fun W=>aNg C w0.heap.size W
 refine wp_region_noPanic ?_
 refine wp_region_held_drew (S:=fun W:World=>W.rangeAt B 0 (Cf.cells C)) (by kernel_rfl) (by exact aI.out) (fun hHeld=>?_)
 refine tk (i:=0) (oi:=⟨some 7,_,_,_,_,_⟩) rfl (yieldsIf_load_mid (by rfl) _ _ rfl _ _ rfl _ _ (fun _ h=>h) Tryz.underlying79 rfl (Cf.info C)) ?_
 try simp only[Act.put,sA,sZ,sS]
 refine rd 1 rfl (fun K hK=>?_)
 go_simp
 rw[aKR];skip
 try go_wp2_with fail
 refine hK.out _ _ (by exact aA.out) (fun hHeld=>?_)
 clear hK K
 try simp only[Act.put,sA,sZ,sS]
 refine tq 2 9 rfl (fun W hSw=>by go_simp;try (with_reducible rfl)) ?_
 try simp only[Act.put,sA,sZ,sS]
 refine rd 3 rfl (fun K hK=>?_)
 go_simp
 skip
 try go_wp2_with fail
 refine hK.out _ _ (by exact az.out) (fun hHeld=>?_)
 clear hK K
 try simp only[Act.put,sA,sZ,sS]
 refine tq 4 5 rfl (fun W hSw=>by go_simp;try (with_reducible rfl)) ?_
 try simp only[Act.put,sA,sZ,sS]
 refine wpAnyH_done (by kernel_rfl) ?_ _
 refine NoPanic.normal ?_
 go_upto_region 2 with fail
 have ay:=yH (show MkB _ B (w0.heap.size+1) w0.heap.size 272 S0 (Mk.n0 C)from aOR w0 B C (by rw[s0.out];omega))
 have RC:=yH (show Blk _ B (Cf.cells C) 79 from((R0.out.alloc (.cells (Array.replicate 272 (Value.int .u8 0)) 5)).alloc (.cells (Mk.cells (Mk.n0 C) {S0 with b:= .slice (some ⟨w0.heap.size,0,none⟩) 272 272}).toArray 157)).drew)
 have BB:=yH (show Below B w _ from((b0.out.alloc (o:= .cells (Array.replicate 272 (Value.int .u8 0)) 5) (by rw[s0.out];omega)).alloc (o:= .cells (Mk.cells (Mk.n0 C) {S0 with b:= .slice (some ⟨w0.heap.size,0,none⟩) 272 272}).toArray 157) (by simp[s0.out];omega)).drew)
 clear hHeld aK aI aA az
 generalize ((w0.alloc (.cells (Array.replicate 272 (Value.int .u8 0)) 5)).alloc (.cells (Mk.cells (Mk.n0 C) {S0 with b:= .slice (some ⟨w0.heap.size,0,none⟩) 272 272}).toArray 157)).drew=w1 at*
 have aL:=s0.out
 clear R0 b0 s0
 generalize w0.heap.size=bb at*
 obtain⟨g,hg⟩: ∃x,bb+1=x:=⟨_,rfl⟩
 have ao:B<bb:=by omega
 have aV:B<g:=by omega
 simp only[hg]at ay⊢
 clear hg aL
 obtain⟨m,hm⟩: ∃x,Mk.n0 C=x:=⟨_,rfl⟩
 have ak:=yH hm
 rw[hm]at ay
 have aR:m.b.length=272:=by rw[←hm];rfl
 clear hm
 have HM:=ay
 obtain⟨n,I⟩: ∃x,m.b.length=x:=⟨_,rfl⟩
 have aC:0<n∧n≤100000:=by omega
 obtain⟨cb,aO⟩: ∃x,272=x:=⟨_,rfl⟩
 rw[aO]at HM
 clear ay aO aR
 have an:w1.drew.cell? ⟨B,48,none⟩=some (.int .i64 (C.ds:Int)):=RC.out.cell (Cf.get_ds C)
 have E:=yH (show MkB ((w1.alloc (.cells (madeCells #[.int .u64 0,.int .u64 0] (C.ds*2)) 203)).drew) B g bb cb S0 m from MkB.below HM.out ((Below.refl _ _).alloc (yR _) _).drew)
 have D:=yH (show Blk ((w1.alloc (.cells (madeCells #[.int .u64 0,.int .u64 0] (C.ds*2)) 203)).drew) B (Cf.cells C) 79 from RC.out.alloc _)
 have ah:=yH (show Below B w ((w1.alloc (.cells (madeCells #[.int .u64 0,.int .u64 0] (C.ds*2)) 203)).drew)from(BB.out.alloc (by have:=HM.out.st.lt;omega) _).drew)
 have ya:w1.drew.cell? ⟨g,143,none⟩=some (.slice (some ⟨bb,0,none⟩) n cb):=I▸HM.out.st.cell (Mk.get_b _ _)
 have yb:((w1.alloc (.cells (madeCells #[.int .u64 0,.int .u64 0] (C.ds*2)) 203)).drew).cell? ⟨g,143,none⟩=some (.slice (some ⟨bb,0,none⟩) n cb):=I▸E.out.st.cell (Mk.get_b _ _)
 have ai:((w1.alloc (.cells (madeCells #[.int .u64 0,.int .u64 0] (C.ds*2)) 203)).drew).cell? ⟨B,48,none⟩=some (.int .i64 (C.ds:Int)):=D.out.cell (Cf.get_ds C)
 have HT:=yH (show Calls Tryz.prog 74 #[.int .i64 4,.slice (some ⟨w1.heap.size,0,none⟩) C.ds C.ds] ((w1.alloc (.cells (madeCells #[.int .u64 0,.int .u64 0] (C.ds*2)) 203)).drew) (Owned (tabB 4 C.ds) (16+16*C.ds+padN (16*C.ds)) ((w1.alloc (.cells (madeCells #[.int .u64 0,.int .u64 0] (C.ds*2)) 203)).drew))from aDm 4 _ _ _ _ _ _ (by decide) (aKQ C.ds w1) (by omega))
 have al:16+16*C.ds+padN (16*C.ds)=16+16*C.ds:=by unfold padN;omega
 rw[al]at HT
 unfold Owned at HT
 clear al
 go_cut [5]from 11 to 22 (fun z wx=>z= .pointer (some ⟨g,0,none⟩)∧(∃b1 c1,B<b1∧Hid (MkB wx B g b1 c1 S0 {m with b:=m.b++tabB 4 C.ds}))∧Hid (Blk wx B (Cf.cells C) 79)∧Hid (Below B w wx))
 case first=>
  refine wp_region_noPanic ?_
  refine wp_region_held_drew (S:=fun W:World=>W.cell? ⟨B,48,none⟩=some (.int .i64 (C.ds:Int))) (by kernel_rfl) (by exact an) (fun hHeld=>?_)
  refine tq 0 11 rfl (fun W hSw=>by go_simp;try (with_reducible rfl)) ?_
  try simp only[Act.put,sA,sZ,sS]
  refine tq 1 12 rfl (fun W hSw=>by go_simp;try (with_reducible rfl)) ?_
  try simp only[Act.put,sA,sZ,sS]
  refine tq 2 13 rfl (fun W hSw=>by go_simp;try (with_reducible rfl)) ?_
  try simp only[Act.put,sA,sZ,sS]
  refine tq 3 14 rfl (fun W hSw=>by go_simp;try (with_reducible rfl)) ?_
  try simp only[Act.put,sA,sZ,sS]
  refine tq 5 16 rfl (fun W hSw=>by go_simp;try (with_reducible rfl)) ?_
  try simp only[Act.put,sA,sZ,sS]
  refine tq 6 17 rfl (fun W hSw=>by have aW:=hSw;go_simp;try (with_reducible rfl)) ?_
  try simp only[Act.put,sA,sZ,sS]
  refine wpAnyH_ready (rs:=[4,7]) (by kernel_rfl) (by simp) ?_
  refine AllReadyH.cons (o:=⟨some 15,_,_,_,_,_⟩) rfl (fun K hK=>?_) (AllReadyH.cons (o:=⟨some 18,_,_,_,_,_⟩) rfl (fun K hK=>?_) AllReadyH.nil)
  ·go_simp
   skip
   try go_wp2_with fail
   refine hK.out _ _ (by exact an) (fun hHeld=>?_)
   clear hK K
   try simp only[Act.put,sA,sZ,sS]
   refine rd 7 rfl (fun K hK=>?_)
   go_simp
   rw[aB4 _ (by omega)]
   try go_wp2_with fail
   refine hK.out _ _ (by exact ai) (fun hHeld=>?_)
   clear hK K
   try simp only[Act.put,sA,sZ,sS]
   refine rd 8 rfl (fun K hK=>?_)
   go_simp
   (refine HT.out.mono ?_);rintro e w2 ⟨A2,c2,rfl,A,q⟩;have V:=yH A;have c:=yH (MkB.below E.out q);have y:=yH (D.out.below q D.out.lt);have Y:=yH (ah.out.trans (q.mono (by have:=E.out.st.lt;omega)));have yc:w2.cell? ⟨g,143,none⟩=some (.slice (some ⟨bb,0,none⟩) n cb):=I▸c.out.st.cell (Mk.get_b _ _);have N:w2.cell? ⟨B,48,none⟩=some (.int .i64 (C.ds:Int)):=y.out.cell (Cf.get_ds C);clear A q
   try go_wp2_with fail
   refine hK.out _ _ (by exact N) (fun hHeld=>?_)
   clear hK K
   try simp only[Act.put,sA,sZ,sS]
   refine rd 9 rfl (fun K hK=>?_)
   refine aAG (o:=⟨some 20,_,_,_,_,_⟩) rfl (.tmp 15) (.tmp 19) rfl B bb n cb m.b rfl (I▸c.out.own) (by omega) A2 (16+16*C.ds) c2 (tabB 4 C.ds) rfl V.out.bytes (aAu _ _) (by omega) ?_
   intro b3 c3 w3 u l r
   have ad:=yH (MkB.app c.out I (aAu _ _) u l r)
   have au:B≤bb∧B<bb:=⟨Nat.le_of_lt ao,ao⟩
   have B3:=yH (Y.out.trans (below_grown l (by have:=c.out.st.lt;omega) (fun k hk=>by injection hk with hk;omega)))
   have R3:=yH (aAl y.out l (by omega))
   have aj:w3.frozen? ⟨g,143,none⟩=false:=(aAl c.out.st l c.out.ne).frozen 143
   have ac:w3.cell? ⟨g,143,none⟩=some (.slice (some ⟨bb,0,none⟩) n cb):=I▸(aAl c.out.st l c.out.ne).cell (Mk.get_b _ _)
   have aa:w3.cell? ⟨B,48,none⟩=some (.int .i64 (C.ds:Int)):=R3.out.cell (Cf.get_ds C)
   have R4:=yH (R3.out.far (p:=⟨g,143,none⟩) (by show B≠g;omega) (.slice (some ⟨b3,0,none⟩) (n+(16+16*C.ds)) c3))
   have ab:=R4.out.cell (Cf.get_ds C)
   have X:B<b3:=by have h1:=c.out.st.lt;rcases r with h2|h2<;>omega
   clear u l r
   refine hK.out _ _ (by exact aa) (fun hHeld=>?_)
   clear hK K
   try simp only[Act.put,sA,sZ,sS]
   refine tq 10 21 rfl (fun W hSw=>by go_simp;try (with_reducible rfl)) ?_
   try simp only[Act.put,sA,sZ,sS]
   refine tq 11 22 rfl (fun W hSw=>by go_simp;try (with_reducible rfl)) ?_
   try simp only[Act.put,sA,sZ,sS]
   refine rd 12 rfl (fun K hK=>?_)
   go_simp
   skip
   try go_wp2_with fail
   refine hK.out _ _ (by exact ab) (fun hHeld=>?_)
   clear hK K
   try simp only[Act.put,sA,sZ,sS]
   refine wpAnyH_done (by kernel_rfl) ?_ _
   refine NoPanic.normal ?_
   try go_wp2_with fail
   go_meet
   case rel=>exact⟨rfl,⟨_,_,X,ad⟩,R4,yH (B3.out.setCell (p:=⟨g,143,none⟩) (by show B≤g;omega) _)⟩
  ·go_simp
   rw[aB4 _ (by omega)]
   try go_wp2_with fail
   refine hK.out _ _ (by exact ai) (fun hHeld=>?_)
   clear hK K
   try simp only[Act.put,sA,sZ,sS]
   refine wpAnyH_ready (rs:=[4,8]) (by kernel_rfl) (by simp) ?_
   refine AllReadyH.cons (o:=⟨some 15,_,_,_,_,_⟩) rfl (fun K hK=>?_) (AllReadyH.cons (o:=⟨some 19,_,_,_,_,_⟩) rfl (fun K hK=>?_) AllReadyH.nil)
   ·go_simp
    skip
    try go_wp2_with fail
    refine hK.out _ _ (by exact ai) (fun hHeld=>?_)
    clear hK K
    try simp only[Act.put,sA,sZ,sS]
    refine rd 8 rfl (fun K hK=>?_)
    go_simp
    (refine HT.out.mono ?_);rintro e w2 ⟨A2,c2,rfl,A,q⟩;have V:=yH A;have c:=yH (MkB.below E.out q);have y:=yH (D.out.below q D.out.lt);have Y:=yH (ah.out.trans (q.mono (by have:=E.out.st.lt;omega)));have yc:w2.cell? ⟨g,143,none⟩=some (.slice (some ⟨bb,0,none⟩) n cb):=I▸c.out.st.cell (Mk.get_b _ _);have N:w2.cell? ⟨B,48,none⟩=some (.int .i64 (C.ds:Int)):=y.out.cell (Cf.get_ds C);clear A q
    try go_wp2_with fail
    refine hK.out _ _ (by exact N) (fun hHeld=>?_)
    clear hK K
    try simp only[Act.put,sA,sZ,sS]
    refine rd 9 rfl (fun K hK=>?_)
    refine aAG (o:=⟨some 20,_,_,_,_,_⟩) rfl (.tmp 15) (.tmp 19) rfl B bb n cb m.b rfl (I▸c.out.own) (by omega) A2 (16+16*C.ds) c2 (tabB 4 C.ds) rfl V.out.bytes (aAu _ _) (by omega) ?_
    intro b3 c3 w3 u l r
    have ad:=yH (MkB.app c.out I (aAu _ _) u l r)
    have au:B≤bb∧B<bb:=⟨Nat.le_of_lt ao,ao⟩
    have B3:=yH (Y.out.trans (below_grown l (by have:=c.out.st.lt;omega) (fun k hk=>by injection hk with hk;omega)))
    have R3:=yH (aAl y.out l (by omega))
    have aj:w3.frozen? ⟨g,143,none⟩=false:=(aAl c.out.st l c.out.ne).frozen 143
    have ac:w3.cell? ⟨g,143,none⟩=some (.slice (some ⟨bb,0,none⟩) n cb):=I▸(aAl c.out.st l c.out.ne).cell (Mk.get_b _ _)
    have aa:w3.cell? ⟨B,48,none⟩=some (.int .i64 (C.ds:Int)):=R3.out.cell (Cf.get_ds C)
    have R4:=yH (R3.out.far (p:=⟨g,143,none⟩) (by show B≠g;omega) (.slice (some ⟨b3,0,none⟩) (n+(16+16*C.ds)) c3))
    have ab:=R4.out.cell (Cf.get_ds C)
    have X:B<b3:=by have h1:=c.out.st.lt;rcases r with h2|h2<;>omega
    clear u l r
    refine hK.out _ _ (by exact aa) (fun hHeld=>?_)
    clear hK K
    try simp only[Act.put,sA,sZ,sS]
    refine tq 10 21 rfl (fun W hSw=>by go_simp;try (with_reducible rfl)) ?_
    try simp only[Act.put,sA,sZ,sS]
    refine tq 11 22 rfl (fun W hSw=>by go_simp;try (with_reducible rfl)) ?_
    try simp only[Act.put,sA,sZ,sS]
    refine rd 12 rfl (fun K hK=>?_)
    go_simp
    skip
    try go_wp2_with fail
    refine hK.out _ _ (by exact ab) (fun hHeld=>?_)
    clear hK K
    try simp only[Act.put,sA,sZ,sS]
    refine wpAnyH_done (by kernel_rfl) ?_ _
    refine NoPanic.normal ?_
    try go_wp2_with fail
    go_meet
    case rel=>exact⟨rfl,⟨_,_,X,ad⟩,R4,yH (B3.out.setCell (p:=⟨g,143,none⟩) (by show B≤g;omega) _)⟩
   ·go_simp
    (refine HT.out.mono ?_);rintro e w2 ⟨A2,c2,rfl,A,q⟩;have V:=yH A;have c:=yH (MkB.below E.out q);have y:=yH (D.out.below q D.out.lt);have Y:=yH (ah.out.trans (q.mono (by have:=E.out.st.lt;omega)));have yc:w2.cell? ⟨g,143,none⟩=some (.slice (some ⟨bb,0,none⟩) n cb):=I▸c.out.st.cell (Mk.get_b _ _);have N:w2.cell? ⟨B,48,none⟩=some (.int .i64 (C.ds:Int)):=y.out.cell (Cf.get_ds C);clear A q
    try go_wp2_with fail
    refine hK.out _ _ (by exact N) (fun hHeld=>?_)
    clear hK K
    try simp only[Act.put,sA,sZ,sS]
    refine rd 4 rfl (fun K hK=>?_)
    go_simp
    skip
    try go_wp2_with fail
    refine hK.out _ _ (by exact N) (fun hHeld=>?_)
    clear hK K
    try simp only[Act.put,sA,sZ,sS]
    refine rd 9 rfl (fun K hK=>?_)
    refine aAG (o:=⟨some 20,_,_,_,_,_⟩) rfl (.tmp 15) (.tmp 19) rfl B bb n cb m.b rfl (I▸c.out.own) (by omega) A2 (16+16*C.ds) c2 (tabB 4 C.ds) rfl V.out.bytes (aAu _ _) (by omega) ?_
    intro b3 c3 w3 u l r
    have ad:=yH (MkB.app c.out I (aAu _ _) u l r)
    have au:B≤bb∧B<bb:=⟨Nat.le_of_lt ao,ao⟩
    have B3:=yH (Y.out.trans (below_grown l (by have:=c.out.st.lt;omega) (fun k hk=>by injection hk with hk;omega)))
    have R3:=yH (aAl y.out l (by omega))
    have aj:w3.frozen? ⟨g,143,none⟩=false:=(aAl c.out.st l c.out.ne).frozen 143
    have ac:w3.cell? ⟨g,143,none⟩=some (.slice (some ⟨bb,0,none⟩) n cb):=I▸(aAl c.out.st l c.out.ne).cell (Mk.get_b _ _)
    have aa:w3.cell? ⟨B,48,none⟩=some (.int .i64 (C.ds:Int)):=R3.out.cell (Cf.get_ds C)
    have R4:=yH (R3.out.far (p:=⟨g,143,none⟩) (by show B≠g;omega) (.slice (some ⟨b3,0,none⟩) (n+(16+16*C.ds)) c3))
    have ab:=R4.out.cell (Cf.get_ds C)
    have X:B<b3:=by have h1:=c.out.st.lt;rcases r with h2|h2<;>omega
    clear u l r
    refine hK.out _ _ (by exact aa) (fun hHeld=>?_)
    clear hK K
    try simp only[Act.put,sA,sZ,sS]
    refine tq 10 21 rfl (fun W hSw=>by go_simp;try (with_reducible rfl)) ?_
    try simp only[Act.put,sA,sZ,sS]
    refine tq 11 22 rfl (fun W hSw=>by go_simp;try (with_reducible rfl)) ?_
    try simp only[Act.put,sA,sZ,sS]
    refine rd 12 rfl (fun K hK=>?_)
    go_simp
    skip
    try go_wp2_with fail
    refine hK.out _ _ (by exact ab) (fun hHeld=>?_)
    clear hK K
    try simp only[Act.put,sA,sZ,sS]
    refine wpAnyH_done (by kernel_rfl) ?_ _
    refine NoPanic.normal ?_
    try go_wp2_with fail
    go_meet
    case rel=>exact⟨rfl,⟨_,_,X,ad⟩,R4,yH (B3.out.setCell (p:=⟨g,143,none⟩) (by show B≤g;omega) _)⟩
 case rest=>
  obtain⟨rfl,⟨s,J,Z,am⟩,av,aw⟩:=hcut
  rename World=>w5
  clear HM RC BB an E D ah ya yb ai HT aC ao
  have HM:=yH (show MkB w5 B g s J S0 (Mk.n1 C)by rw[←ak.out]at am;exact am.out)
  have RC:=av
  have BB:=aw
  clear am av aw I
  clear ak
  obtain⟨m1,hm⟩: ∃x,Mk.n1 C=x:=⟨_,rfl⟩
  have ak:=yH hm
  have aS:m1.b.length=288+16*C.ds:=by rw[←hm];show(z272++tabB 4 C.ds).length=_;rw[List.length_append,aAu];unfold z272;rw[List.length_replicate];omega
  rw[hm]at HM
  clear hm
  obtain⟨t,I⟩: ∃x,m1.b.length=x:=⟨_,rfl⟩
  have aC:0<t∧t≤100000:=by omega
  have aJ:t=288+16*C.ds:=by omega
  have ac:w5.cell? ⟨g,143,none⟩=some (.slice (some ⟨s,0,none⟩) t J):=I▸HM.out.st.cell (Mk.get_b _ _)
  have hw:IntKind.u64.wrap (t:Int)=(t:Int):=by rw[IntKind.wrap_u64];omega
  clear aS
  have aq:=yH aJ
  clear aJ
  go_upto_region 4 with fail
  clear ac hw hHeld
  have an:w5.drew.cell? ⟨B,49,none⟩=some (.int .i64 (C.fs:Int)):=RC.out.cell (Cf.get_fs C)
  have E:=yH (show MkB ((w5.alloc (.cells (madeCells #[.int .u64 0,.int .u64 0] (C.fs*2)) 203)).drew) B g s J S0 m1 from MkB.below HM.out ((Below.refl _ _).alloc (yR _) _).drew)
  have D:=yH (show Blk ((w5.alloc (.cells (madeCells #[.int .u64 0,.int .u64 0] (C.fs*2)) 203)).drew) B (Cf.cells C) 79 from RC.out.alloc _)
  have ah:=yH (show Below B w ((w5.alloc (.cells (madeCells #[.int .u64 0,.int .u64 0] (C.fs*2)) 203)).drew)from(BB.out.alloc (by have:=HM.out.st.lt;omega) _).drew)
  have ya:w5.drew.cell? ⟨g,143,none⟩=some (.slice (some ⟨s,0,none⟩) t J):=I▸HM.out.st.cell (Mk.get_b _ _)
  have yb:((w5.alloc (.cells (madeCells #[.int .u64 0,.int .u64 0] (C.fs*2)) 203)).drew).cell? ⟨g,143,none⟩=some (.slice (some ⟨s,0,none⟩) t J):=I▸E.out.st.cell (Mk.get_b _ _)
  have ai:((w5.alloc (.cells (madeCells #[.int .u64 0,.int .u64 0] (C.fs*2)) 203)).drew).cell? ⟨B,49,none⟩=some (.int .i64 (C.fs:Int)):=D.out.cell (Cf.get_fs C)
  have HT:=yH (show Calls Tryz.prog 74 #[.int .i64 5,.slice (some ⟨w5.heap.size,0,none⟩) C.fs C.fs] ((w5.alloc (.cells (madeCells #[.int .u64 0,.int .u64 0] (C.fs*2)) 203)).drew) (Owned (tabB 5 C.fs) (16+16*C.fs+padN (16*C.fs)) ((w5.alloc (.cells (madeCells #[.int .u64 0,.int .u64 0] (C.fs*2)) 203)).drew))from aDm 5 _ _ _ _ _ _ (by decide) (aKQ C.fs w5) (by omega))
  have al:16+16*C.fs+padN (16*C.fs)=16+16*C.fs:=by unfold padN;omega
  rw[al]at HT
  unfold Owned at HT
  clear al
  go_cut [5]from 29 to 40 (fun z wx=>z= .pointer (some ⟨g,0,none⟩)∧(∃b1 c1,B<b1∧Hid (MkB wx B g b1 c1 S0 {m1 with b:=m1.b++tabB 5 C.fs}))∧Hid (Blk wx B (Cf.cells C) 79)∧Hid (Below B w wx))
  case first=>
   refine wp_region_noPanic ?_
   refine wp_region_held_drew (S:=fun W:World=>W.cell? ⟨B,49,none⟩=some (.int .i64 (C.fs:Int))) (by kernel_rfl) (by exact an) (fun hHeld=>?_)
   refine tq 0 29 rfl (fun W hSw=>by go_simp;try (with_reducible rfl)) ?_
   try simp only[Act.put,sA,sZ,sS]
   refine tq 1 30 rfl (fun W hSw=>by go_simp;try (with_reducible rfl)) ?_
   try simp only[Act.put,sA,sZ,sS]
   refine tq 2 31 rfl (fun W hSw=>by go_simp;try (with_reducible rfl)) ?_
   try simp only[Act.put,sA,sZ,sS]
   refine tq 3 32 rfl (fun W hSw=>by go_simp;try (with_reducible rfl)) ?_
   try simp only[Act.put,sA,sZ,sS]
   refine tq 5 34 rfl (fun W hSw=>by go_simp;try (with_reducible rfl)) ?_
   try simp only[Act.put,sA,sZ,sS]
   refine tq 6 35 rfl (fun W hSw=>by have aW:=hSw;go_simp;try (with_reducible rfl)) ?_
   try simp only[Act.put,sA,sZ,sS]
   refine wpAnyH_ready (rs:=[4,7]) (by kernel_rfl) (by simp) ?_
   refine AllReadyH.cons (o:=⟨some 33,_,_,_,_,_⟩) rfl (fun K hK=>?_) (AllReadyH.cons (o:=⟨some 36,_,_,_,_,_⟩) rfl (fun K hK=>?_) AllReadyH.nil)
   ·go_simp
    skip
    try go_wp2_with fail
    refine hK.out _ _ (by exact an) (fun hHeld=>?_)
    clear hK K
    try simp only[Act.put,sA,sZ,sS]
    refine rd 7 rfl (fun K hK=>?_)
    go_simp
    rw[aB4 _ (by omega)]
    try go_wp2_with fail
    refine hK.out _ _ (by exact ai) (fun hHeld=>?_)
    clear hK K
    try simp only[Act.put,sA,sZ,sS]
    refine rd 8 rfl (fun K hK=>?_)
    go_simp
    (refine HT.out.mono ?_);rintro e w2 ⟨A2,c2,rfl,A,q⟩;have V:=yH A;have c:=yH (MkB.below E.out q);have y:=yH (D.out.below q D.out.lt);have Y:=yH (ah.out.trans (q.mono (by have:=E.out.st.lt;omega)));have yc:w2.cell? ⟨g,143,none⟩=some (.slice (some ⟨s,0,none⟩) t J):=I▸c.out.st.cell (Mk.get_b _ _);have N:w2.cell? ⟨B,49,none⟩=some (.int .i64 (C.fs:Int)):=y.out.cell (Cf.get_fs C);clear A q
    try go_wp2_with fail
    refine hK.out _ _ (by exact N) (fun hHeld=>?_)
    clear hK K
    try simp only[Act.put,sA,sZ,sS]
    refine rd 9 rfl (fun K hK=>?_)
    refine aAG (o:=⟨some 38,_,_,_,_,_⟩) rfl (.tmp 33) (.tmp 37) rfl B s t J m1.b rfl (I▸c.out.own) (by omega) A2 (16+16*C.fs) c2 (tabB 5 C.fs) rfl V.out.bytes (aAu _ _) (by omega) ?_
    intro b3 c3 w3 u l r
    have ad:=yH (MkB.app c.out I (aAu _ _) u l r)
    have au:B≤s∧B<s:=⟨Nat.le_of_lt Z,Z⟩
    have B3:=yH (Y.out.trans (below_grown l (by have:=c.out.st.lt;omega) (fun k hk=>by injection hk with hk;omega)))
    have R3:=yH (aAl y.out l (by omega))
    have aj:w3.frozen? ⟨g,143,none⟩=false:=(aAl c.out.st l c.out.ne).frozen 143
    have ac:w3.cell? ⟨g,143,none⟩=some (.slice (some ⟨s,0,none⟩) t J):=I▸(aAl c.out.st l c.out.ne).cell (Mk.get_b _ _)
    have aa:w3.cell? ⟨B,49,none⟩=some (.int .i64 (C.fs:Int)):=R3.out.cell (Cf.get_fs C)
    have R4:=yH (R3.out.far (p:=⟨g,143,none⟩) (by show B≠g;omega) (.slice (some ⟨b3,0,none⟩) (t+(16+16*C.fs)) c3))
    have ab:=R4.out.cell (Cf.get_fs C)
    have X:B<b3:=by have h1:=c.out.st.lt;rcases r with h2|h2<;>omega
    clear u l r
    refine hK.out _ _ (by exact aa) (fun hHeld=>?_)
    clear hK K
    try simp only[Act.put,sA,sZ,sS]
    refine tq 10 39 rfl (fun W hSw=>by go_simp;try (with_reducible rfl)) ?_
    try simp only[Act.put,sA,sZ,sS]
    refine tq 11 40 rfl (fun W hSw=>by go_simp;try (with_reducible rfl)) ?_
    try simp only[Act.put,sA,sZ,sS]
    refine rd 12 rfl (fun K hK=>?_)
    go_simp
    skip
    try go_wp2_with fail
    refine hK.out _ _ (by exact ab) (fun hHeld=>?_)
    clear hK K
    try simp only[Act.put,sA,sZ,sS]
    refine wpAnyH_done (by kernel_rfl) ?_ _
    refine NoPanic.normal ?_
    try go_wp2_with fail
    go_meet
    case rel=>exact⟨rfl,⟨_,_,X,ad⟩,R4,yH (B3.out.setCell (p:=⟨g,143,none⟩) (by show B≤g;omega) _)⟩
   ·go_simp
    rw[aB4 _ (by omega)]
    try go_wp2_with fail
    refine hK.out _ _ (by exact ai) (fun hHeld=>?_)
    clear hK K
    try simp only[Act.put,sA,sZ,sS]
    refine wpAnyH_ready (rs:=[4,8]) (by kernel_rfl) (by simp) ?_
    refine AllReadyH.cons (o:=⟨some 33,_,_,_,_,_⟩) rfl (fun K hK=>?_) (AllReadyH.cons (o:=⟨some 37,_,_,_,_,_⟩) rfl (fun K hK=>?_) AllReadyH.nil)
    ·go_simp
     skip
     try go_wp2_with fail
     refine hK.out _ _ (by exact ai) (fun hHeld=>?_)
     clear hK K
     try simp only[Act.put,sA,sZ,sS]
     refine rd 8 rfl (fun K hK=>?_)
     go_simp
     (refine HT.out.mono ?_);rintro e w2 ⟨A2,c2,rfl,A,q⟩;have V:=yH A;have c:=yH (MkB.below E.out q);have y:=yH (D.out.below q D.out.lt);have Y:=yH (ah.out.trans (q.mono (by have:=E.out.st.lt;omega)));have yc:w2.cell? ⟨g,143,none⟩=some (.slice (some ⟨s,0,none⟩) t J):=I▸c.out.st.cell (Mk.get_b _ _);have N:w2.cell? ⟨B,49,none⟩=some (.int .i64 (C.fs:Int)):=y.out.cell (Cf.get_fs C);clear A q
     try go_wp2_with fail
     refine hK.out _ _ (by exact N) (fun hHeld=>?_)
     clear hK K
     try simp only[Act.put,sA,sZ,sS]
     refine rd 9 rfl (fun K hK=>?_)
     refine aAG (o:=⟨some 38,_,_,_,_,_⟩) rfl (.tmp 33) (.tmp 37) rfl B s t J m1.b rfl (I▸c.out.own) (by omega) A2 (16+16*C.fs) c2 (tabB 5 C.fs) rfl V.out.bytes (aAu _ _) (by omega) ?_
     intro b3 c3 w3 u l r
     have ad:=yH (MkB.app c.out I (aAu _ _) u l r)
     have au:B≤s∧B<s:=⟨Nat.le_of_lt Z,Z⟩
     have B3:=yH (Y.out.trans (below_grown l (by have:=c.out.st.lt;omega) (fun k hk=>by injection hk with hk;omega)))
     have R3:=yH (aAl y.out l (by omega))
     have aj:w3.frozen? ⟨g,143,none⟩=false:=(aAl c.out.st l c.out.ne).frozen 143
     have ac:w3.cell? ⟨g,143,none⟩=some (.slice (some ⟨s,0,none⟩) t J):=I▸(aAl c.out.st l c.out.ne).cell (Mk.get_b _ _)
     have aa:w3.cell? ⟨B,49,none⟩=some (.int .i64 (C.fs:Int)):=R3.out.cell (Cf.get_fs C)
     have R4:=yH (R3.out.far (p:=⟨g,143,none⟩) (by show B≠g;omega) (.slice (some ⟨b3,0,none⟩) (t+(16+16*C.fs)) c3))
     have ab:=R4.out.cell (Cf.get_fs C)
     have X:B<b3:=by have h1:=c.out.st.lt;rcases r with h2|h2<;>omega
     clear u l r
     refine hK.out _ _ (by exact aa) (fun hHeld=>?_)
     clear hK K
     try simp only[Act.put,sA,sZ,sS]
     refine tq 10 39 rfl (fun W hSw=>by go_simp;try (with_reducible rfl)) ?_
     try simp only[Act.put,sA,sZ,sS]
     refine tq 11 40 rfl (fun W hSw=>by go_simp;try (with_reducible rfl)) ?_
     try simp only[Act.put,sA,sZ,sS]
     refine rd 12 rfl (fun K hK=>?_)
     go_simp
     skip
     try go_wp2_with fail
     refine hK.out _ _ (by exact ab) (fun hHeld=>?_)
     clear hK K
     try simp only[Act.put,sA,sZ,sS]
     refine wpAnyH_done (by kernel_rfl) ?_ _
     refine NoPanic.normal ?_
     try go_wp2_with fail
     go_meet
     case rel=>exact⟨rfl,⟨_,_,X,ad⟩,R4,yH (B3.out.setCell (p:=⟨g,143,none⟩) (by show B≤g;omega) _)⟩
    ·go_simp
     (refine HT.out.mono ?_);rintro e w2 ⟨A2,c2,rfl,A,q⟩;have V:=yH A;have c:=yH (MkB.below E.out q);have y:=yH (D.out.below q D.out.lt);have Y:=yH (ah.out.trans (q.mono (by have:=E.out.st.lt;omega)));have yc:w2.cell? ⟨g,143,none⟩=some (.slice (some ⟨s,0,none⟩) t J):=I▸c.out.st.cell (Mk.get_b _ _);have N:w2.cell? ⟨B,49,none⟩=some (.int .i64 (C.fs:Int)):=y.out.cell (Cf.get_fs C);clear A q
     try go_wp2_with fail
     refine hK.out _ _ (by exact N) (fun hHeld=>?_)
     clear hK K
     try simp only[Act.put,sA,sZ,sS]
     refine rd 4 rfl (fun K hK=>?_)
     go_simp
     skip
     try go_wp2_with fail
     refine hK.out _ _ (by exact N) (fun hHeld=>?_)
     clear hK K
     try simp only[Act.put,sA,sZ,sS]
     refine rd 9 rfl (fun K hK=>?_)
     refine aAG (o:=⟨some 38,_,_,_,_,_⟩) rfl (.tmp 33) (.tmp 37) rfl B s t J m1.b rfl (I▸c.out.own) (by omega) A2 (16+16*C.fs) c2 (tabB 5 C.fs) rfl V.out.bytes (aAu _ _) (by omega) ?_
     intro b3 c3 w3 u l r
     have ad:=yH (MkB.app c.out I (aAu _ _) u l r)
     have au:B≤s∧B<s:=⟨Nat.le_of_lt Z,Z⟩
     have B3:=yH (Y.out.trans (below_grown l (by have:=c.out.st.lt;omega) (fun k hk=>by injection hk with hk;omega)))
     have R3:=yH (aAl y.out l (by omega))
     have aj:w3.frozen? ⟨g,143,none⟩=false:=(aAl c.out.st l c.out.ne).frozen 143
     have ac:w3.cell? ⟨g,143,none⟩=some (.slice (some ⟨s,0,none⟩) t J):=I▸(aAl c.out.st l c.out.ne).cell (Mk.get_b _ _)
     have aa:w3.cell? ⟨B,49,none⟩=some (.int .i64 (C.fs:Int)):=R3.out.cell (Cf.get_fs C)
     have R4:=yH (R3.out.far (p:=⟨g,143,none⟩) (by show B≠g;omega) (.slice (some ⟨b3,0,none⟩) (t+(16+16*C.fs)) c3))
     have ab:=R4.out.cell (Cf.get_fs C)
     have X:B<b3:=by have h1:=c.out.st.lt;rcases r with h2|h2<;>omega
     clear u l r
     refine hK.out _ _ (by exact aa) (fun hHeld=>?_)
     clear hK K
     try simp only[Act.put,sA,sZ,sS]
     refine tq 10 39 rfl (fun W hSw=>by go_simp;try (with_reducible rfl)) ?_
     try simp only[Act.put,sA,sZ,sS]
     refine tq 11 40 rfl (fun W hSw=>by go_simp;try (with_reducible rfl)) ?_
     try simp only[Act.put,sA,sZ,sS]
     refine rd 12 rfl (fun K hK=>?_)
     go_simp
     skip
     try go_wp2_with fail
     refine hK.out _ _ (by exact ab) (fun hHeld=>?_)
     clear hK K
     try simp only[Act.put,sA,sZ,sS]
     refine wpAnyH_done (by kernel_rfl) ?_ _
     refine NoPanic.normal ?_
     try go_wp2_with fail
     go_meet
     case rel=>exact⟨rfl,⟨_,_,X,ad⟩,R4,yH (B3.out.setCell (p:=⟨g,143,none⟩) (by show B≤g;omega) _)⟩
  case rest=>
   obtain⟨rfl,⟨L,ag,aY,am⟩,av,aw⟩:=hcut
   rename World=>w6
   clear HM RC BB an E D ah ya yb ai HT aC
   have HM:=yH (show MkB w6 B g L ag S0 (Mk.n2 C)by rw[←ak.out]at am;exact am.out)
   have RC:=av
   have BB:=aw
   clear am av aw I ak
   have HA:=yH (at_new HM.out (Nat.le_of_lt aV) rfl rfl rfl)
   have aX:=yH (show Path g (p0 L ag) w6 (p0 L ag) w6 from Path.refl _ _ _)
   have aD:((hdB C).cells 20).toArray.size=90:=by simp[HD.len]
   clear Z HM
   go_upto_region 6 with(first
    |((with_reducible apply aAb 43);refine wpList_load_mid rfl 37 (.tmp 42) rfl B 0 rfl (idJ C.F) _ (Cf.range RC.out C.F 0 (by decide) (Cf.at_F C)) Tryz.underlying37 rfl (aBl _) ?_)
    |((with_reducible apply aAb 45);refine wpList_load_mid rfl 37 (.tmp 44) rfl B 16 rfl (idJ C.M) _ (Cf.range RC.out C.M 16 (by decide) (Cf.at_M C)) Tryz.underlying37 rfl (aBl _) ?_)
    |((with_reducible apply aAb 47);refine wpList_load_mid rfl 37 (.tmp 46) rfl B 32 rfl (idJ C.S) _ (Cf.range RC.out C.S 32 (by decide) (Cf.at_S C)) Tryz.underlying37 rfl (aBl _) ?_)
    |((with_reducible apply aAb 48);refine wpList_build_as rfl 99 _ rfl ((hdB C).cells 20).toArray (by kernel_rfl) ?_)
    |((with_reducible apply aAa (.tmp 50) (.tmp 48));refine wpList_store_mid rfl 99 (.tmp 50) (.tmp 48) rfl g 52 ((hdB C).cells 20).toArray rfl rfl (by rw[aD];exact aNf HA.out.st.st 52 90 (by decide)) (by rw[aD];exact aEx) (HD.one _ 20) ?_)
    |fail)
   obtain⟨mm,aB⟩: ∃x,Mk.n2 C=x:=⟨_,rfl⟩
   have ak:=yH aB
   rw[aB]at HA
   clear aB aD
   have HF:=yH (At.heads HA.out (hdB C))
   have HQ:=yH (show Path g (p0 L ag) w6 (p0 L ag) (w6.setCells g 52 ((hdB C).cells 20))from⟨fun _ h=> .inl h,aB3 (Or.inl rfl) _ _ _ (KeptF.refl _ _)⟩)
   generalize w6.setCells g 52 ((hdB C).cells 20)=w7 at*
   have ar:=yH fun(W:World) (hW:Path g (p0 L ag) w6 (p0 L ag) W)=>show Blk W B (Cf.cells C) 79 from aJw RC.out hW.kept (fun h=>by
    rcases h with h|h|h|h
    ·omega
    ·have h:B=L:=h;omega
    ·cases h
    ·cases h)
   clear RC HA aX
   have ax:w7.cell? ⟨B,51,none⟩=some (.bool C.keyed):=(ar.out _ HQ.out).cell (Cf.get_keyed C)
   have ae:IntKind.i64.wrap (16*(C.ds:Int))=16*(C.ds:Int):=by rw[IntKind.wrap_i64];omega
   have af:IntKind.u64.wrap (16*(C.ds:Int))=16*(C.ds:Int):=by rw[IntKind.wrap_u64];omega
   have aM:IntKind.i64.wrap (16*(C.fs:Int))=16*(C.fs:Int):=by rw[IntKind.wrap_i64];omega
   have aG:IntKind.u64.wrap (16*(C.fs:Int))=16*(C.fs:Int):=by rw[IntKind.wrap_u64];omega
   have ap:IntKind.u64.wrap ((t:Int)+16)=(t:Int)+16:=by have:=aq.out;rw[IntKind.wrap_u64];omega
   have aP:=yH ae
   have aQ:=yH af
   have aE:=yH aM
   have aN:=yH aG
   have aH:=yH ap
   clear ae af aM aG ap aU aT
   rcases hkd:C.keyed with _|_
   ·have HK:=yH (show hdB C=hdK C from by unfold hdK;rw[hkd];rfl)
    rw[hkd]at ax
    clear hkd
    rw[HK.out]at HF
    go_upto_region 8 with fail
    clear ax
    have G:=At.cN HF.out 0 119 (by decide) rfl
    have H:=At.fz HF.out 119
    go_upto_region 9 with fail
    have f:=yH ((At.setNh _ HF.out 0 119 (by decide) rfl 272))
    have d:=yH ((HQ.out.set 119 (.int .u64 272)))
    clear G H
    generalize w7.setCell ⟨g,119,none⟩ (.int .u64 272)=wn at*
    clear HF HQ
    have HF:=f
    have HQ:=d
    clear f d
    rename World=>wv119
    have G:=At.cN HF.out 2 121 (by decide) rfl
    have H:=At.fz HF.out 121
    go_upto_region 10 with fail
    have f:=yH ((At.setNh _ HF.out 2 121 (by decide) rfl 288))
    have d:=yH ((HQ.out.set 121 (.int .u64 288)))
    clear G H
    generalize wv119.setCell ⟨g,121,none⟩ (.int .u64 288)=wn at*
    clear HF HQ
    have HF:=f
    have HQ:=d
    clear f d
    rename World=>wv121
    have yc:wv121.cell? ⟨B,48,none⟩=some (.int .i64 (C.ds:Int)):=(ar.out _ HQ.out).cell (Cf.get_ds C)
    have ae:=aP.out
    have af:=aQ.out
    have G:=At.cN HF.out 3 122 (by decide) rfl
    have H:=At.fz HF.out 122
    go_region
    go_upto_region 11 with fail
    have f:=yH (At.drew (At.setNh _ HF.out 3 122 (by decide) rfl (16*(C.ds:Int))))
    have d:=yH ((HQ.out.set 122 (.int .u64 (16*(C.ds:Int)))).drew)
    clear G H yc ae af
    generalize (wv121.setCell ⟨g,122,none⟩ (.int .u64 (16*(C.ds:Int)))).drew=wn at*
    clear HF HQ
    have HF:=f
    have HQ:=d
    clear f d
    rename World=>wv122
    have ap:=aH.out
    have G:=At.cN HF.out 4 123 (by decide) rfl
    have H:=At.fz HF.out 123
    go_upto_region 12 with fail
    have f:=yH ((At.setNh _ HF.out 4 123 (by decide) rfl ((t:Int)+16)))
    have d:=yH ((HQ.out.set 123 (.int .u64 ((t:Int)+16))))
    clear G H ap
    generalize wv122.setCell ⟨g,123,none⟩ (.int .u64 ((t:Int)+16))=wn at*
    clear HF HQ
    have HF:=f
    have HQ:=d
    clear f d
    rename World=>wv123
    have yc:wv123.cell? ⟨B,49,none⟩=some (.int .i64 (C.fs:Int)):=(ar.out _ HQ.out).cell (Cf.get_fs C)
    have ae:=aE.out
    have af:=aN.out
    have G:=At.cN HF.out 5 124 (by decide) rfl
    have H:=At.fz HF.out 124
    go_region
    go_upto_region 13 with fail
    have f:=yH (At.drew (At.setNh _ HF.out 5 124 (by decide) rfl (16*(C.fs:Int))))
    have d:=yH ((HQ.out.set 124 (.int .u64 (16*(C.fs:Int)))).drew)
    clear G H yc ae af
    generalize (wv123.setCell ⟨g,124,none⟩ (.int .u64 (16*(C.fs:Int)))).drew=wn at*
    clear HF HQ
    have HF:=f
    have HQ:=d
    clear f d
    rename World=>wv124
    have G:=At.cN HF.out 6 125 (by decide) rfl
    have H:=At.fz HF.out 125
    go_upto_region 14 with fail
    have f:=yH ((At.setNh _ HF.out 6 125 (by decide) rfl (t:Int)))
    have d:=yH ((HQ.out.set 125 (.int .u64 (t:Int))))
    clear G H
    generalize wv124.setCell ⟨g,125,none⟩ (.int .u64 (t:Int))=wn at*
    clear HF HQ
    have HF:=f
    have HQ:=d
    clear f d
    rename World=>wv125
    have G:=At.cN HF.out 7 126 (by decide) rfl
    have H:=At.fz HF.out 126
    go_upto_region 15 with fail
    have f:=yH ((At.setNh _ HF.out 7 126 (by decide) rfl 2))
    have d:=yH ((HQ.out.set 126 (.int .u64 2)))
    clear G H
    generalize wv125.setCell ⟨g,126,none⟩ (.int .u64 2)=wn at*
    clear HF HQ
    have HF:=f
    have HQ:=d
    clear f d
    rename World=>wv126
    have G:=At.cN HF.out 9 128 (by decide) rfl
    have H:=At.fz HF.out 128
    go_wp2
    have f:=yH ((At.setNh _ HF.out 9 128 (by decide) rfl R))
    have d:=yH ((HQ.out.set 128 (.int .u64 R)))
    clear G H
    clear HF HQ
    have HF:=f
    have HQ:=d
    clear f d
    go_ret
    have e4:((t:Int)+16)=304+16*(C.ds:Int):=by have:=aq.out;omega
    have e6:(t:Int)=288+16*(C.ds:Int):=by have:=aq.out;omega
    have hF:=HF.out
    rw[e4,e6,←ak.out]at hF
    exact⟨g,rfl,⟨p0 L ag,hF⟩,BB.out.trans (HQ.out.kept.below (by have:=BB.out.size;have:=aF.out;omega) (fun k h=>by
     rcases h with h|h|h|h
     ·omega
     ·have h:k=L:=h;omega
     ·cases h
     ·cases h))⟩
   ·have HK:=yH (show {hdB C with ic:=4}=hdK C from by unfold hdK;rw[hkd];rfl)
    rw[hkd]at ax
    clear hkd
    have H:=At.fz HF.out 53
    have G:w7.cell? ⟨g,53,none⟩=some (.int .u32 (hdB C).ic):=HF.out.st.st.cell (aPZ _ _)
    go_upto_region 8 with fail
    have f:=yH (show At (w7.setCell ⟨g,53,none⟩ (.int .u32 4)) B g (p0 L ag) {mm with h:=hdK C}from by rw[←HK.out];exact Nk.At.head1 HF.out 53 (.int .u32 4) _ (fun S=>set_ic _ S 4))
    have d:=yH (HQ.out.set 53 (.int .u32 4))
    generalize w7.setCell ⟨g,53,none⟩ (.int .u32 4)=wn at*
    clear HF HQ H G ax
    have HF:=f
    have HQ:=d
    clear f d
    have G:=At.cN HF.out 0 119 (by decide) rfl
    have H:=At.fz HF.out 119
    go_upto_region 9 with fail
    have f:=yH ((At.setNh _ HF.out 0 119 (by decide) rfl 272))
    have d:=yH ((HQ.out.set 119 (.int .u64 272)))
    clear G H
    generalize wn.setCell ⟨g,119,none⟩ (.int .u64 272)=wn at*
    clear HF HQ
    have HF:=f
    have HQ:=d
    clear f d
    rename World=>wv119
    have G:=At.cN HF.out 2 121 (by decide) rfl
    have H:=At.fz HF.out 121
    go_upto_region 10 with fail
    have f:=yH ((At.setNh _ HF.out 2 121 (by decide) rfl 288))
    have d:=yH ((HQ.out.set 121 (.int .u64 288)))
    clear G H
    generalize wv119.setCell ⟨g,121,none⟩ (.int .u64 288)=wn at*
    clear HF HQ
    have HF:=f
    have HQ:=d
    clear f d
    rename World=>wv121
    have yc:wv121.cell? ⟨B,48,none⟩=some (.int .i64 (C.ds:Int)):=(ar.out _ HQ.out).cell (Cf.get_ds C)
    have ae:=aP.out
    have af:=aQ.out
    have G:=At.cN HF.out 3 122 (by decide) rfl
    have H:=At.fz HF.out 122
    go_region
    go_upto_region 11 with fail
    have f:=yH (At.drew (At.setNh _ HF.out 3 122 (by decide) rfl (16*(C.ds:Int))))
    have d:=yH ((HQ.out.set 122 (.int .u64 (16*(C.ds:Int)))).drew)
    clear G H yc ae af
    generalize (wv121.setCell ⟨g,122,none⟩ (.int .u64 (16*(C.ds:Int)))).drew=wn at*
    clear HF HQ
    have HF:=f
    have HQ:=d
    clear f d
    rename World=>wv122
    have ap:=aH.out
    have G:=At.cN HF.out 4 123 (by decide) rfl
    have H:=At.fz HF.out 123
    go_upto_region 12 with fail
    have f:=yH ((At.setNh _ HF.out 4 123 (by decide) rfl ((t:Int)+16)))
    have d:=yH ((HQ.out.set 123 (.int .u64 ((t:Int)+16))))
    clear G H ap
    generalize wv122.setCell ⟨g,123,none⟩ (.int .u64 ((t:Int)+16))=wn at*
    clear HF HQ
    have HF:=f
    have HQ:=d
    clear f d
    rename World=>wv123
    have yc:wv123.cell? ⟨B,49,none⟩=some (.int .i64 (C.fs:Int)):=(ar.out _ HQ.out).cell (Cf.get_fs C)
    have ae:=aE.out
    have af:=aN.out
    have G:=At.cN HF.out 5 124 (by decide) rfl
    have H:=At.fz HF.out 124
    go_region
    go_upto_region 13 with fail
    have f:=yH (At.drew (At.setNh _ HF.out 5 124 (by decide) rfl (16*(C.fs:Int))))
    have d:=yH ((HQ.out.set 124 (.int .u64 (16*(C.fs:Int)))).drew)
    clear G H yc ae af
    generalize (wv123.setCell ⟨g,124,none⟩ (.int .u64 (16*(C.fs:Int)))).drew=wn at*
    clear HF HQ
    have HF:=f
    have HQ:=d
    clear f d
    rename World=>wv124
    have G:=At.cN HF.out 6 125 (by decide) rfl
    have H:=At.fz HF.out 125
    go_upto_region 14 with fail
    have f:=yH ((At.setNh _ HF.out 6 125 (by decide) rfl (t:Int)))
    have d:=yH ((HQ.out.set 125 (.int .u64 (t:Int))))
    clear G H
    generalize wv124.setCell ⟨g,125,none⟩ (.int .u64 (t:Int))=wn at*
    clear HF HQ
    have HF:=f
    have HQ:=d
    clear f d
    rename World=>wv125
    have G:=At.cN HF.out 7 126 (by decide) rfl
    have H:=At.fz HF.out 126
    go_upto_region 15 with fail
    have f:=yH ((At.setNh _ HF.out 7 126 (by decide) rfl 2))
    have d:=yH ((HQ.out.set 126 (.int .u64 2)))
    clear G H
    generalize wv125.setCell ⟨g,126,none⟩ (.int .u64 2)=wn at*
    clear HF HQ
    have HF:=f
    have HQ:=d
    clear f d
    rename World=>wv126
    have G:=At.cN HF.out 9 128 (by decide) rfl
    have H:=At.fz HF.out 128
    go_wp2
    have f:=yH ((At.setNh _ HF.out 9 128 (by decide) rfl R))
    have d:=yH ((HQ.out.set 128 (.int .u64 R)))
    clear G H
    clear HF HQ
    have HF:=f
    have HQ:=d
    clear f d
    go_ret
    have e4:((t:Int)+16)=304+16*(C.ds:Int):=by have:=aq.out;omega
    have e6:(t:Int)=288+16*(C.ds:Int):=by have:=aq.out;omega
    have hF:=HF.out
    rw[e4,e6,←ak.out]at hF
    exact⟨g,rfl,⟨p0 L ag,hF⟩,BB.out.trans (HQ.out.kept.below (by have:=BB.out.size;have:=aF.out;omega) (fun k h=>by
     rcases h with h|h|h|h
     ·omega
     ·have h:k=L:=h;omega
     ·cases h
     ·cases h))⟩
end Np
end Go.Proofs.YtlelnfokffflnaaGreat
