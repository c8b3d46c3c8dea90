/-
  Texts beneath.
-/
import Derived.Test.YteaikbodkgjkdaaGreatQl22
set_option linter.unusedVariables false
set_option linter.unusedSimpArgs false
set_option maxRecDepth 100000
set_option maxHeartbeats 8000000
open Go.ChangeShapes Go.WideShapes Go.ChangeAt Go.RowKit
namespace Go.Proofs.YteaikbodkgjkdaaGreat
namespace Np
open Bytes8 Blk8 Own8 OwnM OwnA OwnE Rows2 Ob Od Ga Ma Kf Mb Mc Md Mf Mg Fa Fb Dc Yc Yk Gb Na Nc Nd Nh Nk Nm No
def Cf.cells (C:Cf):List Value:=(List.range 52).map (Cf.at_ C)
theorem Cf.len (C:Cf):(Cf.cells C).length=52:=by simp[Cf.cells]
theorem Cf.get (C:Cf)(i:Nat)(a:i<52):(Cf.cells C)[i]? =some (Cf.at_ C i):=by simp[Cf.cells,a]
theorem Cf.get_ds (C:Cf):(Cf.cells C)[48]? =some (.int .i64 (C.ds:Int)):=by rw[Cf.get C _ (by decide)];rfl
theorem Cf.get_fs (C:Cf):(Cf.cells C)[49]? =some (.int .i64 (C.fs:Int)):=by rw[Cf.get C _ (by decide)];rfl
theorem Cf.get_keyed (C:Cf):(Cf.cells C)[51]? =some (.bool C.keyed):=by rw[Cf.get C _ (by decide)];rfl
abbrev idJ (K:Nat→Int):List Value:=[.int .u8 (K 0),.int .u8 (K 1),.int .u8 (K 2),.int .u8 (K 3),.int .u8 (K 4),.int .u8 (K 5),.int .u8 (K 6),.int .u8 (K 7),.int .u8 (K 8),.int .u8 (K 9),.int .u8 (K 10),.int .u8 (K 11),.int .u8 (K 12),.int .u8 (K 13),.int .u8 (K 14),.int .u8 (K 15)]
theorem aBl (K:Nat→Int):(Tryz.prog.info? 61).map (·.size)=some (idJ K).length:=by kernel_rfl
theorem aC7 (K:Nat→Int)(j:Nat)(a:j<16):(idJ K)[j]? =some (.int .u8 (K j)):=by
 rcases j with _|_|_|_|_|_|_|_|_|_|_|_|_|_|_|_|j
 all_goals first|rfl|omega
theorem Cf.range {w:World}{g:Nat}{T:TypeId}{C:Cf}(c:Blk w g (Cf.cells C) T)(K:Nat→Int)(o:Nat)(d:o+16≤48)(b: ∀j,j<16→Cf.at_ C (o+j)= .int .u8 (K j)):w.rangeAt g o (idJ K):=fun j v hj=>by
 have a:j<16:=(List.getElem?_eq_some_iff.1 hj).1
 rw[aC7 K j a]at hj
 injection hj with hj
 subst hj
 rw[←b j a]
 exact c.cell (Cf.get C _ (by omega))
theorem Cf.at_F (C:Cf)(j:Nat)(a:j<16):Cf.at_ C (0+j)= .int .u8 (C.F j):=by unfold Cf.at_;rw[if_pos (by omega),if_pos (by omega),Nat.zero_add]
theorem Cf.at_M (C:Cf)(j:Nat)(a:j<16):Cf.at_ C (16+j)= .int .u8 (C.M j):=by unfold Cf.at_;rw[if_pos (by omega),if_neg (by omega),if_pos (by omega),Nat.add_sub_cancel_left]
theorem Cf.at_S (C:Cf)(j:Nat)(a:j<16):Cf.at_ C (32+j)= .int .u8 (C.S j):=by unfold Cf.at_;rw[if_pos (by omega),if_neg (by omega),if_neg (by omega),Nat.add_sub_cancel_left]
theorem aOd:(Tryz.prog.info? 86).map (·.size)=some 52:=by kernel_rfl
theorem Cf.info (C:Cf):(Tryz.prog.info? 86).map (·.size)=some (Cf.cells C).length:=by rw[aOd,Cf.len]
def hdI3 (C:Cf):Nat→Int:=fun i=>if i<16 then C.F i else if i<32 then C.M (i-16)else if i<48 then 0 else C.S (i-48)
def hdZ:HD:=⟨0,0,0,fun _=>0,fun _=>0,0,0,0⟩
def hdB (C:Cf):HD:=⟨2,0,1,hdI3 C,fun _=>0,0,0,0⟩
def tabB (k:Int)(n:Nat):List Int:=objB k (nums (prs (fun _=>0) (fun _=>0) n))
theorem aAu (k:Int)(n:Nat):(tabB k n).length=16+16*n:=by
 unfold tabB
 rw[aBj,aDv]
 unfold padN
 omega
def z272:List Int:=List.replicate 272 0
def Mk.n0 (C:Cf):Mk:=⟨C,hdZ,0,z272,[],[],[]⟩
def Mk.n1 (C:Cf):Mk:=⟨C,hdZ,0,z272++tabB 4 C.ds,[],[],[]⟩
def Mk.n2 (C:Cf):Mk:=⟨C,hdZ,0,z272++tabB 4 C.ds++tabB 5 C.fs,[],[],[]⟩
def hdK (C:Cf):HD:={hdB C with ic:=if C.keyed then 4 else 0}
def hdN (C:Cf)(after:Int):HD:=setN (setN (setN (setN (setN (setN (setN (setN (hdK C) 0 272) 2 288) 3 (16*(C.ds:Int))) 4 (304+16*(C.ds:Int))) 5 (16*(C.fs:Int))) 6 (288+16*(C.ds:Int))) 7 2) 9 after
def Mk.new (C:Cf)(after:Int):Mk:={Mk.n2 C with h:=hdN C after}
def S0:Sl:=⟨.bool false,.slice none 0 0,.slice none 0 0,.slice none 0 0⟩
def p0 (bb cb:Nat):Pl:=⟨bb,cb,none,0,0,none,0,0,.slice none 0 0,[],[]⟩
theorem aNe (C:Cf)(a:Nat):Tryz.prog.built 126 [(0,.agg (Cf.cells C).toArray),(3,.slice (some ⟨a,0,none⟩) 272 272)]=some (Mk.cells (Mk.n0 C) {S0 with b:= .slice (some ⟨a,0,none⟩) 272 272}).toArray:=by kernel_rfl
def setsL:List Value→Nat→List Value→List Value
 |l,_,[]=>l
 |l,o,v::r=>setsL (l.set o v) (o+1) r
theorem aGr: ∀(a:List Value) (l:List Value) (o j:Nat),(setsL l o a)[j]? =if o≤j∧j<o+a.length∧j<l.length then a[j-o]? else l[j]?
 | [],l,o,j=>by
   unfold setsL
   rw[if_neg (by simp;omega)]
 |v::r,l,o,j=>by
  unfold setsL
  rw[aGr r (l.set o v) (o+1) j,List.length_set]
  by_cases h1:o+1≤j∧j<o+1+r.length∧j<l.length
  ·rw[if_pos h1,if_pos (by simp;omega),show j-o=(j-(o+1))+1 by omega,List.getElem?_cons_succ]
  ·rw[if_neg h1,List.getElem?_set]
   by_cases h2:o=j
   ·subst h2
    rw[if_pos rfl]
    by_cases h3:o<l.length
    ·rw[if_pos h3,if_pos (by simp;omega)]
     simp
    ·rw[if_neg h3,if_neg (by omega),List.getElem?_eq_none (by omega)]
   ·rw[if_neg h2,if_neg (by simp;omega)]
theorem aIz {g:Nat}{T:TypeId}: ∀(vs:List Value) (o:Nat) (l:List Value) (w:World),Blk w g l T→Blk (w.setCells g o vs) g (setsL l o vs) T
 | [],o,l,w,h=>h
 |v::r,o,l,w,h=>aIz r (o+1) (l.set o v) _ (h.set_ o v)
theorem aB3 {F:Nat→Prop}{g:Nat}(b:F g){a:World}: ∀(vs:List Value) (o:Nat) (w:World),KeptF F a w→KeptF F a (w.setCells g o vs)
 | [],o,w,h=>h
 |v::r,o,w,h=>aB3 b r (o+1) _ (h.setCell (p:=⟨g,o,none⟩) (fun _=>b) v)
theorem aKN (m:Mk)(S:Sl)(h:HD):setsL (Mk.cells m S) 52 (h.cells 20)=Mk.cells {m with h:=h} S:=by
 apply List.ext_getElem?
 intro j
 rw[aGr,HD.len,Mk.len]
 by_cases a:52≤j∧j<52+(70+20)∧j<147
 ·rw[if_pos a,h.get 20 _ (by omega),Mk.get _ _ _ a.2.2]
  unfold Mk.at_
  rw[if_pos (by omega),if_neg (by omega)]
 ·rw[if_neg a]
  by_cases b:j<147
  ·rw[Mk.get _ _ _ b,Mk.get _ _ _ b]
   exact congrArg some (Nk.aC2 _ _ _ _ rfl rfl fun h3 h4=>by omega)
  ·rw[List.getElem?_eq_none (by rw[Mk.len];omega),List.getElem?_eq_none (by rw[Mk.len];omega)]
theorem set_ic (m:Mk)(S:Sl)(v:Int):(Mk.cells m S).set 53 (.int .u32 v)=Mk.cells {m with h:={m.h with ic:=v}} S:=
 aBo _ _ _ _ _ rfl fun j hj=>Nk.aC2 _ _ _ _ rfl rfl fun h1 h2=>by
  unfold HD.at_
  repeat' split
  all_goals first|rfl|(exfalso;omega)
theorem aP0 (m:Mk)(S:Sl):(Mk.cells m S)[53]? =some (.int .u32 m.h.ic):=by rw[Mk.get m S _ (by decide)];rfl
theorem aNf {w:World}{g:Nat}{T:TypeId}{m:Mk}{S:Sl}(h:Blk w g (Mk.cells m S) T)(o n:Nat)(a:o+n≤147):w.there g o n:=fun j hj=>⟨by rw[h.cell (Mk.get _ _ (o+j) (by omega))];rfl,h.frozen _⟩
theorem MkB.app {w w2:World}{B g l cb a d n k:Nat}{S:Sl}{m:Mk}{c:List Int}(h:MkB w B g l cb S m)(s:m.b.length=n)(t:c.length=k)(r:Own w2 B (some ⟨a,0,none⟩) (n+k) d (m.b++c))(i:w.grownBy w2 (some l))(o:a=l∨a=w.heap.size):
 MkB (w2.setCell ⟨g,143,none⟩ (.slice (some ⟨a,0,none⟩) (n+k) d)) B g a d S {m with b:=m.b++c}:=by
 subst s t
 have f:g≠a:=by
  rcases o with q|q
  ·rw[q];exact h.ne
  ·have:=h.st.lt;omega
 have p:=(aAl h.st i h.ne).set_ 143 (.slice (some ⟨a,0,none⟩) (m.b.length+c.length) d)
 rw[Mk.set_b]at p
 refine⟨?_,?_,f⟩
 ·have e:Mk.cells m {S with b:= .slice (some ⟨a,0,none⟩) (m.b.length+c.length) d}=Mk.cells {m with b:=m.b++c} {S with b:= .slice (some ⟨a,0,none⟩) (m.b++c).length d}:=by
   rw[yA]
   exact Mk.cells_same rfl rfl rfl _
  rw[←e]
  exact p
 ·show Own _ B _ (m.b++c).length d (m.b++c)
  rw[yA]
  exact Kf.Own.keptF r (KeptF.set1 w2 g 143 _) (fun j hj e=>f (by injection hj with hj;exact(e.symm.trans hj.symm)))
theorem at_new {w:World}{B g b cb:Nat}{m:Mk}(h:MkB w B g b cb S0 m)(c:B≤g)(d:m.datas=[])(f:m.fields=[])(e:m.main=[]):At w B g (p0 b cb) m:=
 have a:B≤w.heap.size:=Nat.le_trans c (Nat.le_of_lt h.st.lt)
 {st:=h,dr:=OwnE.nil _ _ a,fr:=OwnE.nil _ _ a,dm:=d.symm,fm:=f.symm
  da:=fun q hq=>by cases hq
  ma:=by rw[e];exact Arr.nil _ _
  dg:=fun k h=>by cases h
  fg:=fun k h=>by cases h
  df:=fun k h=>by cases h
  gB:=c
  fo:=fun q hq=>by cases hq}
theorem aKO:(Tryz.prog.info? 219).map (fun i=>(i.zero,i.size,i.bytes))=some (some (.agg #[.int .u64 0,.int .u64 0]),2,16):=by kernel_rfl
theorem aIA (n j:Nat)(a:j<n*2):(madeCells #[Value.int .u64 0,.int .u64 0] (n*2))[j]? =some (Value.int .u64 0):=by
 unfold madeCells
 rw[Array.getElem?_map,Array.getElem?_range,if_pos a]
 have:j%2=0∨j%2=1:=by omega
 rcases this with h|h
 ·simp[h]
 ·simp[h]
theorem aB4 (n:Nat)(e:n≤1000)(w:World):(Instr.makeSlice 163 (.int .i64 (n:Int)) (.int .i64 (n:Int))).run Tryz.prog w= .ok (.slice (some ⟨w.heap.size,0,none⟩) n n) (w.alloc (.cells (madeCells #[.int .u64 0,.int .u64 0] (n*2)) 219)):=by
 obtain⟨i,c,a⟩:=Option.map_eq_some_iff.1 aKO
 simp only[Prod.mk.injEq]at a
 obtain⟨d,hs,b⟩:=a
 have h:=run_make (P:=Tryz.prog) w 163 219 i _ Tryz.underlying163 c d .i64 .i64 (n:Int) (n:Int) (by omega) (Int.le_refl _) (by rw[b];omega) (by omega)
 rw[hs,Int.toNat_natCast]at h
 exact h
theorem aKP (n:Nat)(w:World):In2 (w.alloc (.cells (madeCells #[.int .u64 0,.int .u64 0] (n*2)) 219)) (some ⟨w.heap.size,0,none⟩) n (fun _=>0) (fun _=>0):=fun i hi=>by
 have h:Blk (w.alloc (.cells (madeCells #[.int .u64 0,.int .u64 0] (n*2)) 219)) w.heap.size (madeCells #[.int .u64 0,.int .u64 0] (n*2)).toList 219:=by
  unfold Blk
  rw[Array.toArray_toList]
  exact heap_alloc_new w _
 exact⟨w.heap.size,0,rfl,by simp,by rw[Nat.zero_add];exact h.cell (by rw[Array.getElem?_toList];exact aIA n (i*2) (by omega)),by rw[Nat.zero_add];exact h.cell (by rw[Array.getElem?_toList];exact aIA n (i*2+1) (by omega)),⟨Int.le_refl _,by show(0:Int)≤18446744073709551615;decide⟩,⟨Int.le_refl _,by show(0:Int)≤18446744073709551615;decide⟩⟩
theorem aKQ (w:World):(Instr.makeSlice 26 (.int .i64 272) (.int .i64 272)).run Tryz.prog w= .ok (.slice (some ⟨w.heap.size,0,none⟩) 272 272) (w.alloc (.cells (Array.replicate 272 (Value.int .u8 0)) 5)):=by
 obtain⟨i,c,a⟩:=Option.map_eq_some_iff.1 aJ3
 simp only[Prod.mk.injEq]at a
 obtain⟨d,hs,b⟩:=a
 have h:=run_make_row (P:=Tryz.prog) 26 5 i (.int .u8 0) Tryz.underlying26 c d hs rfl .i64 .i64 272 (by rw[b];omega) (by omega) w
 have e:madeCells #[Value.int .u8 0] 272=Array.replicate 272 (Value.int .u8 0):=by
  apply Array.ext'
  rw[toList_madeCells_one]
  simp
 rw[e]at h
 exact h
theorem aAG {w:World}{b:Array Oper}{o:Oper}{a:Act}{K:Act→World→Prop}{Q:Exit→Act→World→Prop}{E:Prop}(i:o.guard=none)(s x:Operand)
 (j:o.op= .call {callee:= .builtin .append,args:= #[s,x],argTypes:= #[26,26]})
 (base e n c:Nat)(l:List Int)(hs:a.eval s= .slice (some ⟨e,0,none⟩) n c)(A:Own w base (some ⟨e,0,none⟩) n c l)(M:0<n)(p:Option Addr)(m r:Nat)(f:List Int)(F:a.eval x= .slice p m r)(u:Bytes w p f)(G:f.length=m)(k:n+m≤70368744177664)
 (h: ∀b' d w',Own w' base (some ⟨b',0,none⟩) (n+m) d (l++f)→w.grownBy w' (some e)→(b'=e∨b'=w.heap.size)→K (a.put o.dst (.slice (some ⟨b',0,none⟩) (n+m) d)) w'):
 if Region.wanted o (yielded b a.tmps)=true then Oper.wp Tryz.prog o a w K Q else E:=by
 have z:Region.wanted o (yielded b a.tmps)=true:=by simp[Region.wanted,i]
 rw[if_pos z]
 obtain⟨L,d,w',C,q,t,D⟩:=aCR w o.type base _ n c l A p m r f u G k
 unfold Oper.wp execOp
 simp only[j,resolve,invoke,builtin,Sem.run_bind,Sem.run_pure,Result.andThen_ok,List.map_toArray,List.map_cons,List.map_nil,hs,F,C]
 rcases q.2.2.2.2 with⟨N,I⟩|⟨g,v,y,H,B,J,_⟩
 ·exfalso;omega
 ·injection H with e1 e2 e3
  subst e1
  refine h g d w' q t ?_
  simpa [ownB]using D
def bldM (parts:Array (Nat×Value)):Sem Value:=Instr.build 126 parts
theorem aKR (a:Array (Nat×Value)):Instr.build 126 a=bldM a:=rfl
theorem aNg (C:Cf)(a:Nat)(w:World):(bldM #[(0,.agg (Cf.cells C).toArray),(3,.slice (some ⟨a,0,none⟩) 272 272)]).run Tryz.prog w= .ok (.agg (Mk.cells (Mk.n0 C) {S0 with b:= .slice (some ⟨a,0,none⟩) 272 272}).toArray) w:=by
 unfold bldM
 exact run_build w _ _ _ (aNe C a)
theorem aOR (w0:World)(B:Nat)(C:Cf)(a:B≤w0.heap.size):
 MkB ((w0.alloc (.cells (Array.replicate 272 (Value.int .u8 0)) 5)).alloc (.cells (Mk.cells (Mk.n0 C) {S0 with b:= .slice (some ⟨w0.heap.size,0,none⟩) 272 272}).toArray 126)).drew B (w0.heap.size+1) w0.heap.size 272 S0 (Mk.n0 C):=by
 refine⟨?_,?_,Nat.succ_ne_self _⟩
 ·exact(Blk.new_at _ (Mk.cells (Mk.n0 C) {S0 with b:= .slice (some ⟨w0.heap.size,0,none⟩) 272 272}) _ (w0.heap.size+1) (by simp)).drew
 ·refine Kf.Own.keptF (F:=None') (w:=w0.alloc (.cells (Array.replicate 272 (Value.int .u8 0)) 5)) ?_ ((KeptF.refl _ _).alloc _).drew (fun _ _ h=>h.elim)
  refine⟨AllB.zeros 272,rfl,Nat.le_trans a (by simp),?_⟩
  have h:=World.ownsRow_lit w0 (base:=B) (e:=5) (size:=1) (Array.replicate 272 (Value.int .u8 0)) 272 a (by decide) (by simp)
  have e:(Array.replicate 272 (Value.int .u8 0)).toList=z272.map (Value.int .u8):=by unfold z272;simp
  rw[e]at h
  exact h
theorem aJu {F:Nat→Prop}{w w':World}{g:Nat}{a:List Value}{T:TypeId}(h:Blk w g a T)(b:KeptF F w w')(c: ¬F g):Blk w' g a T:=(b.block g h.lt c).trans h
theorem At.heads {w:World}{B g:Nat}{p:Pl}{m:Mk}(h:At w B g p m)(c:HD):At (w.setCells g 52 (c.cells 20)) B g p {m with h:=c}:=by
 have b:=aB3 (F:=One g) (g:=g) (rfl:g=g) (a:=w) (c.cells 20) 52 w (KeptF.refl _ _)
 refine h.turn (aB3 (F:=p.foot g) (Or.inl rfl) (c.cells 20) 52 w (KeptF.refl _ _)) (fun _ h=> .inl h) ⟨?_,Kf.Own.keptF h.st.own b (fun j hj e=>h.st.ne (by injection hj with hj;exact(e.symm.trans hj.symm))),h.st.ne⟩
  (Mf.OwnE.keptF h.dr b fun j hj e=>(h.dg j hj).1 e) (Mf.OwnE.keptF h.fr b fun j hj e=>(h.fg j hj).1 e)
  h.dm h.fm (fun q hq=> .inl hq) (.inl ⟨rfl,rfl⟩) h.dg h.fg h.df (fun q hq=> .inl hq)
 have:=aIz (c.cells 20) 52 _ _ h.st.st
 rw[aKN]at this
 exact this
attribute [local irreducible] Mk.cells HD.cells Cf.cells wpList Code.wp
attribute [local go_sem ↓] aKR
theorem aDr (C:Cf)(L:Int)(w:World)(aQ:0<C.ds∧C.ds≤64)(aV:0<C.fs∧C.fs≤64):
 Calls Tryz.prog 37 #[.agg (Cf.cells C).toArray,.int .u64 L] w fun e w'=> ∃g,e= .returned (.pointer (some ⟨g,0,none⟩))∧(∃p,At w' w.heap.size g p (Mk.new C L))∧Below w.heap.size w w':=by
 obtain⟨B,hB⟩: ∃x,w.heap.size=x:=⟨_,rfl⟩
 have aF:=yH hB
 have R0:=yH (show Blk (w.alloc (.cells (Cf.cells C).toArray 86)) B (Cf.cells C) 86 from hB▸Blk.new w _ _)
 have b0:=yH (show Below B w (w.alloc (.cells (Cf.cells C).toArray 86))from hB▸(yB w.heap.size w).alloc (yR _) _)
 have s0:=yH (show(w.alloc (.cells (Cf.cells C).toArray 86)).heap.size=B+1 by simp[hB])
 rw[hB]
 go_enter Tryz.func37,Tryz.ntmps37
 go_upto_region 1 with fail
 clear hB
 generalize w.alloc (.cells (Cf.cells C).toArray 86)=w0 at*
 have aK:=yH (show w0.drew.rangeAt B 0 (Cf.cells C)from fun j v hj=>by rw[Nat.zero_add];exact R0.out.cell hj)
 have az:=yH (show((w0.alloc (.cells (Array.replicate 272 (Value.int .u8 0)) 5)).drew).rangeAt B 0 (Cf.cells C)from fun j v hj=>by rw[Nat.zero_add];exact(R0.out.alloc _).cell hj)
 have ay:=yH (show(((w0.alloc (.cells (Array.replicate 272 (Value.int .u8 0)) 5)).alloc (.cells (Mk.cells (Mk.n0 C) {S0 with b:= .slice (some ⟨w0.heap.size,0,none⟩) 272 272}).toArray 126)).drew).rangeAt B 0 (Cf.cells C)from fun j v hj=>by rw[Nat.zero_add];exact((R0.out.alloc _).alloc _).cell hj)
 have aL:=fun W=>aNg C w0.heap.size W
 refine wp_region_noPanic ?_
 refine wp_region_held_drew (S:=fun W:World=>W.rangeAt B 0 (Cf.cells C)) (by kernel_rfl) (by exact aK.out) (fun hHeld=>?_)
 refine tk (i:=0) (oi:=⟨some 7,_,_,_,_,_⟩) rfl (yieldsIf_load_mid (by rfl) _ _ rfl _ _ rfl _ _ (fun _ h=>h) Tryz.underlying86 rfl (Cf.info C)) ?_
 try simp only[Act.put,sA,sZ,sS]
 refine rd 1 rfl (fun K hK=>?_)
 go_simp
 rw[aKQ];skip
 try go_wp2_with fail
 refine hK.out _ _ (by exact az.out) (fun hHeld=>?_)
 clear hK K
 try simp only[Act.put,sA,sZ,sS]
 refine tq 2 9 rfl (fun W hSw=>by go_simp;try (with_reducible rfl)) ?_
 try simp only[Act.put,sA,sZ,sS]
 refine rd 3 rfl (fun K hK=>?_)
 go_simp
 skip
 try go_wp2_with fail
 refine hK.out _ _ (by exact ay.out) (fun hHeld=>?_)
 clear hK K
 try simp only[Act.put,sA,sZ,sS]
 refine tq 4 5 rfl (fun W hSw=>by go_simp;try (with_reducible rfl)) ?_
 try simp only[Act.put,sA,sZ,sS]
 refine wpAnyH_done (by kernel_rfl) ?_ _
 refine NoPanic.normal ?_
 go_upto_region 2 with fail
 have ax:=yH (show MkB _ B (w0.heap.size+1) w0.heap.size 272 S0 (Mk.n0 C)from aOR w0 B C (by rw[s0.out];omega))
 have RC:=yH (show Blk _ B (Cf.cells C) 86 from((R0.out.alloc (.cells (Array.replicate 272 (Value.int .u8 0)) 5)).alloc (.cells (Mk.cells (Mk.n0 C) {S0 with b:= .slice (some ⟨w0.heap.size,0,none⟩) 272 272}).toArray 126)).drew)
 have BB:=yH (show Below B w _ from((b0.out.alloc (o:= .cells (Array.replicate 272 (Value.int .u8 0)) 5) (by rw[s0.out];omega)).alloc (o:= .cells (Mk.cells (Mk.n0 C) {S0 with b:= .slice (some ⟨w0.heap.size,0,none⟩) 272 272}).toArray 126) (by simp[s0.out];omega)).drew)
 clear hHeld aL aK az ay
 generalize ((w0.alloc (.cells (Array.replicate 272 (Value.int .u8 0)) 5)).alloc (.cells (Mk.cells (Mk.n0 C) {S0 with b:= .slice (some ⟨w0.heap.size,0,none⟩) 272 272}).toArray 126)).drew=w1 at*
 have aJ:=s0.out
 clear R0 b0 s0
 generalize w0.heap.size=bb at*
 obtain⟨g,hg⟩: ∃x,bb+1=x:=⟨_,rfl⟩
 have an:B<bb:=by omega
 have aR:B<g:=by omega
 simp only[hg]at ax⊢
 clear hg aJ
 obtain⟨m,hm⟩: ∃x,Mk.n0 C=x:=⟨_,rfl⟩
 have aj:=yH hm
 rw[hm]at ax
 have aW:m.b.length=272:=by rw[←hm];rfl
 clear hm
 have HM:=ax
 obtain⟨n,H⟩: ∃x,m.b.length=x:=⟨_,rfl⟩
 have aC:0<n∧n≤100000:=by omega
 obtain⟨cb,aP⟩: ∃x,272=x:=⟨_,rfl⟩
 rw[aP]at HM
 clear ax aP aW
 have am:w1.drew.cell? ⟨B,48,none⟩=some (.int .i64 (C.ds:Int)):=RC.out.cell (Cf.get_ds C)
 have A:=yH (show MkB ((w1.alloc (.cells (madeCells #[.int .u64 0,.int .u64 0] (C.ds*2)) 219)).drew) B g bb cb S0 m from MkB.below HM.out ((yB _ _).alloc (yR _) _).drew)
 have u:=yH (show Blk ((w1.alloc (.cells (madeCells #[.int .u64 0,.int .u64 0] (C.ds*2)) 219)).drew) B (Cf.cells C) 86 from RC.out.alloc _)
 have ah:=yH (show Below B w ((w1.alloc (.cells (madeCells #[.int .u64 0,.int .u64 0] (C.ds*2)) 219)).drew)from(BB.out.alloc (by have:=HM.out.st.lt;omega) _).drew)
 have ya:w1.drew.cell? ⟨g,143,none⟩=some (.slice (some ⟨bb,0,none⟩) n cb):=H▸HM.out.st.cell (Mk.get_b _ _)
 have yb:((w1.alloc (.cells (madeCells #[.int .u64 0,.int .u64 0] (C.ds*2)) 219)).drew).cell? ⟨g,143,none⟩=some (.slice (some ⟨bb,0,none⟩) n cb):=H▸A.out.st.cell (Mk.get_b _ _)
 have ag:((w1.alloc (.cells (madeCells #[.int .u64 0,.int .u64 0] (C.ds*2)) 219)).drew).cell? ⟨B,48,none⟩=some (.int .i64 (C.ds:Int)):=u.out.cell (Cf.get_ds C)
 have HT:=yH (show Calls Tryz.prog 79 #[.int .i64 4,.slice (some ⟨w1.heap.size,0,none⟩) C.ds C.ds] ((w1.alloc (.cells (madeCells #[.int .u64 0,.int .u64 0] (C.ds*2)) 219)).drew) (Owned (tabB 4 C.ds) (16+16*C.ds+padN (16*C.ds)) ((w1.alloc (.cells (madeCells #[.int .u64 0,.int .u64 0] (C.ds*2)) 219)).drew))from aDm 4 _ _ _ _ _ _ (by decide) (aKP C.ds w1) (by omega))
 have ak:16+16*C.ds+padN (16*C.ds)=16+16*C.ds:=by unfold padN;omega
 rw[ak]at HT
 unfold Owned at HT
 clear ak
 go_cut [5]from 11 to 22 (fun z wx=>z= .pointer (some ⟨g,0,none⟩)∧(∃b1 c1,B<b1∧Hid (MkB wx B g b1 c1 S0 {m with b:=m.b++tabB 4 C.ds}))∧Hid (Blk wx B (Cf.cells C) 86)∧Hid (Below B w wx))
 case first=>
  refine wp_region_noPanic ?_
  refine wp_region_held_drew (S:=fun W:World=>W.cell? ⟨B,48,none⟩=some (.int .i64 (C.ds:Int))) (by kernel_rfl) (by exact am) (fun hHeld=>?_)
  refine tq 0 11 rfl (fun W hSw=>by go_simp;try (with_reducible rfl)) ?_
  try simp only[Act.put,sA,sZ,sS]
  refine tq 1 12 rfl (fun W hSw=>by go_simp;try (with_reducible rfl)) ?_
  try simp only[Act.put,sA,sZ,sS]
  refine tq 2 13 rfl (fun W hSw=>by go_simp;try (with_reducible rfl)) ?_
  try simp only[Act.put,sA,sZ,sS]
  refine tq 3 14 rfl (fun W hSw=>by go_simp;try (with_reducible rfl)) ?_
  try simp only[Act.put,sA,sZ,sS]
  refine tq 5 16 rfl (fun W hSw=>by go_simp;try (with_reducible rfl)) ?_
  try simp only[Act.put,sA,sZ,sS]
  refine tq 6 17 rfl (fun W hSw=>by have aS:=hSw;go_simp;try (with_reducible rfl)) ?_
  try simp only[Act.put,sA,sZ,sS]
  refine wpAnyH_ready (rs:=[4,7]) (by kernel_rfl) (by simp) ?_
  refine AllReadyH.cons (o:=⟨some 15,_,_,_,_,_⟩) rfl (fun K hK=>?_) (AllReadyH.cons (o:=⟨some 18,_,_,_,_,_⟩) rfl (fun K hK=>?_) AllReadyH.nil)
  ·go_simp
   skip
   try go_wp2_with fail
   refine hK.out _ _ (by exact am) (fun hHeld=>?_)
   clear hK K
   try simp only[Act.put,sA,sZ,sS]
   refine rd 7 rfl (fun K hK=>?_)
   go_simp
   rw[aB4 _ (by omega)]
   try go_wp2_with fail
   refine hK.out _ _ (by exact ag) (fun hHeld=>?_)
   clear hK K
   try simp only[Act.put,sA,sZ,sS]
   refine rd 8 rfl (fun K hK=>?_)
   go_simp
   (refine HT.out.mono ?_);rintro e w2 ⟨A2,c2,rfl,D,l⟩;have V:=yH D;have a:=yH (MkB.below A.out l);have t:=yH (u.out.below l u.out.lt);have Z:=yH (ah.out.trans (l.mono (by have:=A.out.st.lt;omega)));have yc:w2.cell? ⟨g,143,none⟩=some (.slice (some ⟨bb,0,none⟩) n cb):=H▸a.out.st.cell (Mk.get_b _ _);have N:w2.cell? ⟨B,48,none⟩=some (.int .i64 (C.ds:Int)):=t.out.cell (Cf.get_ds C);clear D l
   try go_wp2_with fail
   refine hK.out _ _ (by exact N) (fun hHeld=>?_)
   clear hK K
   try simp only[Act.put,sA,sZ,sS]
   refine rd 9 rfl (fun K hK=>?_)
   refine aAG (o:=⟨some 20,_,_,_,_,_⟩) rfl (.tmp 15) (.tmp 19) rfl B bb n cb m.b rfl (H▸a.out.own) (by omega) A2 (16+16*C.ds) c2 (tabB 4 C.ds) rfl V.out.bytes (aAu _ _) (by omega) ?_
   intro b3 c3 w3 y f q
   have X:=yH (MkB.app a.out H (aAu _ _) y f q)
   have aq:B≤bb∧B<bb:=⟨Nat.le_of_lt an,an⟩
   have B3:=yH (Z.out.trans (below_grown f (by have:=a.out.st.lt;omega) (fun k hk=>by injection hk with hk;omega)))
   have R3:=yH (aAl t.out f (by omega))
   have ai:w3.frozen? ⟨g,143,none⟩=false:=(aAl a.out.st f a.out.ne).frozen 143
   have aa:w3.cell? ⟨g,143,none⟩=some (.slice (some ⟨bb,0,none⟩) n cb):=H▸(aAl a.out.st f a.out.ne).cell (Mk.get_b _ _)
   have ac:w3.cell? ⟨B,48,none⟩=some (.int .i64 (C.ds:Int)):=R3.out.cell (Cf.get_ds C)
   have R4:=yH (R3.out.far (p:=⟨g,143,none⟩) (by show B≠g;omega) (.slice (some ⟨b3,0,none⟩) (n+(16+16*C.ds)) c3))
   have Y:=R4.out.cell (Cf.get_ds C)
   have ab:B<b3:=by have h1:=a.out.st.lt;rcases q with h2|h2<;>omega
   clear y f q
   refine hK.out _ _ (by exact ac) (fun hHeld=>?_)
   clear hK K
   try simp only[Act.put,sA,sZ,sS]
   refine tq 10 21 rfl (fun W hSw=>by go_simp;try (with_reducible rfl)) ?_
   try simp only[Act.put,sA,sZ,sS]
   refine tq 11 22 rfl (fun W hSw=>by go_simp;try (with_reducible rfl)) ?_
   try simp only[Act.put,sA,sZ,sS]
   refine rd 12 rfl (fun K hK=>?_)
   go_simp
   skip
   try go_wp2_with fail
   refine hK.out _ _ (by exact Y) (fun hHeld=>?_)
   clear hK K
   try simp only[Act.put,sA,sZ,sS]
   refine wpAnyH_done (by kernel_rfl) ?_ _
   refine NoPanic.normal ?_
   try go_wp2_with fail
   go_meet
   case rel=>exact⟨rfl,⟨_,_,ab,X⟩,R4,yH (B3.out.setCell (p:=⟨g,143,none⟩) (by show B≤g;omega) _)⟩
  ·go_simp
   rw[aB4 _ (by omega)]
   try go_wp2_with fail
   refine hK.out _ _ (by exact ag) (fun hHeld=>?_)
   clear hK K
   try simp only[Act.put,sA,sZ,sS]
   refine wpAnyH_ready (rs:=[4,8]) (by kernel_rfl) (by simp) ?_
   refine AllReadyH.cons (o:=⟨some 15,_,_,_,_,_⟩) rfl (fun K hK=>?_) (AllReadyH.cons (o:=⟨some 19,_,_,_,_,_⟩) rfl (fun K hK=>?_) AllReadyH.nil)
   ·go_simp
    skip
    try go_wp2_with fail
    refine hK.out _ _ (by exact ag) (fun hHeld=>?_)
    clear hK K
    try simp only[Act.put,sA,sZ,sS]
    refine rd 8 rfl (fun K hK=>?_)
    go_simp
    (refine HT.out.mono ?_);rintro e w2 ⟨A2,c2,rfl,D,l⟩;have V:=yH D;have a:=yH (MkB.below A.out l);have t:=yH (u.out.below l u.out.lt);have Z:=yH (ah.out.trans (l.mono (by have:=A.out.st.lt;omega)));have yc:w2.cell? ⟨g,143,none⟩=some (.slice (some ⟨bb,0,none⟩) n cb):=H▸a.out.st.cell (Mk.get_b _ _);have N:w2.cell? ⟨B,48,none⟩=some (.int .i64 (C.ds:Int)):=t.out.cell (Cf.get_ds C);clear D l
    try go_wp2_with fail
    refine hK.out _ _ (by exact N) (fun hHeld=>?_)
    clear hK K
    try simp only[Act.put,sA,sZ,sS]
    refine rd 9 rfl (fun K hK=>?_)
    refine aAG (o:=⟨some 20,_,_,_,_,_⟩) rfl (.tmp 15) (.tmp 19) rfl B bb n cb m.b rfl (H▸a.out.own) (by omega) A2 (16+16*C.ds) c2 (tabB 4 C.ds) rfl V.out.bytes (aAu _ _) (by omega) ?_
    intro b3 c3 w3 y f q
    have X:=yH (MkB.app a.out H (aAu _ _) y f q)
    have aq:B≤bb∧B<bb:=⟨Nat.le_of_lt an,an⟩
    have B3:=yH (Z.out.trans (below_grown f (by have:=a.out.st.lt;omega) (fun k hk=>by injection hk with hk;omega)))
    have R3:=yH (aAl t.out f (by omega))
    have ai:w3.frozen? ⟨g,143,none⟩=false:=(aAl a.out.st f a.out.ne).frozen 143
    have aa:w3.cell? ⟨g,143,none⟩=some (.slice (some ⟨bb,0,none⟩) n cb):=H▸(aAl a.out.st f a.out.ne).cell (Mk.get_b _ _)
    have ac:w3.cell? ⟨B,48,none⟩=some (.int .i64 (C.ds:Int)):=R3.out.cell (Cf.get_ds C)
    have R4:=yH (R3.out.far (p:=⟨g,143,none⟩) (by show B≠g;omega) (.slice (some ⟨b3,0,none⟩) (n+(16+16*C.ds)) c3))
    have Y:=R4.out.cell (Cf.get_ds C)
    have ab:B<b3:=by have h1:=a.out.st.lt;rcases q with h2|h2<;>omega
    clear y f q
    refine hK.out _ _ (by exact ac) (fun hHeld=>?_)
    clear hK K
    try simp only[Act.put,sA,sZ,sS]
    refine tq 10 21 rfl (fun W hSw=>by go_simp;try (with_reducible rfl)) ?_
    try simp only[Act.put,sA,sZ,sS]
    refine tq 11 22 rfl (fun W hSw=>by go_simp;try (with_reducible rfl)) ?_
    try simp only[Act.put,sA,sZ,sS]
    refine rd 12 rfl (fun K hK=>?_)
    go_simp
    skip
    try go_wp2_with fail
    refine hK.out _ _ (by exact Y) (fun hHeld=>?_)
    clear hK K
    try simp only[Act.put,sA,sZ,sS]
    refine wpAnyH_done (by kernel_rfl) ?_ _
    refine NoPanic.normal ?_
    try go_wp2_with fail
    go_meet
    case rel=>exact⟨rfl,⟨_,_,ab,X⟩,R4,yH (B3.out.setCell (p:=⟨g,143,none⟩) (by show B≤g;omega) _)⟩
   ·go_simp
    (refine HT.out.mono ?_);rintro e w2 ⟨A2,c2,rfl,D,l⟩;have V:=yH D;have a:=yH (MkB.below A.out l);have t:=yH (u.out.below l u.out.lt);have Z:=yH (ah.out.trans (l.mono (by have:=A.out.st.lt;omega)));have yc:w2.cell? ⟨g,143,none⟩=some (.slice (some ⟨bb,0,none⟩) n cb):=H▸a.out.st.cell (Mk.get_b _ _);have N:w2.cell? ⟨B,48,none⟩=some (.int .i64 (C.ds:Int)):=t.out.cell (Cf.get_ds C);clear D l
    try go_wp2_with fail
    refine hK.out _ _ (by exact N) (fun hHeld=>?_)
    clear hK K
    try simp only[Act.put,sA,sZ,sS]
    refine rd 4 rfl (fun K hK=>?_)
    go_simp
    skip
    try go_wp2_with fail
    refine hK.out _ _ (by exact N) (fun hHeld=>?_)
    clear hK K
    try simp only[Act.put,sA,sZ,sS]
    refine rd 9 rfl (fun K hK=>?_)
    refine aAG (o:=⟨some 20,_,_,_,_,_⟩) rfl (.tmp 15) (.tmp 19) rfl B bb n cb m.b rfl (H▸a.out.own) (by omega) A2 (16+16*C.ds) c2 (tabB 4 C.ds) rfl V.out.bytes (aAu _ _) (by omega) ?_
    intro b3 c3 w3 y f q
    have X:=yH (MkB.app a.out H (aAu _ _) y f q)
    have aq:B≤bb∧B<bb:=⟨Nat.le_of_lt an,an⟩
    have B3:=yH (Z.out.trans (below_grown f (by have:=a.out.st.lt;omega) (fun k hk=>by injection hk with hk;omega)))
    have R3:=yH (aAl t.out f (by omega))
    have ai:w3.frozen? ⟨g,143,none⟩=false:=(aAl a.out.st f a.out.ne).frozen 143
    have aa:w3.cell? ⟨g,143,none⟩=some (.slice (some ⟨bb,0,none⟩) n cb):=H▸(aAl a.out.st f a.out.ne).cell (Mk.get_b _ _)
    have ac:w3.cell? ⟨B,48,none⟩=some (.int .i64 (C.ds:Int)):=R3.out.cell (Cf.get_ds C)
    have R4:=yH (R3.out.far (p:=⟨g,143,none⟩) (by show B≠g;omega) (.slice (some ⟨b3,0,none⟩) (n+(16+16*C.ds)) c3))
    have Y:=R4.out.cell (Cf.get_ds C)
    have ab:B<b3:=by have h1:=a.out.st.lt;rcases q with h2|h2<;>omega
    clear y f q
    refine hK.out _ _ (by exact ac) (fun hHeld=>?_)
    clear hK K
    try simp only[Act.put,sA,sZ,sS]
    refine tq 10 21 rfl (fun W hSw=>by go_simp;try (with_reducible rfl)) ?_
    try simp only[Act.put,sA,sZ,sS]
    refine tq 11 22 rfl (fun W hSw=>by go_simp;try (with_reducible rfl)) ?_
    try simp only[Act.put,sA,sZ,sS]
    refine rd 12 rfl (fun K hK=>?_)
    go_simp
    skip
    try go_wp2_with fail
    refine hK.out _ _ (by exact Y) (fun hHeld=>?_)
    clear hK K
    try simp only[Act.put,sA,sZ,sS]
    refine wpAnyH_done (by kernel_rfl) ?_ _
    refine NoPanic.normal ?_
    try go_wp2_with fail
    go_meet
    case rel=>exact⟨rfl,⟨_,_,ab,X⟩,R4,yH (B3.out.setCell (p:=⟨g,143,none⟩) (by show B≤g;omega) _)⟩
 case rest=>
  obtain⟨rfl,⟨r,I,R,al⟩,av,ap⟩:=hcut
  rename World=>w5
  clear HM RC BB am A u ah ya yb ag HT aC an
  have HM:=yH (show MkB w5 B g r I S0 (Mk.n1 C)by rw[←aj.out]at al;exact al.out)
  have RC:=av
  have BB:=ap
  clear al av ap H
  clear aj
  obtain⟨m1,hm⟩: ∃x,Mk.n1 C=x:=⟨_,rfl⟩
  have aj:=yH hm
  have aU:m1.b.length=288+16*C.ds:=by rw[←hm];show(z272++tabB 4 C.ds).length=_;rw[yA,aAu];unfold z272;rw[List.length_replicate];omega
  rw[hm]at HM
  clear hm
  obtain⟨s,H⟩: ∃x,m1.b.length=x:=⟨_,rfl⟩
  have aC:0<s∧s≤100000:=by omega
  have aD:s=288+16*C.ds:=by omega
  have aa:w5.cell? ⟨g,143,none⟩=some (.slice (some ⟨r,0,none⟩) s I):=H▸HM.out.st.cell (Mk.get_b _ _)
  have hw:IntKind.u64.wrap (s:Int)=(s:Int):=by rw[IntKind.wrap_u64];omega
  clear aU
  have au:=yH aD
  clear aD
  go_upto_region 4 with fail
  clear aa hw hHeld
  have am:w5.drew.cell? ⟨B,49,none⟩=some (.int .i64 (C.fs:Int)):=RC.out.cell (Cf.get_fs C)
  have A:=yH (show MkB ((w5.alloc (.cells (madeCells #[.int .u64 0,.int .u64 0] (C.fs*2)) 219)).drew) B g r I S0 m1 from MkB.below HM.out ((yB _ _).alloc (yR _) _).drew)
  have u:=yH (show Blk ((w5.alloc (.cells (madeCells #[.int .u64 0,.int .u64 0] (C.fs*2)) 219)).drew) B (Cf.cells C) 86 from RC.out.alloc _)
  have ah:=yH (show Below B w ((w5.alloc (.cells (madeCells #[.int .u64 0,.int .u64 0] (C.fs*2)) 219)).drew)from(BB.out.alloc (by have:=HM.out.st.lt;omega) _).drew)
  have ya:w5.drew.cell? ⟨g,143,none⟩=some (.slice (some ⟨r,0,none⟩) s I):=H▸HM.out.st.cell (Mk.get_b _ _)
  have yb:((w5.alloc (.cells (madeCells #[.int .u64 0,.int .u64 0] (C.fs*2)) 219)).drew).cell? ⟨g,143,none⟩=some (.slice (some ⟨r,0,none⟩) s I):=H▸A.out.st.cell (Mk.get_b _ _)
  have ag:((w5.alloc (.cells (madeCells #[.int .u64 0,.int .u64 0] (C.fs*2)) 219)).drew).cell? ⟨B,49,none⟩=some (.int .i64 (C.fs:Int)):=u.out.cell (Cf.get_fs C)
  have HT:=yH (show Calls Tryz.prog 79 #[.int .i64 5,.slice (some ⟨w5.heap.size,0,none⟩) C.fs C.fs] ((w5.alloc (.cells (madeCells #[.int .u64 0,.int .u64 0] (C.fs*2)) 219)).drew) (Owned (tabB 5 C.fs) (16+16*C.fs+padN (16*C.fs)) ((w5.alloc (.cells (madeCells #[.int .u64 0,.int .u64 0] (C.fs*2)) 219)).drew))from aDm 5 _ _ _ _ _ _ (by decide) (aKP C.fs w5) (by omega))
  have ak:16+16*C.fs+padN (16*C.fs)=16+16*C.fs:=by unfold padN;omega
  rw[ak]at HT
  unfold Owned at HT
  clear ak
  go_cut [5]from 29 to 40 (fun z wx=>z= .pointer (some ⟨g,0,none⟩)∧(∃b1 c1,B<b1∧Hid (MkB wx B g b1 c1 S0 {m1 with b:=m1.b++tabB 5 C.fs}))∧Hid (Blk wx B (Cf.cells C) 86)∧Hid (Below B w wx))
  case first=>
   refine wp_region_noPanic ?_
   refine wp_region_held_drew (S:=fun W:World=>W.cell? ⟨B,49,none⟩=some (.int .i64 (C.fs:Int))) (by kernel_rfl) (by exact am) (fun hHeld=>?_)
   refine tq 0 29 rfl (fun W hSw=>by go_simp;try (with_reducible rfl)) ?_
   try simp only[Act.put,sA,sZ,sS]
   refine tq 1 30 rfl (fun W hSw=>by go_simp;try (with_reducible rfl)) ?_
   try simp only[Act.put,sA,sZ,sS]
   refine tq 2 31 rfl (fun W hSw=>by go_simp;try (with_reducible rfl)) ?_
   try simp only[Act.put,sA,sZ,sS]
   refine tq 3 32 rfl (fun W hSw=>by go_simp;try (with_reducible rfl)) ?_
   try simp only[Act.put,sA,sZ,sS]
   refine tq 5 34 rfl (fun W hSw=>by go_simp;try (with_reducible rfl)) ?_
   try simp only[Act.put,sA,sZ,sS]
   refine tq 6 35 rfl (fun W hSw=>by have aS:=hSw;go_simp;try (with_reducible rfl)) ?_
   try simp only[Act.put,sA,sZ,sS]
   refine wpAnyH_ready (rs:=[4,7]) (by kernel_rfl) (by simp) ?_
   refine AllReadyH.cons (o:=⟨some 33,_,_,_,_,_⟩) rfl (fun K hK=>?_) (AllReadyH.cons (o:=⟨some 36,_,_,_,_,_⟩) rfl (fun K hK=>?_) AllReadyH.nil)
   ·go_simp
    skip
    try go_wp2_with fail
    refine hK.out _ _ (by exact am) (fun hHeld=>?_)
    clear hK K
    try simp only[Act.put,sA,sZ,sS]
    refine rd 7 rfl (fun K hK=>?_)
    go_simp
    rw[aB4 _ (by omega)]
    try go_wp2_with fail
    refine hK.out _ _ (by exact ag) (fun hHeld=>?_)
    clear hK K
    try simp only[Act.put,sA,sZ,sS]
    refine rd 8 rfl (fun K hK=>?_)
    go_simp
    (refine HT.out.mono ?_);rintro e w2 ⟨A2,c2,rfl,D,l⟩;have V:=yH D;have a:=yH (MkB.below A.out l);have t:=yH (u.out.below l u.out.lt);have Z:=yH (ah.out.trans (l.mono (by have:=A.out.st.lt;omega)));have yc:w2.cell? ⟨g,143,none⟩=some (.slice (some ⟨r,0,none⟩) s I):=H▸a.out.st.cell (Mk.get_b _ _);have N:w2.cell? ⟨B,49,none⟩=some (.int .i64 (C.fs:Int)):=t.out.cell (Cf.get_fs C);clear D l
    try go_wp2_with fail
    refine hK.out _ _ (by exact N) (fun hHeld=>?_)
    clear hK K
    try simp only[Act.put,sA,sZ,sS]
    refine rd 9 rfl (fun K hK=>?_)
    refine aAG (o:=⟨some 38,_,_,_,_,_⟩) rfl (.tmp 33) (.tmp 37) rfl B r s I m1.b rfl (H▸a.out.own) (by omega) A2 (16+16*C.fs) c2 (tabB 5 C.fs) rfl V.out.bytes (aAu _ _) (by omega) ?_
    intro b3 c3 w3 y f q
    have X:=yH (MkB.app a.out H (aAu _ _) y f q)
    have aq:B≤r∧B<r:=⟨Nat.le_of_lt R,R⟩
    have B3:=yH (Z.out.trans (below_grown f (by have:=a.out.st.lt;omega) (fun k hk=>by injection hk with hk;omega)))
    have R3:=yH (aAl t.out f (by omega))
    have ai:w3.frozen? ⟨g,143,none⟩=false:=(aAl a.out.st f a.out.ne).frozen 143
    have aa:w3.cell? ⟨g,143,none⟩=some (.slice (some ⟨r,0,none⟩) s I):=H▸(aAl a.out.st f a.out.ne).cell (Mk.get_b _ _)
    have ac:w3.cell? ⟨B,49,none⟩=some (.int .i64 (C.fs:Int)):=R3.out.cell (Cf.get_fs C)
    have R4:=yH (R3.out.far (p:=⟨g,143,none⟩) (by show B≠g;omega) (.slice (some ⟨b3,0,none⟩) (s+(16+16*C.fs)) c3))
    have Y:=R4.out.cell (Cf.get_fs C)
    have ab:B<b3:=by have h1:=a.out.st.lt;rcases q with h2|h2<;>omega
    clear y f q
    refine hK.out _ _ (by exact ac) (fun hHeld=>?_)
    clear hK K
    try simp only[Act.put,sA,sZ,sS]
    refine tq 10 39 rfl (fun W hSw=>by go_simp;try (with_reducible rfl)) ?_
    try simp only[Act.put,sA,sZ,sS]
    refine tq 11 40 rfl (fun W hSw=>by go_simp;try (with_reducible rfl)) ?_
    try simp only[Act.put,sA,sZ,sS]
    refine rd 12 rfl (fun K hK=>?_)
    go_simp
    skip
    try go_wp2_with fail
    refine hK.out _ _ (by exact Y) (fun hHeld=>?_)
    clear hK K
    try simp only[Act.put,sA,sZ,sS]
    refine wpAnyH_done (by kernel_rfl) ?_ _
    refine NoPanic.normal ?_
    try go_wp2_with fail
    go_meet
    case rel=>exact⟨rfl,⟨_,_,ab,X⟩,R4,yH (B3.out.setCell (p:=⟨g,143,none⟩) (by show B≤g;omega) _)⟩
   ·go_simp
    rw[aB4 _ (by omega)]
    try go_wp2_with fail
    refine hK.out _ _ (by exact ag) (fun hHeld=>?_)
    clear hK K
    try simp only[Act.put,sA,sZ,sS]
    refine wpAnyH_ready (rs:=[4,8]) (by kernel_rfl) (by simp) ?_
    refine AllReadyH.cons (o:=⟨some 33,_,_,_,_,_⟩) rfl (fun K hK=>?_) (AllReadyH.cons (o:=⟨some 37,_,_,_,_,_⟩) rfl (fun K hK=>?_) AllReadyH.nil)
    ·go_simp
     skip
     try go_wp2_with fail
     refine hK.out _ _ (by exact ag) (fun hHeld=>?_)
     clear hK K
     try simp only[Act.put,sA,sZ,sS]
     refine rd 8 rfl (fun K hK=>?_)
     go_simp
     (refine HT.out.mono ?_);rintro e w2 ⟨A2,c2,rfl,D,l⟩;have V:=yH D;have a:=yH (MkB.below A.out l);have t:=yH (u.out.below l u.out.lt);have Z:=yH (ah.out.trans (l.mono (by have:=A.out.st.lt;omega)));have yc:w2.cell? ⟨g,143,none⟩=some (.slice (some ⟨r,0,none⟩) s I):=H▸a.out.st.cell (Mk.get_b _ _);have N:w2.cell? ⟨B,49,none⟩=some (.int .i64 (C.fs:Int)):=t.out.cell (Cf.get_fs C);clear D l
     try go_wp2_with fail
     refine hK.out _ _ (by exact N) (fun hHeld=>?_)
     clear hK K
     try simp only[Act.put,sA,sZ,sS]
     refine rd 9 rfl (fun K hK=>?_)
     refine aAG (o:=⟨some 38,_,_,_,_,_⟩) rfl (.tmp 33) (.tmp 37) rfl B r s I m1.b rfl (H▸a.out.own) (by omega) A2 (16+16*C.fs) c2 (tabB 5 C.fs) rfl V.out.bytes (aAu _ _) (by omega) ?_
     intro b3 c3 w3 y f q
     have X:=yH (MkB.app a.out H (aAu _ _) y f q)
     have aq:B≤r∧B<r:=⟨Nat.le_of_lt R,R⟩
     have B3:=yH (Z.out.trans (below_grown f (by have:=a.out.st.lt;omega) (fun k hk=>by injection hk with hk;omega)))
     have R3:=yH (aAl t.out f (by omega))
     have ai:w3.frozen? ⟨g,143,none⟩=false:=(aAl a.out.st f a.out.ne).frozen 143
     have aa:w3.cell? ⟨g,143,none⟩=some (.slice (some ⟨r,0,none⟩) s I):=H▸(aAl a.out.st f a.out.ne).cell (Mk.get_b _ _)
     have ac:w3.cell? ⟨B,49,none⟩=some (.int .i64 (C.fs:Int)):=R3.out.cell (Cf.get_fs C)
     have R4:=yH (R3.out.far (p:=⟨g,143,none⟩) (by show B≠g;omega) (.slice (some ⟨b3,0,none⟩) (s+(16+16*C.fs)) c3))
     have Y:=R4.out.cell (Cf.get_fs C)
     have ab:B<b3:=by have h1:=a.out.st.lt;rcases q with h2|h2<;>omega
     clear y f q
     refine hK.out _ _ (by exact ac) (fun hHeld=>?_)
     clear hK K
     try simp only[Act.put,sA,sZ,sS]
     refine tq 10 39 rfl (fun W hSw=>by go_simp;try (with_reducible rfl)) ?_
     try simp only[Act.put,sA,sZ,sS]
     refine tq 11 40 rfl (fun W hSw=>by go_simp;try (with_reducible rfl)) ?_
     try simp only[Act.put,sA,sZ,sS]
     refine rd 12 rfl (fun K hK=>?_)
     go_simp
     skip
     try go_wp2_with fail
     refine hK.out _ _ (by exact Y) (fun hHeld=>?_)
     clear hK K
     try simp only[Act.put,sA,sZ,sS]
     refine wpAnyH_done (by kernel_rfl) ?_ _
     refine NoPanic.normal ?_
     try go_wp2_with fail
     go_meet
     case rel=>exact⟨rfl,⟨_,_,ab,X⟩,R4,yH (B3.out.setCell (p:=⟨g,143,none⟩) (by show B≤g;omega) _)⟩
    ·go_simp
     (refine HT.out.mono ?_);rintro e w2 ⟨A2,c2,rfl,D,l⟩;have V:=yH D;have a:=yH (MkB.below A.out l);have t:=yH (u.out.below l u.out.lt);have Z:=yH (ah.out.trans (l.mono (by have:=A.out.st.lt;omega)));have yc:w2.cell? ⟨g,143,none⟩=some (.slice (some ⟨r,0,none⟩) s I):=H▸a.out.st.cell (Mk.get_b _ _);have N:w2.cell? ⟨B,49,none⟩=some (.int .i64 (C.fs:Int)):=t.out.cell (Cf.get_fs C);clear D l
     try go_wp2_with fail
     refine hK.out _ _ (by exact N) (fun hHeld=>?_)
     clear hK K
     try simp only[Act.put,sA,sZ,sS]
     refine rd 4 rfl (fun K hK=>?_)
     go_simp
     skip
     try go_wp2_with fail
     refine hK.out _ _ (by exact N) (fun hHeld=>?_)
     clear hK K
     try simp only[Act.put,sA,sZ,sS]
     refine rd 9 rfl (fun K hK=>?_)
     refine aAG (o:=⟨some 38,_,_,_,_,_⟩) rfl (.tmp 33) (.tmp 37) rfl B r s I m1.b rfl (H▸a.out.own) (by omega) A2 (16+16*C.fs) c2 (tabB 5 C.fs) rfl V.out.bytes (aAu _ _) (by omega) ?_
     intro b3 c3 w3 y f q
     have X:=yH (MkB.app a.out H (aAu _ _) y f q)
     have aq:B≤r∧B<r:=⟨Nat.le_of_lt R,R⟩
     have B3:=yH (Z.out.trans (below_grown f (by have:=a.out.st.lt;omega) (fun k hk=>by injection hk with hk;omega)))
     have R3:=yH (aAl t.out f (by omega))
     have ai:w3.frozen? ⟨g,143,none⟩=false:=(aAl a.out.st f a.out.ne).frozen 143
     have aa:w3.cell? ⟨g,143,none⟩=some (.slice (some ⟨r,0,none⟩) s I):=H▸(aAl a.out.st f a.out.ne).cell (Mk.get_b _ _)
     have ac:w3.cell? ⟨B,49,none⟩=some (.int .i64 (C.fs:Int)):=R3.out.cell (Cf.get_fs C)
     have R4:=yH (R3.out.far (p:=⟨g,143,none⟩) (by show B≠g;omega) (.slice (some ⟨b3,0,none⟩) (s+(16+16*C.fs)) c3))
     have Y:=R4.out.cell (Cf.get_fs C)
     have ab:B<b3:=by have h1:=a.out.st.lt;rcases q with h2|h2<;>omega
     clear y f q
     refine hK.out _ _ (by exact ac) (fun hHeld=>?_)
     clear hK K
     try simp only[Act.put,sA,sZ,sS]
     refine tq 10 39 rfl (fun W hSw=>by go_simp;try (with_reducible rfl)) ?_
     try simp only[Act.put,sA,sZ,sS]
     refine tq 11 40 rfl (fun W hSw=>by go_simp;try (with_reducible rfl)) ?_
     try simp only[Act.put,sA,sZ,sS]
     refine rd 12 rfl (fun K hK=>?_)
     go_simp
     skip
     try go_wp2_with fail
     refine hK.out _ _ (by exact Y) (fun hHeld=>?_)
     clear hK K
     try simp only[Act.put,sA,sZ,sS]
     refine wpAnyH_done (by kernel_rfl) ?_ _
     refine NoPanic.normal ?_
     try go_wp2_with fail
     go_meet
     case rel=>exact⟨rfl,⟨_,_,ab,X⟩,R4,yH (B3.out.setCell (p:=⟨g,143,none⟩) (by show B≤g;omega) _)⟩
  case rest=>
   obtain⟨rfl,⟨J,ae,aX,al⟩,av,ap⟩:=hcut
   rename World=>w6
   clear HM RC BB am A u ah ya yb ag HT aC
   have HM:=yH (show MkB w6 B g J ae S0 (Mk.n2 C)by rw[←aj.out]at al;exact al.out)
   have RC:=av
   have BB:=ap
   clear al av ap H aj
   have HA:=yH (at_new HM.out (Nat.le_of_lt aR) rfl rfl rfl)
   have aT:=yH (show Path g (p0 J ae) w6 (p0 J ae) w6 from Path.refl _ _ _)
   have aA:((hdB C).cells 20).toArray.size=90:=by simp[HD.len]
   clear R HM
   go_upto_region 6 with(first
    |((with_reducible apply aAb 43);refine wpList_load_mid rfl 61 (.tmp 42) rfl B 0 rfl (idJ C.F) _ (Cf.range RC.out C.F 0 (by decide) (Cf.at_F C)) Tryz.underlying61 rfl (aBl _) ?_)
    |((with_reducible apply aAb 45);refine wpList_load_mid rfl 61 (.tmp 44) rfl B 16 rfl (idJ C.M) _ (Cf.range RC.out C.M 16 (by decide) (Cf.at_M C)) Tryz.underlying61 rfl (aBl _) ?_)
    |((with_reducible apply aAb 47);refine wpList_load_mid rfl 61 (.tmp 46) rfl B 32 rfl (idJ C.S) _ (Cf.range RC.out C.S 32 (by decide) (Cf.at_S C)) Tryz.underlying61 rfl (aBl _) ?_)
    |((with_reducible apply aAb 48);refine wpList_build_as rfl 123 _ rfl ((hdB C).cells 20).toArray (by kernel_rfl) ?_)
    |((with_reducible apply aAa (.tmp 50) (.tmp 48));refine wpList_store_mid rfl 123 (.tmp 50) (.tmp 48) rfl g 52 ((hdB C).cells 20).toArray rfl rfl (by rw[aA];exact aNf HA.out.st.st 52 90 (by decide)) (by rw[aA];exact aEx) (HD.one _ 20) ?_)
    |fail)
   obtain⟨mm,aB⟩: ∃x,Mk.n2 C=x:=⟨_,rfl⟩
   have aj:=yH aB
   rw[aB]at HA
   clear aB aA
   have HF:=yH (At.heads HA.out (hdB C))
   have HQ:=yH (show Path g (p0 J ae) w6 (p0 J ae) (w6.setCells g 52 ((hdB C).cells 20))from⟨fun _ h=> .inl h,aB3 (Or.inl rfl) _ _ _ (KeptF.refl _ _)⟩)
   generalize w6.setCells g 52 ((hdB C).cells 20)=w7 at*
   have ar:=yH fun(W:World) (hW:Path g (p0 J ae) w6 (p0 J ae) W)=>show Blk W B (Cf.cells C) 86 from aJu RC.out hW.kept (fun h=>by
    rcases h with h|h|h|h
    ·omega
    ·have h:B=J:=h;omega
    ·cases h
    ·cases h)
   clear RC HA aT
   have aw:w7.cell? ⟨B,51,none⟩=some (.bool C.keyed):=(ar.out _ HQ.out).cell (Cf.get_keyed C)
   have ad:IntKind.i64.wrap (16*(C.ds:Int))=16*(C.ds:Int):=by rw[IntKind.wrap_i64];omega
   have af:IntKind.u64.wrap (16*(C.ds:Int))=16*(C.ds:Int):=by rw[IntKind.wrap_u64];omega
   have aI:IntKind.i64.wrap (16*(C.fs:Int))=16*(C.fs:Int):=by rw[IntKind.wrap_i64];omega
   have aN:IntKind.u64.wrap (16*(C.fs:Int))=16*(C.fs:Int):=by rw[IntKind.wrap_u64];omega
   have ao:IntKind.u64.wrap ((s:Int)+16)=(s:Int)+16:=by have:=au.out;rw[IntKind.wrap_u64];omega
   have aG:=yH ad
   have aM:=yH af
   have aE:=yH aI
   have aH:=yH aN
   have aO:=yH ao
   clear ad af aI aN ao aQ aV
   rcases hkd:C.keyed with _|_
   ·have HK:=yH (show hdB C=hdK C from by unfold hdK;rw[hkd];rfl)
    rw[hkd]at aw
    clear hkd
    rw[HK.out]at HF
    go_upto_region 8 with fail
    clear aw
    have E:=At.cN HF.out 0 119 (by decide) rfl
    have G:=At.fz HF.out 119
    go_upto_region 9 with fail
    have d:=yH ((At.setNh _ HF.out 0 119 (by decide) rfl 272))
    have c:=yH ((HQ.out.set 119 (.int .u64 272)))
    clear E G
    generalize w7.setCell ⟨g,119,none⟩ (.int .u64 272)=wn at*
    clear HF HQ
    have HF:=d
    have HQ:=c
    clear d c
    rename World=>wv119
    have E:=At.cN HF.out 2 121 (by decide) rfl
    have G:=At.fz HF.out 121
    go_upto_region 10 with fail
    have d:=yH ((At.setNh _ HF.out 2 121 (by decide) rfl 288))
    have c:=yH ((HQ.out.set 121 (.int .u64 288)))
    clear E G
    generalize wv119.setCell ⟨g,121,none⟩ (.int .u64 288)=wn at*
    clear HF HQ
    have HF:=d
    have HQ:=c
    clear d c
    rename World=>wv121
    have yc:wv121.cell? ⟨B,48,none⟩=some (.int .i64 (C.ds:Int)):=(ar.out _ HQ.out).cell (Cf.get_ds C)
    have ad:=aG.out
    have af:=aM.out
    have E:=At.cN HF.out 3 122 (by decide) rfl
    have G:=At.fz HF.out 122
    go_region
    go_upto_region 11 with fail
    have d:=yH (At.drew (At.setNh _ HF.out 3 122 (by decide) rfl (16*(C.ds:Int))))
    have c:=yH ((HQ.out.set 122 (.int .u64 (16*(C.ds:Int)))).drew)
    clear E G yc ad af
    generalize (wv121.setCell ⟨g,122,none⟩ (.int .u64 (16*(C.ds:Int)))).drew=wn at*
    clear HF HQ
    have HF:=d
    have HQ:=c
    clear d c
    rename World=>wv122
    have ao:=aO.out
    have E:=At.cN HF.out 4 123 (by decide) rfl
    have G:=At.fz HF.out 123
    go_upto_region 12 with fail
    have d:=yH ((At.setNh _ HF.out 4 123 (by decide) rfl ((s:Int)+16)))
    have c:=yH ((HQ.out.set 123 (.int .u64 ((s:Int)+16))))
    clear E G ao
    generalize wv122.setCell ⟨g,123,none⟩ (.int .u64 ((s:Int)+16))=wn at*
    clear HF HQ
    have HF:=d
    have HQ:=c
    clear d c
    rename World=>wv123
    have yc:wv123.cell? ⟨B,49,none⟩=some (.int .i64 (C.fs:Int)):=(ar.out _ HQ.out).cell (Cf.get_fs C)
    have ad:=aE.out
    have af:=aH.out
    have E:=At.cN HF.out 5 124 (by decide) rfl
    have G:=At.fz HF.out 124
    go_region
    go_upto_region 13 with fail
    have d:=yH (At.drew (At.setNh _ HF.out 5 124 (by decide) rfl (16*(C.fs:Int))))
    have c:=yH ((HQ.out.set 124 (.int .u64 (16*(C.fs:Int)))).drew)
    clear E G yc ad af
    generalize (wv123.setCell ⟨g,124,none⟩ (.int .u64 (16*(C.fs:Int)))).drew=wn at*
    clear HF HQ
    have HF:=d
    have HQ:=c
    clear d c
    rename World=>wv124
    have E:=At.cN HF.out 6 125 (by decide) rfl
    have G:=At.fz HF.out 125
    go_upto_region 14 with fail
    have d:=yH ((At.setNh _ HF.out 6 125 (by decide) rfl (s:Int)))
    have c:=yH ((HQ.out.set 125 (.int .u64 (s:Int))))
    clear E G
    generalize wv124.setCell ⟨g,125,none⟩ (.int .u64 (s:Int))=wn at*
    clear HF HQ
    have HF:=d
    have HQ:=c
    clear d c
    rename World=>wv125
    have E:=At.cN HF.out 7 126 (by decide) rfl
    have G:=At.fz HF.out 126
    go_upto_region 15 with fail
    have d:=yH ((At.setNh _ HF.out 7 126 (by decide) rfl 2))
    have c:=yH ((HQ.out.set 126 (.int .u64 2)))
    clear E G
    generalize wv125.setCell ⟨g,126,none⟩ (.int .u64 2)=wn at*
    clear HF HQ
    have HF:=d
    have HQ:=c
    clear d c
    rename World=>wv126
    have E:=At.cN HF.out 9 128 (by decide) rfl
    have G:=At.fz HF.out 128
    go_wp2
    have d:=yH ((At.setNh _ HF.out 9 128 (by decide) rfl L))
    have c:=yH ((HQ.out.set 128 (.int .u64 L)))
    clear E G
    clear HF HQ
    have HF:=d
    have HQ:=c
    clear d c
    go_ret
    have e4:((s:Int)+16)=304+16*(C.ds:Int):=by have:=au.out;omega
    have e6:(s:Int)=288+16*(C.ds:Int):=by have:=au.out;omega
    have hF:=HF.out
    rw[e4,e6,←aj.out]at hF
    exact⟨g,rfl,⟨p0 J ae,hF⟩,BB.out.trans (HQ.out.kept.below (by have:=BB.out.size;have:=aF.out;omega) (fun k h=>by
     rcases h with h|h|h|h
     ·omega
     ·have h:k=J:=h;omega
     ·cases h
     ·cases h))⟩
   ·have HK:=yH (show {hdB C with ic:=4}=hdK C from by unfold hdK;rw[hkd];rfl)
    rw[hkd]at aw
    clear hkd
    have G:=At.fz HF.out 53
    have E:w7.cell? ⟨g,53,none⟩=some (.int .u32 (hdB C).ic):=HF.out.st.st.cell (aP0 _ _)
    go_upto_region 8 with fail
    have d:=yH (show At (w7.setCell ⟨g,53,none⟩ (.int .u32 4)) B g (p0 J ae) {mm with h:=hdK C}from by rw[←HK.out];exact Nk.At.head1 HF.out 53 (.int .u32 4) _ (fun S=>set_ic _ S 4))
    have c:=yH (HQ.out.set 53 (.int .u32 4))
    generalize w7.setCell ⟨g,53,none⟩ (.int .u32 4)=wn at*
    clear HF HQ G E aw
    have HF:=d
    have HQ:=c
    clear d c
    have E:=At.cN HF.out 0 119 (by decide) rfl
    have G:=At.fz HF.out 119
    go_upto_region 9 with fail
    have d:=yH ((At.setNh _ HF.out 0 119 (by decide) rfl 272))
    have c:=yH ((HQ.out.set 119 (.int .u64 272)))
    clear E G
    generalize wn.setCell ⟨g,119,none⟩ (.int .u64 272)=wn at*
    clear HF HQ
    have HF:=d
    have HQ:=c
    clear d c
    rename World=>wv119
    have E:=At.cN HF.out 2 121 (by decide) rfl
    have G:=At.fz HF.out 121
    go_upto_region 10 with fail
    have d:=yH ((At.setNh _ HF.out 2 121 (by decide) rfl 288))
    have c:=yH ((HQ.out.set 121 (.int .u64 288)))
    clear E G
    generalize wv119.setCell ⟨g,121,none⟩ (.int .u64 288)=wn at*
    clear HF HQ
    have HF:=d
    have HQ:=c
    clear d c
    rename World=>wv121
    have yc:wv121.cell? ⟨B,48,none⟩=some (.int .i64 (C.ds:Int)):=(ar.out _ HQ.out).cell (Cf.get_ds C)
    have ad:=aG.out
    have af:=aM.out
    have E:=At.cN HF.out 3 122 (by decide) rfl
    have G:=At.fz HF.out 122
    go_region
    go_upto_region 11 with fail
    have d:=yH (At.drew (At.setNh _ HF.out 3 122 (by decide) rfl (16*(C.ds:Int))))
    have c:=yH ((HQ.out.set 122 (.int .u64 (16*(C.ds:Int)))).drew)
    clear E G yc ad af
    generalize (wv121.setCell ⟨g,122,none⟩ (.int .u64 (16*(C.ds:Int)))).drew=wn at*
    clear HF HQ
    have HF:=d
    have HQ:=c
    clear d c
    rename World=>wv122
    have ao:=aO.out
    have E:=At.cN HF.out 4 123 (by decide) rfl
    have G:=At.fz HF.out 123
    go_upto_region 12 with fail
    have d:=yH ((At.setNh _ HF.out 4 123 (by decide) rfl ((s:Int)+16)))
    have c:=yH ((HQ.out.set 123 (.int .u64 ((s:Int)+16))))
    clear E G ao
    generalize wv122.setCell ⟨g,123,none⟩ (.int .u64 ((s:Int)+16))=wn at*
    clear HF HQ
    have HF:=d
    have HQ:=c
    clear d c
    rename World=>wv123
    have yc:wv123.cell? ⟨B,49,none⟩=some (.int .i64 (C.fs:Int)):=(ar.out _ HQ.out).cell (Cf.get_fs C)
    have ad:=aE.out
    have af:=aH.out
    have E:=At.cN HF.out 5 124 (by decide) rfl
    have G:=At.fz HF.out 124
    go_region
    go_upto_region 13 with fail
    have d:=yH (At.drew (At.setNh _ HF.out 5 124 (by decide) rfl (16*(C.fs:Int))))
    have c:=yH ((HQ.out.set 124 (.int .u64 (16*(C.fs:Int)))).drew)
    clear E G yc ad af
    generalize (wv123.setCell ⟨g,124,none⟩ (.int .u64 (16*(C.fs:Int)))).drew=wn at*
    clear HF HQ
    have HF:=d
    have HQ:=c
    clear d c
    rename World=>wv124
    have E:=At.cN HF.out 6 125 (by decide) rfl
    have G:=At.fz HF.out 125
    go_upto_region 14 with fail
    have d:=yH ((At.setNh _ HF.out 6 125 (by decide) rfl (s:Int)))
    have c:=yH ((HQ.out.set 125 (.int .u64 (s:Int))))
    clear E G
    generalize wv124.setCell ⟨g,125,none⟩ (.int .u64 (s:Int))=wn at*
    clear HF HQ
    have HF:=d
    have HQ:=c
    clear d c
    rename World=>wv125
    have E:=At.cN HF.out 7 126 (by decide) rfl
    have G:=At.fz HF.out 126
    go_upto_region 15 with fail
    have d:=yH ((At.setNh _ HF.out 7 126 (by decide) rfl 2))
    have c:=yH ((HQ.out.set 126 (.int .u64 2)))
    clear E G
    generalize wv125.setCell ⟨g,126,none⟩ (.int .u64 2)=wn at*
    clear HF HQ
    have HF:=d
    have HQ:=c
    clear d c
    rename World=>wv126
    have E:=At.cN HF.out 9 128 (by decide) rfl
    have G:=At.fz HF.out 128
    go_wp2
    have d:=yH ((At.setNh _ HF.out 9 128 (by decide) rfl L))
    have c:=yH ((HQ.out.set 128 (.int .u64 L)))
    clear E G
    clear HF HQ
    have HF:=d
    have HQ:=c
    clear d c
    go_ret
    have e4:((s:Int)+16)=304+16*(C.ds:Int):=by have:=au.out;omega
    have e6:(s:Int)=288+16*(C.ds:Int):=by have:=au.out;omega
    have hF:=HF.out
    rw[e4,e6,←aj.out]at hF
    exact⟨g,rfl,⟨p0 J ae,hF⟩,BB.out.trans (HQ.out.kept.below (by have:=BB.out.size;have:=aF.out;omega) (fun k h=>by
     rcases h with h|h|h|h
     ·omega
     ·have h:k=J:=h;omega
     ·cases h
     ·cases h))⟩
end Np
end Go.Proofs.YteaikbodkgjkdaaGreat
