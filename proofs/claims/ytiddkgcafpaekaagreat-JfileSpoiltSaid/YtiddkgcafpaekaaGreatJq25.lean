/-
  Texts beneath the proof.
-/
import Derived.Test.YtiddkgcafpaekaaGreatJq22
set_option linter.unusedVariables false
set_option linter.unusedSimpArgs false
set_option maxRecDepth 100000
set_option maxHeartbeats 8000000
open Go.ChangeShapes Go.WideShapes Go.ChangeAt Go.RowKit
namespace Go.Proofs.YtiddkgcafpaekaaGreat
namespace Np
open Bytes8 Blk8 Own8 OwnM OwnA OwnE Rows2 Ob Od Ga Ma Kf Mb Mc Md Mf Mg Fa Fb Dc Yc Yk Gb Na Nc Nd Nh Nk Nm No
def Cf.cells (C:Cf):List Value:=(List.range 52).map (Cf.at_ C)
theorem Cf.len (C:Cf):(Cf.cells C).length=52:=by simp[Cf.cells]
theorem Cf.get (C:Cf)(i:Nat)(hi:i<52):(Cf.cells C)[i]? =some (Cf.at_ C i):=by simp[Cf.cells,hi]
theorem Cf.get_ds (C:Cf):(Cf.cells C)[48]? =some (.int .i64 (C.ds:Int)):=by rw[Cf.get C _ (by decide)];rfl
theorem Cf.get_fs (C:Cf):(Cf.cells C)[49]? =some (.int .i64 (C.fs:Int)):=by rw[Cf.get C _ (by decide)];rfl
theorem Cf.get_keyed (C:Cf):(Cf.cells C)[51]? =some (.bool C.keyed):=by rw[Cf.get C _ (by decide)];rfl
abbrev idJ (K:Nat→Int):List Value:=[.int .u8 (K 0),.int .u8 (K 1),.int .u8 (K 2),.int .u8 (K 3),.int .u8 (K 4),.int .u8 (K 5),.int .u8 (K 6),.int .u8 (K 7),.int .u8 (K 8),.int .u8 (K 9),.int .u8 (K 10),.int .u8 (K 11),.int .u8 (K 12),.int .u8 (K 13),.int .u8 (K 14),.int .u8 (K 15)]
theorem idJ_info (K:Nat→Int):(Tryz.prog.info? 37).map (·.size)=some (idJ K).length:=by kernel_rfl
theorem idJ_get (K:Nat→Int)(j:Nat)(hj:j<16):(idJ K)[j]? =some (.int .u8 (K j)):=by
 rcases j with _|_|_|_|_|_|_|_|_|_|_|_|_|_|_|_|j
 all_goals first|rfl|omega
theorem Cf.range {w:World}{g:Nat}{T:TypeId}{C:Cf}(hb:Blk w g (Cf.cells C) T)(K:Nat→Int)(o:Nat)(ho:o+16≤48)(hK: ∀j,j<16→Cf.at_ C (o+j)= .int .u8 (K j)):w.rangeAt g o (idJ K):=fun j v hj=>by
 have hl:j<16:=(List.getElem?_eq_some_iff.1 hj).1
 rw[idJ_get K j hl]at hj
 injection hj with hj
 subst hj
 rw[←hK j hl]
 exact hb.cell (Cf.get C _ (by omega))
theorem Cf.at_F (C:Cf)(j:Nat)(hj:j<16):Cf.at_ C (0+j)= .int .u8 (C.F j):=by unfold Cf.at_;rw[if_pos (by omega),if_pos (by omega),Nat.zero_add]
theorem Cf.at_M (C:Cf)(j:Nat)(hj:j<16):Cf.at_ C (16+j)= .int .u8 (C.M j):=by unfold Cf.at_;rw[if_pos (by omega),if_neg (by omega),if_pos (by omega),Nat.add_sub_cancel_left]
theorem Cf.at_S (C:Cf)(j:Nat)(hj:j<16):Cf.at_ C (32+j)= .int .u8 (C.S j):=by unfold Cf.at_;rw[if_pos (by omega),if_neg (by omega),if_neg (by omega),Nat.add_sub_cancel_left]
theorem cfInfo:(Tryz.prog.info? 101).map (·.size)=some 52:=by kernel_rfl
theorem Cf.info (C:Cf):(Tryz.prog.info? 101).map (·.size)=some (Cf.cells C).length:=by rw[cfInfo,Cf.len]
def hdI3 (C:Cf):Nat→Int:=fun i=>if i<16 then C.F i else if i<32 then C.M (i-16)else if i<48 then 0 else C.S (i-48)
def hdZ:HD:=⟨0,0,0,fun _=>0,fun _=>0,0,0,0⟩
def hdB (C:Cf):HD:=⟨2,0,1,hdI3 C,fun _=>0,0,0,0⟩
def tabB (k:Int)(n:Nat):List Int:=objB k (nums (prs (fun _=>0) (fun _=>0) n))
theorem tabB_len (k:Int)(n:Nat):(tabB k n).length=16+16*n:=by
 unfold tabB
 rw[objB_len,nums_prs_len]
 unfold padN
 omega
def z272:List Int:=List.replicate 272 0
def Mk.n0 (C:Cf):Mk:=⟨C,hdZ,0,z272,[],[],[]⟩
def Mk.n1 (C:Cf):Mk:=⟨C,hdZ,0,z272++tabB 4 C.ds,[],[],[]⟩
def Mk.n2 (C:Cf):Mk:=⟨C,hdZ,0,z272++tabB 4 C.ds++tabB 5 C.fs,[],[],[]⟩
def hdK (C:Cf):HD:={hdB C with ic:=if C.keyed then 4 else 0}
def hdN (C:Cf)(after:Int):HD:=setN (setN (setN (setN (setN (setN (setN (setN (hdK C) 0 272) 2 288) 3 (16*(C.ds:Int))) 4 (304+16*(C.ds:Int))) 5 (16*(C.fs:Int))) 6 (288+16*(C.ds:Int))) 7 2) 9 after
def Mk.new (C:Cf)(after:Int):Mk:={Mk.n2 C with h:=hdN C after}
def S0:Sl:=⟨.bool false,.slice none 0 0,.slice none 0 0,.slice none 0 0⟩
def p0 (bb cb:Nat):Pl:=⟨bb,cb,none,0,0,none,0,0,.slice none 0 0,[],[]⟩
theorem n0_built (C:Cf)(bb:Nat):Tryz.prog.built 168 [(0,.agg (Cf.cells C).toArray),(3,.slice (some ⟨bb,0,none⟩) 272 272)]=some (Mk.cells (Mk.n0 C) {S0 with b:= .slice (some ⟨bb,0,none⟩) 272 272}).toArray:=by kernel_rfl
def setsL:List Value→Nat→List Value→List Value
 |l,_,[]=>l
 |l,o,v::r=>setsL (l.set o v) (o+1) r
theorem setsL_get: ∀(vs:List Value) (l:List Value) (o j:Nat),(setsL l o vs)[j]? =if o≤j∧j<o+vs.length∧j<l.length then vs[j-o]? else l[j]?
 | [],l,o,j=>by
   unfold setsL
   rw[if_neg (by simp;omega)]
 |v::r,l,o,j=>by
  unfold setsL
  rw[setsL_get r (l.set o v) (o+1) j,List.length_set]
  by_cases h1:o+1≤j∧j<o+1+r.length∧j<l.length
  ·rw[if_pos h1,if_pos (by simp;omega),show j-o=(j-(o+1))+1 by omega,List.getElem?_cons_succ]
  ·rw[if_neg h1,List.getElem?_set]
   by_cases h2:o=j
   ·subst h2
    rw[if_pos rfl]
    by_cases h3:o<l.length
    ·rw[if_pos h3,if_pos (by simp;omega)]
     simp
    ·rw[if_neg h3,if_neg (by omega),List.getElem?_eq_none (by omega)]
   ·rw[if_neg h2,if_neg (by simp;omega)]
theorem blk_sets {g:Nat}{T:TypeId}: ∀(vs:List Value) (o:Nat) (l:List Value) (w:World),Blk w g l T→Blk (w.setCells g o vs) g (setsL l o vs) T
 | [],o,l,w,h=>h
 |v::r,o,l,w,h=>blk_sets r (o+1) (l.set o v) _ (h.set_ o v)
theorem keptF_sets {F:Nat→Prop}{g:Nat}(hF:F g){a:World}: ∀(vs:List Value) (o:Nat) (w:World),KeptF F a w→KeptF F a (w.setCells g o vs)
 | [],o,w,h=>h
 |v::r,o,w,h=>keptF_sets hF r (o+1) _ (h.setCell (p:=⟨g,o,none⟩) (fun _=>hF) v)
theorem head_sets (m:Mk)(S:Sl)(h:HD):setsL (Mk.cells m S) 52 (h.cells 20)=Mk.cells {m with h:=h} S:=by
 apply List.ext_getElem?
 intro j
 rw[setsL_get,HD.len,Mk.len]
 by_cases h1:52≤j∧j<52+(70+20)∧j<147
 ·rw[if_pos h1,h.get 20 _ (by omega),Mk.get _ _ _ h1.2.2]
  unfold Mk.at_
  rw[if_pos (by omega),if_neg (by omega)]
 ·rw[if_neg h1]
  by_cases h2:j<147
  ·rw[Mk.get _ _ _ h2,Mk.get _ _ _ h2]
   exact congrArg some (Nk.at_head _ _ _ _ rfl rfl fun h3 h4=>by omega)
  ·rw[List.getElem?_eq_none (by rw[Mk.len];omega),List.getElem?_eq_none (by rw[Mk.len];omega)]
theorem set_ic (m:Mk)(S:Sl)(v:Int):(Mk.cells m S).set 53 (.int .u32 v)=Mk.cells {m with h:={m.h with ic:=v}} S:=
 set_map _ _ _ _ _ rfl fun j hj=>Nk.at_head _ _ _ _ rfl rfl fun h1 h2=>by
  unfold HD.at_
  repeat' split
  all_goals first|rfl|(exfalso;omega)
theorem get_ic (m:Mk)(S:Sl):(Mk.cells m S)[53]? =some (.int .u32 m.h.ic):=by rw[Mk.get m S _ (by decide)];rfl
theorem there_of {w:World}{g:Nat}{T:TypeId}{m:Mk}{S:Sl}(h:Blk w g (Mk.cells m S) T)(o n:Nat)(ho:o+n≤147):w.there g o n:=fun j hj=>⟨by rw[h.cell (Mk.get _ _ (o+j) (by omega))];rfl,h.frozen _⟩
theorem MkB.app {w w2:World}{B g bb cb b' c' n k:Nat}{S:Sl}{m:Mk}{ys:List Int}(h:MkB w B g bb cb S m)(hn:m.b.length=n)(hk:ys.length=k)(ho:Own w2 B (some ⟨b',0,none⟩) (n+k) c' (m.b++ys))(hgr:w.grownBy w2 (some bb))(hat:b'=bb∨b'=w.heap.size):
 MkB (w2.setCell ⟨g,143,none⟩ (.slice (some ⟨b',0,none⟩) (n+k) c')) B g b' c' S {m with b:=m.b++ys}:=by
 subst hn hk
 have hne:g≠b':=by
  rcases hat with h1|h1
  ·rw[h1];exact h.ne
  ·have:=h.st.lt;omega
 have h2:=(blk_grown h.st hgr h.ne).set_ 143 (.slice (some ⟨b',0,none⟩) (m.b.length+ys.length) c')
 rw[Mk.set_b]at h2
 refine⟨?_,?_,hne⟩
 ·have e:Mk.cells m {S with b:= .slice (some ⟨b',0,none⟩) (m.b.length+ys.length) c'}=Mk.cells {m with b:=m.b++ys} {S with b:= .slice (some ⟨b',0,none⟩) (m.b++ys).length c'}:=by
   rw[List.length_append]
   exact Mk.cells_same rfl rfl rfl _
  rw[←e]
  exact h2
 ·show Own _ B _ (m.b++ys).length c' (m.b++ys)
  rw[List.length_append]
  exact Kf.Own.keptF ho (KeptF.set1 w2 g 143 _) (fun j hj e=>hne (by injection hj with hj;exact(e.symm.trans hj.symm)))
theorem at_new {w:World}{B g bb cb:Nat}{m:Mk}(h:MkB w B g bb cb S0 m)(hB:B≤g)(hd:m.datas=[])(hf:m.fields=[])(hm:m.main=[]):At w B g (p0 bb cb) m:=
 have hw:B≤w.heap.size:=Nat.le_trans hB (Nat.le_of_lt h.st.lt)
 {st:=h,dr:=OwnE.nil _ _ hw,fr:=OwnE.nil _ _ hw,dm:=hd.symm,fm:=hf.symm
  da:=fun q hq=>by cases hq
  ma:=by rw[hm];exact Arr.nil _ _
  dg:=fun k h=>by cases h
  fg:=fun k h=>by cases h
  df:=fun k h=>by cases h
  gB:=hB
  fo:=fun q hq=>by cases hq}
theorem info_slot:(Tryz.prog.info? 226).map (fun i=>(i.zero,i.size,i.bytes))=some (some (.agg #[.int .u64 0,.int .u64 0]),2,16):=by kernel_rfl
theorem made_get (n j:Nat)(hj:j<n*2):(madeCells #[Value.int .u64 0,.int .u64 0] (n*2))[j]? =some (Value.int .u64 0):=by
 unfold madeCells
 rw[Array.getElem?_map,Array.getElem?_range,if_pos hj]
 have:j%2=0∨j%2=1:=by omega
 rcases this with h|h
 ·simp[h]
 ·simp[h]
theorem make_slots (n:Nat)(hn:n≤1000)(w:World):(Instr.makeSlice 125 (.int .i64 (n:Int)) (.int .i64 (n:Int))).run Tryz.prog w= .ok (.slice (some ⟨w.heap.size,0,none⟩) n n) (w.alloc (.cells (madeCells #[.int .u64 0,.int .u64 0] (n*2)) 226)):=by
 obtain⟨i,hi,hzz⟩:=Option.map_eq_some_iff.1 info_slot
 simp only[Prod.mk.injEq]at hzz
 obtain⟨hz,hs,hb⟩:=hzz
 have h:=run_make (P:=Tryz.prog) w 125 226 i _ Tryz.underlying125 hi hz .i64 .i64 (n:Int) (n:Int) (by omega) (Int.le_refl _) (by rw[hb];omega) (by omega)
 rw[hs,Int.toNat_natCast]at h
 exact h
theorem in2_new (n:Nat)(w:World):In2 (w.alloc (.cells (madeCells #[.int .u64 0,.int .u64 0] (n*2)) 226)) (some ⟨w.heap.size,0,none⟩) n (fun _=>0) (fun _=>0):=fun i hi=>by
 have h:Blk (w.alloc (.cells (madeCells #[.int .u64 0,.int .u64 0] (n*2)) 226)) w.heap.size (madeCells #[.int .u64 0,.int .u64 0] (n*2)).toList 226:=by
  unfold Blk
  rw[Array.toArray_toList]
  exact heap_alloc_new w _
 exact⟨w.heap.size,0,rfl,by simp,by rw[Nat.zero_add];exact h.cell (by rw[Array.getElem?_toList];exact made_get n (i*2) (by omega)),by rw[Nat.zero_add];exact h.cell (by rw[Array.getElem?_toList];exact made_get n (i*2+1) (by omega)),⟨Int.le_refl _,by show(0:Int)≤18446744073709551615;decide⟩,⟨Int.le_refl _,by show(0:Int)≤18446744073709551615;decide⟩⟩
theorem make_z272 (w:World):(Instr.makeSlice 24 (.int .i64 272) (.int .i64 272)).run Tryz.prog w= .ok (.slice (some ⟨w.heap.size,0,none⟩) 272 272) (w.alloc (.cells (Array.replicate 272 (Value.int .u8 0)) 5)):=by
 obtain⟨i,hi,hzz⟩:=Option.map_eq_some_iff.1 info8
 simp only[Prod.mk.injEq]at hzz
 obtain⟨hz,hs,hb⟩:=hzz
 have h:=run_make_row (P:=Tryz.prog) 24 5 i (.int .u8 0) Tryz.underlying24 hi hz hs rfl .i64 .i64 272 (by rw[hb];omega) (by omega) w
 have e:madeCells #[Value.int .u8 0] 272=Array.replicate 272 (Value.int .u8 0):=by
  apply Array.ext'
  rw[toList_madeCells_one]
  simp
 rw[e]at h
 exact h
theorem step_append_g {w:World}{ops:Array Oper}{o:Oper}{a:Act}{K:Act→World→Prop}{Q:Exit→Act→World→Prop}{E:Prop}(hgd:o.guard=none)(s x:Operand)
 (hop:o.op= .call {callee:= .builtin .append,args:= #[s,x],argTypes:= #[24,24]})
 (base bb n c:Nat)(l:List Int)(hs:a.eval s= .slice (some ⟨bb,0,none⟩) n c)(ho:Own w base (some ⟨bb,0,none⟩) n c l)(hn:0<n)(A2:Option Addr)(m c2:Nat)(ys:List Int)(hx:a.eval x= .slice A2 m c2)(hb:Bytes w A2 ys)(hm:ys.length=m)(hsz:n+m≤70368744177664)
 (h: ∀b' c' w',Own w' base (some ⟨b',0,none⟩) (n+m) c' (l++ys)→w.grownBy w' (some bb)→(b'=bb∨b'=w.heap.size)→K (a.put o.dst (.slice (some ⟨b',0,none⟩) (n+m) c')) w'):
 if Region.wanted o (yielded ops a.tmps)=true then Oper.wp Tryz.prog o a w K Q else E:=by
 have hw:Region.wanted o (yielded ops a.tmps)=true:=by simp[Region.wanted,hgd]
 rw[if_pos hw]
 obtain⟨A',c',w',hr,h1,h2,h3⟩:=run_append_at w o.type base _ n c l ho A2 m c2 ys hb hm hsz
 unfold Oper.wp execOp
 simp only[hop,resolve,invoke,builtin,Sem.run_bind,Sem.run_pure,Result.andThen_ok,List.map_toArray,List.map_cons,List.map_nil,hs,hx,hr]
 rcases h1.2.2.2.2 with⟨he,h0⟩|⟨g,cap,cur,hv,hbg,hg,_⟩
 ·exfalso;omega
 ·injection hv with e1 e2 e3
  subst e1
  refine h g c' w' h1 h2 ?_
  simpa [ownB]using h3
def bldM (parts:Array (Nat×Value)):Sem Value:=Instr.build 168 parts
theorem bldM_fold (parts:Array (Nat×Value)):Instr.build 168 parts=bldM parts:=rfl
theorem build_mk (C:Cf)(bb:Nat)(w:World):(bldM #[(0,.agg (Cf.cells C).toArray),(3,.slice (some ⟨bb,0,none⟩) 272 272)]).run Tryz.prog w= .ok (.agg (Mk.cells (Mk.n0 C) {S0 with b:= .slice (some ⟨bb,0,none⟩) 272 272}).toArray) w:=by
 unfold bldM
 exact run_build w _ _ _ (n0_built C bb)
theorem n0_made (w0:World)(B:Nat)(C:Cf)(hB:B≤w0.heap.size):
 MkB ((w0.alloc (.cells (Array.replicate 272 (Value.int .u8 0)) 5)).alloc (.cells (Mk.cells (Mk.n0 C) {S0 with b:= .slice (some ⟨w0.heap.size,0,none⟩) 272 272}).toArray 168)).drew B (w0.heap.size+1) w0.heap.size 272 S0 (Mk.n0 C):=by
 refine⟨?_,?_,Nat.succ_ne_self _⟩
 ·exact(Blk.new_at _ (Mk.cells (Mk.n0 C) {S0 with b:= .slice (some ⟨w0.heap.size,0,none⟩) 272 272}) _ (w0.heap.size+1) (by simp)).drew
 ·refine Kf.Own.keptF (F:=None') (w:=w0.alloc (.cells (Array.replicate 272 (Value.int .u8 0)) 5)) ?_ ((KeptF.refl _ _).alloc _).drew (fun _ _ h=>h.elim)
  refine⟨AllB.zeros 272,rfl,Nat.le_trans hB (by simp),?_⟩
  have h:=World.ownsRow_lit w0 (base:=B) (e:=5) (size:=1) (Array.replicate 272 (Value.int .u8 0)) 272 hB (by decide) (by simp)
  have e:(Array.replicate 272 (Value.int .u8 0)).toList=z272.map (Value.int .u8):=by unfold z272;simp
  rw[e]at h
  exact h
theorem blk_keptF' {F:Nat→Prop}{w w':World}{g:Nat}{vs:List Value}{T:TypeId}(h:Blk w g vs T)(hk:KeptF F w w')(hF: ¬F g):Blk w' g vs T:=(hk.block g h.lt hF).trans h
theorem At.heads {w:World}{B g:Nat}{p:Pl}{m:Mk}(h:At w B g p m)(hd:HD):At (w.setCells g 52 (hd.cells 20)) B g p {m with h:=hd}:=by
 have hk1:=keptF_sets (F:=One g) (g:=g) (rfl:g=g) (a:=w) (hd.cells 20) 52 w (KeptF.refl _ _)
 refine h.turn (keptF_sets (F:=p.foot g) (Or.inl rfl) (hd.cells 20) 52 w (KeptF.refl _ _)) (fun _ h=> .inl h) ⟨?_,Kf.Own.keptF h.st.own hk1 (fun j hj e=>h.st.ne (by injection hj with hj;exact(e.symm.trans hj.symm))),h.st.ne⟩
  (Mf.OwnE.keptF h.dr hk1 fun j hj e=>(h.dg j hj).1 e) (Mf.OwnE.keptF h.fr hk1 fun j hj e=>(h.fg j hj).1 e)
  h.dm h.fm (fun q hq=> .inl hq) (.inl ⟨rfl,rfl⟩) h.dg h.fg h.df (fun q hq=> .inl hq)
 have:=blk_sets (hd.cells 20) 52 _ _ h.st.st
 rw[head_sets]at this
 exact this
attribute [local irreducible] Mk.cells HD.cells Cf.cells wpList Code.wp
attribute [local go_sem ↓] bldM_fold
theorem newmaker_any (C:Cf)(after:Int)(w:World)(hds:0<C.ds∧C.ds≤64)(hfs:0<C.fs∧C.fs≤64):
 Calls Tryz.prog 46 #[.agg (Cf.cells C).toArray,.int .u64 after] w fun e w'=> ∃g,e= .returned (.pointer (some ⟨g,0,none⟩))∧(∃p,At w' w.heap.size g p (Mk.new C after))∧Below w.heap.size w w':=by
 obtain⟨B,hB⟩: ∃x,w.heap.size=x:=⟨_,rfl⟩
 have HBw:=yH hB
 have R0:=yH (show Blk (w.alloc (.cells (Cf.cells C).toArray 101)) B (Cf.cells C) 101 from hB▸Blk.new w _ _)
 have b0:=yH (show Below B w (w.alloc (.cells (Cf.cells C).toArray 101))from hB▸(Below.refl w.heap.size w).alloc (yR _) _)
 have s0:=yH (show(w.alloc (.cells (Cf.cells C).toArray 101)).heap.size=B+1 by simp[hB])
 rw[hB]
 go_enter Tryz.func46,Tryz.ntmps46
 go_upto_region 1 with fail
 clear hB
 generalize w.alloc (.cells (Cf.cells C).toArray 101)=w0 at*
 have HRg:=yH (show w0.drew.rangeAt B 0 (Cf.cells C)from fun j v hj=>by rw[Nat.zero_add];exact R0.out.cell hj)
 have HRg2:=yH (show((w0.alloc (.cells (Array.replicate 272 (Value.int .u8 0)) 5)).drew).rangeAt B 0 (Cf.cells C)from fun j v hj=>by rw[Nat.zero_add];exact(R0.out.alloc _).cell hj)
 have HRg3:=yH (show(((w0.alloc (.cells (Array.replicate 272 (Value.int .u8 0)) 5)).alloc (.cells (Mk.cells (Mk.n0 C) {S0 with b:= .slice (some ⟨w0.heap.size,0,none⟩) 272 272}).toArray 168)).drew).rangeAt B 0 (Cf.cells C)from fun j v hj=>by rw[Nat.zero_add];exact((R0.out.alloc _).alloc _).cell hj)
 have hbld:=fun W=>build_mk C w0.heap.size W
 refine wp_region_noPanic ?_
 refine wp_region_held_drew (S:=fun W:World=>W.rangeAt B 0 (Cf.cells C)) (by kernel_rfl) (by exact HRg.out) (fun hHeld=>?_)
 refine tk (i:=0) (oi:=⟨some 7,_,_,_,_,_⟩) rfl (yieldsIf_load_mid (by rfl) _ _ rfl _ _ rfl _ _ (fun _ h=>h) Tryz.underlying101 rfl (Cf.info C)) ?_
 try simp only[Act.put,sA,sZ,sS]
 refine wpAnyH_ready (rs:=[1]) (by kernel_rfl) (by simp) ?_
 refine AllReadyH.cons (o:=⟨some 8,_,_,_,_,_⟩) rfl (fun K hK=>?_) AllReadyH.nil
 go_simp
 rw[make_z272];skip
 try go_wp2_with fail
 refine hK.out _ _ (by exact HRg2.out) (fun hHeld=>?_)
 clear hK K
 try simp only[Act.put,sA,sZ,sS]
 refine tk (i:=2) (oi:=⟨some 9,_,_,_,_,_⟩) (v:=?_) rfl (Or.inl ⟨by rfl,?_⟩) ?_
 rotate_left
 ·intro W hSw;go_simp;try (with_reducible rfl)
 try simp only[Act.put,sA,sZ,sS]
 refine wpAnyH_ready (rs:=[3]) (by kernel_rfl) (by simp) ?_
 refine AllReadyH.cons (o:=⟨some 10,_,_,_,_,_⟩) rfl (fun K hK=>?_) AllReadyH.nil
 go_simp
 skip
 try go_wp2_with fail
 refine hK.out _ _ (by exact HRg3.out) (fun hHeld=>?_)
 clear hK K
 try simp only[Act.put,sA,sZ,sS]
 refine tk (i:=4) (oi:=⟨some 5,_,_,_,_,_⟩) (v:=?_) rfl (Or.inl ⟨by rfl,?_⟩) ?_
 rotate_left
 ·intro W hSw;go_simp;try (with_reducible rfl)
 try simp only[Act.put,sA,sZ,sS]
 refine wpAnyH_done (by kernel_rfl) ?_ _
 refine NoPanic.normal ?_
 go_upto_region 2 with fail
 have HM1:=yH (show MkB _ B (w0.heap.size+1) w0.heap.size 272 S0 (Mk.n0 C)from n0_made w0 B C (by rw[s0.out];omega))
 have RC:=yH (show Blk _ B (Cf.cells C) 101 from((R0.out.alloc (.cells (Array.replicate 272 (Value.int .u8 0)) 5)).alloc (.cells (Mk.cells (Mk.n0 C) {S0 with b:= .slice (some ⟨w0.heap.size,0,none⟩) 272 272}).toArray 168)).drew)
 have BB:=yH (show Below B w _ from((b0.out.alloc (o:= .cells (Array.replicate 272 (Value.int .u8 0)) 5) (by rw[s0.out];omega)).alloc (o:= .cells (Mk.cells (Mk.n0 C) {S0 with b:= .slice (some ⟨w0.heap.size,0,none⟩) 272 272}).toArray 168) (by simp[s0.out];omega)).drew)
 clear hHeld hbld HRg HRg2 HRg3
 generalize ((w0.alloc (.cells (Array.replicate 272 (Value.int .u8 0)) 5)).alloc (.cells (Mk.cells (Mk.n0 C) {S0 with b:= .slice (some ⟨w0.heap.size,0,none⟩) 272 272}).toArray 168)).drew=w1 at*
 have hbbB:=s0.out
 clear R0 b0 s0
 generalize w0.heap.size=bb at*
 obtain⟨g,hg⟩: ∃x,bb+1=x:=⟨_,rfl⟩
 have hBb:B<bb:=by omega
 have hBg:B<g:=by omega
 simp only[hg]at HM1⊢
 clear hg hbbB
 obtain⟨m,hm⟩: ∃x,Mk.n0 C=x:=⟨_,rfl⟩
 have HMm:=yH hm
 rw[hm]at HM1
 have hn7:m.b.length=272:=by rw[←hm];rfl
 clear hm
 have HM:=HM1
 obtain⟨n,hn⟩: ∃x,m.b.length=x:=⟨_,rfl⟩
 have hnp:0<n∧n≤100000:=by omega
 obtain⟨cb,hcb⟩: ∃x,272=x:=⟨_,rfl⟩
 rw[hcb]at HM
 clear HM1 hcb hn7
 have y48:w1.drew.cell? ⟨B,48,none⟩=some (.int .i64 (C.ds:Int)):=RC.out.cell (Cf.get_ds C)
 have HMa:=yH (show MkB ((w1.alloc (.cells (madeCells #[.int .u64 0,.int .u64 0] (C.ds*2)) 226)).drew) B g bb cb S0 m from MkB.below HM.out ((Below.refl _ _).alloc (yR _) _).drew)
 have RCa:=yH (show Blk ((w1.alloc (.cells (madeCells #[.int .u64 0,.int .u64 0] (C.ds*2)) 226)).drew) B (Cf.cells C) 101 from RC.out.alloc _)
 have BBa:=yH (show Below B w ((w1.alloc (.cells (madeCells #[.int .u64 0,.int .u64 0] (C.ds*2)) 226)).drew)from(BB.out.alloc (by have:=HM.out.st.lt;omega) _).drew)
 have ya:w1.drew.cell? ⟨g,143,none⟩=some (.slice (some ⟨bb,0,none⟩) n cb):=hn▸HM.out.st.cell (Mk.get_b _ _)
 have yb:((w1.alloc (.cells (madeCells #[.int .u64 0,.int .u64 0] (C.ds*2)) 226)).drew).cell? ⟨g,143,none⟩=some (.slice (some ⟨bb,0,none⟩) n cb):=hn▸HMa.out.st.cell (Mk.get_b _ _)
 have k48:((w1.alloc (.cells (madeCells #[.int .u64 0,.int .u64 0] (C.ds*2)) 226)).drew).cell? ⟨B,48,none⟩=some (.int .i64 (C.ds:Int)):=RCa.out.cell (Cf.get_ds C)
 have HT:=yH (show Calls Tryz.prog 95 #[.int .i64 4,.slice (some ⟨w1.heap.size,0,none⟩) C.ds C.ds] ((w1.alloc (.cells (madeCells #[.int .u64 0,.int .u64 0] (C.ds*2)) 226)).drew) (Owned (tabB 4 C.ds) (16+16*C.ds+padN (16*C.ds)) ((w1.alloc (.cells (madeCells #[.int .u64 0,.int .u64 0] (C.ds*2)) 226)).drew))from rputTable_at 4 _ _ _ _ _ _ (by decide) (in2_new C.ds w1) (by omega))
 have hpad:16+16*C.ds+padN (16*C.ds)=16+16*C.ds:=by unfold padN;omega
 rw[hpad]at HT
 unfold Owned at HT
 clear hpad
 go_cut [5]from 11 to 22 (fun z wx=>z= .pointer (some ⟨g,0,none⟩)∧(∃b1 c1,B<b1∧Hid (MkB wx B g b1 c1 S0 {m with b:=m.b++tabB 4 C.ds}))∧Hid (Blk wx B (Cf.cells C) 101)∧Hid (Below B w wx))
 case first=>
  refine wp_region_noPanic ?_
  refine wp_region_held_drew (S:=fun W:World=>W.cell? ⟨B,48,none⟩=some (.int .i64 (C.ds:Int))) (by kernel_rfl) (by exact y48) (fun hHeld=>?_)
  refine tk (i:=0) (oi:=⟨some 11,_,_,_,_,_⟩) (v:=?_) rfl (Or.inl ⟨by rfl,?_⟩) ?_
  rotate_left
  ·intro W hSw;go_simp;try (with_reducible rfl)
  try simp only[Act.put,sA,sZ,sS]
  refine tk (i:=1) (oi:=⟨some 12,_,_,_,_,_⟩) (v:=?_) rfl (Or.inl ⟨by rfl,?_⟩) ?_
  rotate_left
  ·intro W hSw;go_simp;try (with_reducible rfl)
  try simp only[Act.put,sA,sZ,sS]
  refine tk (i:=2) (oi:=⟨some 13,_,_,_,_,_⟩) (v:=?_) rfl (Or.inl ⟨by rfl,?_⟩) ?_
  rotate_left
  ·intro W hSw;go_simp;try (with_reducible rfl)
  try simp only[Act.put,sA,sZ,sS]
  refine tk (i:=3) (oi:=⟨some 14,_,_,_,_,_⟩) (v:=?_) rfl (Or.inl ⟨by rfl,?_⟩) ?_
  rotate_left
  ·intro W hSw;go_simp;try (with_reducible rfl)
  try simp only[Act.put,sA,sZ,sS]
  refine tk (i:=5) (oi:=⟨some 16,_,_,_,_,_⟩) (v:=?_) rfl (Or.inl ⟨by rfl,?_⟩) ?_
  rotate_left
  ·intro W hSw;go_simp;try (with_reducible rfl)
  try simp only[Act.put,sA,sZ,sS]
  refine tk (i:=6) (oi:=⟨some 17,_,_,_,_,_⟩) (v:=?_) rfl (Or.inl ⟨by rfl,?_⟩) ?_
  rotate_left
  ·intro W hSw;have hSx:=hSw;go_simp;try (with_reducible rfl)
  try simp only[Act.put,sA,sZ,sS]
  refine wpAnyH_ready (rs:=[4,7]) (by kernel_rfl) (by simp) ?_
  refine AllReadyH.cons (o:=⟨some 15,_,_,_,_,_⟩) rfl (fun K hK=>?_) (AllReadyH.cons (o:=⟨some 18,_,_,_,_,_⟩) rfl (fun K hK=>?_) AllReadyH.nil)
  ·go_simp
   skip
   try go_wp2_with fail
   refine hK.out _ _ (by exact y48) (fun hHeld=>?_)
   clear hK K
   try simp only[Act.put,sA,sZ,sS]
   refine wpAnyH_ready (rs:=[7]) (by kernel_rfl) (by simp) ?_
   refine AllReadyH.cons (o:=⟨some 18,_,_,_,_,_⟩) rfl (fun K hK=>?_) AllReadyH.nil
   go_simp
   rw[make_slots _ (by omega)]
   try go_wp2_with fail
   refine hK.out _ _ (by exact k48) (fun hHeld=>?_)
   clear hK K
   try simp only[Act.put,sA,sZ,sS]
   refine wpAnyH_ready (rs:=[8]) (by kernel_rfl) (by simp) ?_
   refine AllReadyH.cons (o:=⟨some 19,_,_,_,_,_⟩) rfl (fun K hK=>?_) AllReadyH.nil
   go_simp
   (refine HT.out.mono ?_);rintro e w2 ⟨A2,c2,rfl,ho2,hb2⟩;have HO2:=yH ho2;have HM2:=yH (MkB.below HMa.out hb2);have RC2:=yH (RCa.out.below hb2 RCa.out.lt);have BB2:=yH (BBa.out.trans (hb2.mono (by have:=HMa.out.st.lt;omega)));have yc:w2.cell? ⟨g,143,none⟩=some (.slice (some ⟨bb,0,none⟩) n cb):=hn▸HM2.out.st.cell (Mk.get_b _ _);have q48:w2.cell? ⟨B,48,none⟩=some (.int .i64 (C.ds:Int)):=RC2.out.cell (Cf.get_ds C);clear ho2 hb2
   try go_wp2_with fail
   refine hK.out _ _ (by exact q48) (fun hHeld=>?_)
   clear hK K
   try simp only[Act.put,sA,sZ,sS]
   refine wpAnyH_ready (rs:=[9]) (by kernel_rfl) (by simp) ?_
   refine AllReadyH.cons (o:=⟨some 20,_,_,_,_,_⟩) rfl (fun K hK=>?_) AllReadyH.nil
   refine step_append_g (o:=⟨some 20,_,_,_,_,_⟩) rfl (.tmp 15) (.tmp 19) rfl B bb n cb m.b rfl (hn▸HM2.out.own) (by omega) A2 (16+16*C.ds) c2 (tabB 4 C.ds) rfl HO2.out.bytes (tabB_len _ _) (by omega) ?_
   intro b3 c3 w3 ho3 hg3 ha3
   have HM3:=yH (MkB.app HM2.out hn (tabB_len _ _) ho3 hg3 ha3)
   have hbb:B≤bb∧B<bb:=⟨Nat.le_of_lt hBb,hBb⟩
   have B3:=yH (BB2.out.trans (below_grown hg3 (by have:=HM2.out.st.lt;omega) (fun k hk=>by injection hk with hk;omega)))
   have R3:=yH (blk_grown RC2.out hg3 (by omega))
   have z143:w3.frozen? ⟨g,143,none⟩=false:=(blk_grown HM2.out.st hg3 HM2.out.ne).frozen 143
   have y143:w3.cell? ⟨g,143,none⟩=some (.slice (some ⟨bb,0,none⟩) n cb):=hn▸(blk_grown HM2.out.st hg3 HM2.out.ne).cell (Mk.get_b _ _)
   have r48:w3.cell? ⟨B,48,none⟩=some (.int .i64 (C.ds:Int)):=R3.out.cell (Cf.get_ds C)
   have R4:=yH (R3.out.far (p:=⟨g,143,none⟩) (by show B≠g;omega) (.slice (some ⟨b3,0,none⟩) (n+(16+16*C.ds)) c3))
   have t48:=R4.out.cell (Cf.get_ds C)
   have hb3:B<b3:=by have h1:=HM2.out.st.lt;rcases ha3 with h2|h2<;>omega
   clear ho3 hg3 ha3
   refine hK.out _ _ (by exact r48) (fun hHeld=>?_)
   clear hK K
   try simp only[Act.put,sA,sZ,sS]
   refine tk (i:=10) (oi:=⟨some 21,_,_,_,_,_⟩) (v:=?_) rfl (Or.inl ⟨by rfl,?_⟩) ?_
   rotate_left
   ·intro W hSw;go_simp;try (with_reducible rfl)
   try simp only[Act.put,sA,sZ,sS]
   refine tk (i:=11) (oi:=⟨some 22,_,_,_,_,_⟩) (v:=?_) rfl (Or.inl ⟨by rfl,?_⟩) ?_
   rotate_left
   ·intro W hSw;go_simp;try (with_reducible rfl)
   try simp only[Act.put,sA,sZ,sS]
   refine wpAnyH_ready (rs:=[12]) (by kernel_rfl) (by simp) ?_
   refine AllReadyH.cons (o:=⟨none,_,_,_,_,_⟩) rfl (fun K hK=>?_) AllReadyH.nil
   go_simp
   skip
   try go_wp2_with fail
   refine hK.out _ _ (by exact t48) (fun hHeld=>?_)
   clear hK K
   try simp only[Act.put,sA,sZ,sS]
   refine wpAnyH_done (by kernel_rfl) ?_ _
   refine NoPanic.normal ?_
   try go_wp2_with fail
   go_meet
   case rel=>exact⟨rfl,⟨_,_,hb3,HM3⟩,R4,yH (B3.out.setCell (p:=⟨g,143,none⟩) (by show B≤g;omega) _)⟩
  ·go_simp
   rw[make_slots _ (by omega)]
   try go_wp2_with fail
   refine hK.out _ _ (by exact k48) (fun hHeld=>?_)
   clear hK K
   try simp only[Act.put,sA,sZ,sS]
   refine wpAnyH_ready (rs:=[4,8]) (by kernel_rfl) (by simp) ?_
   refine AllReadyH.cons (o:=⟨some 15,_,_,_,_,_⟩) rfl (fun K hK=>?_) (AllReadyH.cons (o:=⟨some 19,_,_,_,_,_⟩) rfl (fun K hK=>?_) AllReadyH.nil)
   ·go_simp
    skip
    try go_wp2_with fail
    refine hK.out _ _ (by exact k48) (fun hHeld=>?_)
    clear hK K
    try simp only[Act.put,sA,sZ,sS]
    refine wpAnyH_ready (rs:=[8]) (by kernel_rfl) (by simp) ?_
    refine AllReadyH.cons (o:=⟨some 19,_,_,_,_,_⟩) rfl (fun K hK=>?_) AllReadyH.nil
    go_simp
    (refine HT.out.mono ?_);rintro e w2 ⟨A2,c2,rfl,ho2,hb2⟩;have HO2:=yH ho2;have HM2:=yH (MkB.below HMa.out hb2);have RC2:=yH (RCa.out.below hb2 RCa.out.lt);have BB2:=yH (BBa.out.trans (hb2.mono (by have:=HMa.out.st.lt;omega)));have yc:w2.cell? ⟨g,143,none⟩=some (.slice (some ⟨bb,0,none⟩) n cb):=hn▸HM2.out.st.cell (Mk.get_b _ _);have q48:w2.cell? ⟨B,48,none⟩=some (.int .i64 (C.ds:Int)):=RC2.out.cell (Cf.get_ds C);clear ho2 hb2
    try go_wp2_with fail
    refine hK.out _ _ (by exact q48) (fun hHeld=>?_)
    clear hK K
    try simp only[Act.put,sA,sZ,sS]
    refine wpAnyH_ready (rs:=[9]) (by kernel_rfl) (by simp) ?_
    refine AllReadyH.cons (o:=⟨some 20,_,_,_,_,_⟩) rfl (fun K hK=>?_) AllReadyH.nil
    refine step_append_g (o:=⟨some 20,_,_,_,_,_⟩) rfl (.tmp 15) (.tmp 19) rfl B bb n cb m.b rfl (hn▸HM2.out.own) (by omega) A2 (16+16*C.ds) c2 (tabB 4 C.ds) rfl HO2.out.bytes (tabB_len _ _) (by omega) ?_
    intro b3 c3 w3 ho3 hg3 ha3
    have HM3:=yH (MkB.app HM2.out hn (tabB_len _ _) ho3 hg3 ha3)
    have hbb:B≤bb∧B<bb:=⟨Nat.le_of_lt hBb,hBb⟩
    have B3:=yH (BB2.out.trans (below_grown hg3 (by have:=HM2.out.st.lt;omega) (fun k hk=>by injection hk with hk;omega)))
    have R3:=yH (blk_grown RC2.out hg3 (by omega))
    have z143:w3.frozen? ⟨g,143,none⟩=false:=(blk_grown HM2.out.st hg3 HM2.out.ne).frozen 143
    have y143:w3.cell? ⟨g,143,none⟩=some (.slice (some ⟨bb,0,none⟩) n cb):=hn▸(blk_grown HM2.out.st hg3 HM2.out.ne).cell (Mk.get_b _ _)
    have r48:w3.cell? ⟨B,48,none⟩=some (.int .i64 (C.ds:Int)):=R3.out.cell (Cf.get_ds C)
    have R4:=yH (R3.out.far (p:=⟨g,143,none⟩) (by show B≠g;omega) (.slice (some ⟨b3,0,none⟩) (n+(16+16*C.ds)) c3))
    have t48:=R4.out.cell (Cf.get_ds C)
    have hb3:B<b3:=by have h1:=HM2.out.st.lt;rcases ha3 with h2|h2<;>omega
    clear ho3 hg3 ha3
    refine hK.out _ _ (by exact r48) (fun hHeld=>?_)
    clear hK K
    try simp only[Act.put,sA,sZ,sS]
    refine tk (i:=10) (oi:=⟨some 21,_,_,_,_,_⟩) (v:=?_) rfl (Or.inl ⟨by rfl,?_⟩) ?_
    rotate_left
    ·intro W hSw;go_simp;try (with_reducible rfl)
    try simp only[Act.put,sA,sZ,sS]
    refine tk (i:=11) (oi:=⟨some 22,_,_,_,_,_⟩) (v:=?_) rfl (Or.inl ⟨by rfl,?_⟩) ?_
    rotate_left
    ·intro W hSw;go_simp;try (with_reducible rfl)
    try simp only[Act.put,sA,sZ,sS]
    refine wpAnyH_ready (rs:=[12]) (by kernel_rfl) (by simp) ?_
    refine AllReadyH.cons (o:=⟨none,_,_,_,_,_⟩) rfl (fun K hK=>?_) AllReadyH.nil
    go_simp
    skip
    try go_wp2_with fail
    refine hK.out _ _ (by exact t48) (fun hHeld=>?_)
    clear hK K
    try simp only[Act.put,sA,sZ,sS]
    refine wpAnyH_done (by kernel_rfl) ?_ _
    refine NoPanic.normal ?_
    try go_wp2_with fail
    go_meet
    case rel=>exact⟨rfl,⟨_,_,hb3,HM3⟩,R4,yH (B3.out.setCell (p:=⟨g,143,none⟩) (by show B≤g;omega) _)⟩
   ·go_simp
    (refine HT.out.mono ?_);rintro e w2 ⟨A2,c2,rfl,ho2,hb2⟩;have HO2:=yH ho2;have HM2:=yH (MkB.below HMa.out hb2);have RC2:=yH (RCa.out.below hb2 RCa.out.lt);have BB2:=yH (BBa.out.trans (hb2.mono (by have:=HMa.out.st.lt;omega)));have yc:w2.cell? ⟨g,143,none⟩=some (.slice (some ⟨bb,0,none⟩) n cb):=hn▸HM2.out.st.cell (Mk.get_b _ _);have q48:w2.cell? ⟨B,48,none⟩=some (.int .i64 (C.ds:Int)):=RC2.out.cell (Cf.get_ds C);clear ho2 hb2
    try go_wp2_with fail
    refine hK.out _ _ (by exact q48) (fun hHeld=>?_)
    clear hK K
    try simp only[Act.put,sA,sZ,sS]
    refine wpAnyH_ready (rs:=[4]) (by kernel_rfl) (by simp) ?_
    refine AllReadyH.cons (o:=⟨some 15,_,_,_,_,_⟩) rfl (fun K hK=>?_) AllReadyH.nil
    go_simp
    skip
    try go_wp2_with fail
    refine hK.out _ _ (by exact q48) (fun hHeld=>?_)
    clear hK K
    try simp only[Act.put,sA,sZ,sS]
    refine wpAnyH_ready (rs:=[9]) (by kernel_rfl) (by simp) ?_
    refine AllReadyH.cons (o:=⟨some 20,_,_,_,_,_⟩) rfl (fun K hK=>?_) AllReadyH.nil
    refine step_append_g (o:=⟨some 20,_,_,_,_,_⟩) rfl (.tmp 15) (.tmp 19) rfl B bb n cb m.b rfl (hn▸HM2.out.own) (by omega) A2 (16+16*C.ds) c2 (tabB 4 C.ds) rfl HO2.out.bytes (tabB_len _ _) (by omega) ?_
    intro b3 c3 w3 ho3 hg3 ha3
    have HM3:=yH (MkB.app HM2.out hn (tabB_len _ _) ho3 hg3 ha3)
    have hbb:B≤bb∧B<bb:=⟨Nat.le_of_lt hBb,hBb⟩
    have B3:=yH (BB2.out.trans (below_grown hg3 (by have:=HM2.out.st.lt;omega) (fun k hk=>by injection hk with hk;omega)))
    have R3:=yH (blk_grown RC2.out hg3 (by omega))
    have z143:w3.frozen? ⟨g,143,none⟩=false:=(blk_grown HM2.out.st hg3 HM2.out.ne).frozen 143
    have y143:w3.cell? ⟨g,143,none⟩=some (.slice (some ⟨bb,0,none⟩) n cb):=hn▸(blk_grown HM2.out.st hg3 HM2.out.ne).cell (Mk.get_b _ _)
    have r48:w3.cell? ⟨B,48,none⟩=some (.int .i64 (C.ds:Int)):=R3.out.cell (Cf.get_ds C)
    have R4:=yH (R3.out.far (p:=⟨g,143,none⟩) (by show B≠g;omega) (.slice (some ⟨b3,0,none⟩) (n+(16+16*C.ds)) c3))
    have t48:=R4.out.cell (Cf.get_ds C)
    have hb3:B<b3:=by have h1:=HM2.out.st.lt;rcases ha3 with h2|h2<;>omega
    clear ho3 hg3 ha3
    refine hK.out _ _ (by exact r48) (fun hHeld=>?_)
    clear hK K
    try simp only[Act.put,sA,sZ,sS]
    refine tk (i:=10) (oi:=⟨some 21,_,_,_,_,_⟩) (v:=?_) rfl (Or.inl ⟨by rfl,?_⟩) ?_
    rotate_left
    ·intro W hSw;go_simp;try (with_reducible rfl)
    try simp only[Act.put,sA,sZ,sS]
    refine tk (i:=11) (oi:=⟨some 22,_,_,_,_,_⟩) (v:=?_) rfl (Or.inl ⟨by rfl,?_⟩) ?_
    rotate_left
    ·intro W hSw;go_simp;try (with_reducible rfl)
    try simp only[Act.put,sA,sZ,sS]
    refine wpAnyH_ready (rs:=[12]) (by kernel_rfl) (by simp) ?_
    refine AllReadyH.cons (o:=⟨none,_,_,_,_,_⟩) rfl (fun K hK=>?_) AllReadyH.nil
    go_simp
    skip
    try go_wp2_with fail
    refine hK.out _ _ (by exact t48) (fun hHeld=>?_)
    clear hK K
    try simp only[Act.put,sA,sZ,sS]
    refine wpAnyH_done (by kernel_rfl) ?_ _
    refine NoPanic.normal ?_
    try go_wp2_with fail
    go_meet
    case rel=>exact⟨rfl,⟨_,_,hb3,HM3⟩,R4,yH (B3.out.setCell (p:=⟨g,143,none⟩) (by show B≤g;omega) _)⟩
 case rest=>
  obtain⟨rfl,⟨bb1,cb1,hBb1,hM1⟩,hR1,hB1⟩:=hcut
  rename World=>w5
  clear HM RC BB y48 HMa RCa BBa ya yb k48 HT hnp hBb
  have HM:=yH (show MkB w5 B g bb1 cb1 S0 (Mk.n1 C)by rw[←HMm.out]at hM1;exact hM1.out)
  have RC:=hR1
  have BB:=hB1
  clear hM1 hR1 hB1 hn
  clear HMm
  obtain⟨m1,hm⟩: ∃x,Mk.n1 C=x:=⟨_,rfl⟩
  have HMm:=yH hm
  have hl1:m1.b.length=288+16*C.ds:=by rw[←hm];show(z272++tabB 4 C.ds).length=_;rw[List.length_append,tabB_len];unfold z272;rw[List.length_replicate];omega
  rw[hm]at HM
  clear hm
  obtain⟨n1,hn⟩: ∃x,m1.b.length=x:=⟨_,rfl⟩
  have hnp:0<n1∧n1≤100000:=by omega
  have hn1:n1=288+16*C.ds:=by omega
  have y143:w5.cell? ⟨g,143,none⟩=some (.slice (some ⟨bb1,0,none⟩) n1 cb1):=hn▸HM.out.st.cell (Mk.get_b _ _)
  have hw:IntKind.u64.wrap (n1:Int)=(n1:Int):=by rw[IntKind.wrap_u64];omega
  clear hl1
  have HN1:=yH hn1
  clear hn1
  go_upto_region 4 with fail
  clear y143 hw hHeld
  have y48:w5.drew.cell? ⟨B,49,none⟩=some (.int .i64 (C.fs:Int)):=RC.out.cell (Cf.get_fs C)
  have HMa:=yH (show MkB ((w5.alloc (.cells (madeCells #[.int .u64 0,.int .u64 0] (C.fs*2)) 226)).drew) B g bb1 cb1 S0 m1 from MkB.below HM.out ((Below.refl _ _).alloc (yR _) _).drew)
  have RCa:=yH (show Blk ((w5.alloc (.cells (madeCells #[.int .u64 0,.int .u64 0] (C.fs*2)) 226)).drew) B (Cf.cells C) 101 from RC.out.alloc _)
  have BBa:=yH (show Below B w ((w5.alloc (.cells (madeCells #[.int .u64 0,.int .u64 0] (C.fs*2)) 226)).drew)from(BB.out.alloc (by have:=HM.out.st.lt;omega) _).drew)
  have ya:w5.drew.cell? ⟨g,143,none⟩=some (.slice (some ⟨bb1,0,none⟩) n1 cb1):=hn▸HM.out.st.cell (Mk.get_b _ _)
  have yb:((w5.alloc (.cells (madeCells #[.int .u64 0,.int .u64 0] (C.fs*2)) 226)).drew).cell? ⟨g,143,none⟩=some (.slice (some ⟨bb1,0,none⟩) n1 cb1):=hn▸HMa.out.st.cell (Mk.get_b _ _)
  have k48:((w5.alloc (.cells (madeCells #[.int .u64 0,.int .u64 0] (C.fs*2)) 226)).drew).cell? ⟨B,49,none⟩=some (.int .i64 (C.fs:Int)):=RCa.out.cell (Cf.get_fs C)
  have HT:=yH (show Calls Tryz.prog 95 #[.int .i64 5,.slice (some ⟨w5.heap.size,0,none⟩) C.fs C.fs] ((w5.alloc (.cells (madeCells #[.int .u64 0,.int .u64 0] (C.fs*2)) 226)).drew) (Owned (tabB 5 C.fs) (16+16*C.fs+padN (16*C.fs)) ((w5.alloc (.cells (madeCells #[.int .u64 0,.int .u64 0] (C.fs*2)) 226)).drew))from rputTable_at 5 _ _ _ _ _ _ (by decide) (in2_new C.fs w5) (by omega))
  have hpad:16+16*C.fs+padN (16*C.fs)=16+16*C.fs:=by unfold padN;omega
  rw[hpad]at HT
  unfold Owned at HT
  clear hpad
  go_cut [5]from 29 to 40 (fun z wx=>z= .pointer (some ⟨g,0,none⟩)∧(∃b1 c1,B<b1∧Hid (MkB wx B g b1 c1 S0 {m1 with b:=m1.b++tabB 5 C.fs}))∧Hid (Blk wx B (Cf.cells C) 101)∧Hid (Below B w wx))
  case first=>
   refine wp_region_noPanic ?_
   refine wp_region_held_drew (S:=fun W:World=>W.cell? ⟨B,49,none⟩=some (.int .i64 (C.fs:Int))) (by kernel_rfl) (by exact y48) (fun hHeld=>?_)
   refine tk (i:=0) (oi:=⟨some 29,_,_,_,_,_⟩) (v:=?_) rfl (Or.inl ⟨by rfl,?_⟩) ?_
   rotate_left
   ·intro W hSw;go_simp;try (with_reducible rfl)
   try simp only[Act.put,sA,sZ,sS]
   refine tk (i:=1) (oi:=⟨some 30,_,_,_,_,_⟩) (v:=?_) rfl (Or.inl ⟨by rfl,?_⟩) ?_
   rotate_left
   ·intro W hSw;go_simp;try (with_reducible rfl)
   try simp only[Act.put,sA,sZ,sS]
   refine tk (i:=2) (oi:=⟨some 31,_,_,_,_,_⟩) (v:=?_) rfl (Or.inl ⟨by rfl,?_⟩) ?_
   rotate_left
   ·intro W hSw;go_simp;try (with_reducible rfl)
   try simp only[Act.put,sA,sZ,sS]
   refine tk (i:=3) (oi:=⟨some 32,_,_,_,_,_⟩) (v:=?_) rfl (Or.inl ⟨by rfl,?_⟩) ?_
   rotate_left
   ·intro W hSw;go_simp;try (with_reducible rfl)
   try simp only[Act.put,sA,sZ,sS]
   refine tk (i:=5) (oi:=⟨some 34,_,_,_,_,_⟩) (v:=?_) rfl (Or.inl ⟨by rfl,?_⟩) ?_
   rotate_left
   ·intro W hSw;go_simp;try (with_reducible rfl)
   try simp only[Act.put,sA,sZ,sS]
   refine tk (i:=6) (oi:=⟨some 35,_,_,_,_,_⟩) (v:=?_) rfl (Or.inl ⟨by rfl,?_⟩) ?_
   rotate_left
   ·intro W hSw;have hSx:=hSw;go_simp;try (with_reducible rfl)
   try simp only[Act.put,sA,sZ,sS]
   refine wpAnyH_ready (rs:=[4,7]) (by kernel_rfl) (by simp) ?_
   refine AllReadyH.cons (o:=⟨some 33,_,_,_,_,_⟩) rfl (fun K hK=>?_) (AllReadyH.cons (o:=⟨some 36,_,_,_,_,_⟩) rfl (fun K hK=>?_) AllReadyH.nil)
   ·go_simp
    skip
    try go_wp2_with fail
    refine hK.out _ _ (by exact y48) (fun hHeld=>?_)
    clear hK K
    try simp only[Act.put,sA,sZ,sS]
    refine wpAnyH_ready (rs:=[7]) (by kernel_rfl) (by simp) ?_
    refine AllReadyH.cons (o:=⟨some 36,_,_,_,_,_⟩) rfl (fun K hK=>?_) AllReadyH.nil
    go_simp
    rw[make_slots _ (by omega)]
    try go_wp2_with fail
    refine hK.out _ _ (by exact k48) (fun hHeld=>?_)
    clear hK K
    try simp only[Act.put,sA,sZ,sS]
    refine wpAnyH_ready (rs:=[8]) (by kernel_rfl) (by simp) ?_
    refine AllReadyH.cons (o:=⟨some 37,_,_,_,_,_⟩) rfl (fun K hK=>?_) AllReadyH.nil
    go_simp
    (refine HT.out.mono ?_);rintro e w2 ⟨A2,c2,rfl,ho2,hb2⟩;have HO2:=yH ho2;have HM2:=yH (MkB.below HMa.out hb2);have RC2:=yH (RCa.out.below hb2 RCa.out.lt);have BB2:=yH (BBa.out.trans (hb2.mono (by have:=HMa.out.st.lt;omega)));have yc:w2.cell? ⟨g,143,none⟩=some (.slice (some ⟨bb1,0,none⟩) n1 cb1):=hn▸HM2.out.st.cell (Mk.get_b _ _);have q48:w2.cell? ⟨B,49,none⟩=some (.int .i64 (C.fs:Int)):=RC2.out.cell (Cf.get_fs C);clear ho2 hb2
    try go_wp2_with fail
    refine hK.out _ _ (by exact q48) (fun hHeld=>?_)
    clear hK K
    try simp only[Act.put,sA,sZ,sS]
    refine wpAnyH_ready (rs:=[9]) (by kernel_rfl) (by simp) ?_
    refine AllReadyH.cons (o:=⟨some 38,_,_,_,_,_⟩) rfl (fun K hK=>?_) AllReadyH.nil
    refine step_append_g (o:=⟨some 38,_,_,_,_,_⟩) rfl (.tmp 33) (.tmp 37) rfl B bb1 n1 cb1 m1.b rfl (hn▸HM2.out.own) (by omega) A2 (16+16*C.fs) c2 (tabB 5 C.fs) rfl HO2.out.bytes (tabB_len _ _) (by omega) ?_
    intro b3 c3 w3 ho3 hg3 ha3
    have HM3:=yH (MkB.app HM2.out hn (tabB_len _ _) ho3 hg3 ha3)
    have hbb:B≤bb1∧B<bb1:=⟨Nat.le_of_lt hBb1,hBb1⟩
    have B3:=yH (BB2.out.trans (below_grown hg3 (by have:=HM2.out.st.lt;omega) (fun k hk=>by injection hk with hk;omega)))
    have R3:=yH (blk_grown RC2.out hg3 (by omega))
    have z143:w3.frozen? ⟨g,143,none⟩=false:=(blk_grown HM2.out.st hg3 HM2.out.ne).frozen 143
    have y143:w3.cell? ⟨g,143,none⟩=some (.slice (some ⟨bb1,0,none⟩) n1 cb1):=hn▸(blk_grown HM2.out.st hg3 HM2.out.ne).cell (Mk.get_b _ _)
    have r48:w3.cell? ⟨B,49,none⟩=some (.int .i64 (C.fs:Int)):=R3.out.cell (Cf.get_fs C)
    have R4:=yH (R3.out.far (p:=⟨g,143,none⟩) (by show B≠g;omega) (.slice (some ⟨b3,0,none⟩) (n1+(16+16*C.fs)) c3))
    have t48:=R4.out.cell (Cf.get_fs C)
    have hb3:B<b3:=by have h1:=HM2.out.st.lt;rcases ha3 with h2|h2<;>omega
    clear ho3 hg3 ha3
    refine hK.out _ _ (by exact r48) (fun hHeld=>?_)
    clear hK K
    try simp only[Act.put,sA,sZ,sS]
    refine tk (i:=10) (oi:=⟨some 39,_,_,_,_,_⟩) (v:=?_) rfl (Or.inl ⟨by rfl,?_⟩) ?_
    rotate_left
    ·intro W hSw;go_simp;try (with_reducible rfl)
    try simp only[Act.put,sA,sZ,sS]
    refine tk (i:=11) (oi:=⟨some 40,_,_,_,_,_⟩) (v:=?_) rfl (Or.inl ⟨by rfl,?_⟩) ?_
    rotate_left
    ·intro W hSw;go_simp;try (with_reducible rfl)
    try simp only[Act.put,sA,sZ,sS]
    refine wpAnyH_ready (rs:=[12]) (by kernel_rfl) (by simp) ?_
    refine AllReadyH.cons (o:=⟨none,_,_,_,_,_⟩) rfl (fun K hK=>?_) AllReadyH.nil
    go_simp
    skip
    try go_wp2_with fail
    refine hK.out _ _ (by exact t48) (fun hHeld=>?_)
    clear hK K
    try simp only[Act.put,sA,sZ,sS]
    refine wpAnyH_done (by kernel_rfl) ?_ _
    refine NoPanic.normal ?_
    try go_wp2_with fail
    go_meet
    case rel=>exact⟨rfl,⟨_,_,hb3,HM3⟩,R4,yH (B3.out.setCell (p:=⟨g,143,none⟩) (by show B≤g;omega) _)⟩
   ·go_simp
    rw[make_slots _ (by omega)]
    try go_wp2_with fail
    refine hK.out _ _ (by exact k48) (fun hHeld=>?_)
    clear hK K
    try simp only[Act.put,sA,sZ,sS]
    refine wpAnyH_ready (rs:=[4,8]) (by kernel_rfl) (by simp) ?_
    refine AllReadyH.cons (o:=⟨some 33,_,_,_,_,_⟩) rfl (fun K hK=>?_) (AllReadyH.cons (o:=⟨some 37,_,_,_,_,_⟩) rfl (fun K hK=>?_) AllReadyH.nil)
    ·go_simp
     skip
     try go_wp2_with fail
     refine hK.out _ _ (by exact k48) (fun hHeld=>?_)
     clear hK K
     try simp only[Act.put,sA,sZ,sS]
     refine wpAnyH_ready (rs:=[8]) (by kernel_rfl) (by simp) ?_
     refine AllReadyH.cons (o:=⟨some 37,_,_,_,_,_⟩) rfl (fun K hK=>?_) AllReadyH.nil
     go_simp
     (refine HT.out.mono ?_);rintro e w2 ⟨A2,c2,rfl,ho2,hb2⟩;have HO2:=yH ho2;have HM2:=yH (MkB.below HMa.out hb2);have RC2:=yH (RCa.out.below hb2 RCa.out.lt);have BB2:=yH (BBa.out.trans (hb2.mono (by have:=HMa.out.st.lt;omega)));have yc:w2.cell? ⟨g,143,none⟩=some (.slice (some ⟨bb1,0,none⟩) n1 cb1):=hn▸HM2.out.st.cell (Mk.get_b _ _);have q48:w2.cell? ⟨B,49,none⟩=some (.int .i64 (C.fs:Int)):=RC2.out.cell (Cf.get_fs C);clear ho2 hb2
     try go_wp2_with fail
     refine hK.out _ _ (by exact q48) (fun hHeld=>?_)
     clear hK K
     try simp only[Act.put,sA,sZ,sS]
     refine wpAnyH_ready (rs:=[9]) (by kernel_rfl) (by simp) ?_
     refine AllReadyH.cons (o:=⟨some 38,_,_,_,_,_⟩) rfl (fun K hK=>?_) AllReadyH.nil
     refine step_append_g (o:=⟨some 38,_,_,_,_,_⟩) rfl (.tmp 33) (.tmp 37) rfl B bb1 n1 cb1 m1.b rfl (hn▸HM2.out.own) (by omega) A2 (16+16*C.fs) c2 (tabB 5 C.fs) rfl HO2.out.bytes (tabB_len _ _) (by omega) ?_
     intro b3 c3 w3 ho3 hg3 ha3
     have HM3:=yH (MkB.app HM2.out hn (tabB_len _ _) ho3 hg3 ha3)
     have hbb:B≤bb1∧B<bb1:=⟨Nat.le_of_lt hBb1,hBb1⟩
     have B3:=yH (BB2.out.trans (below_grown hg3 (by have:=HM2.out.st.lt;omega) (fun k hk=>by injection hk with hk;omega)))
     have R3:=yH (blk_grown RC2.out hg3 (by omega))
     have z143:w3.frozen? ⟨g,143,none⟩=false:=(blk_grown HM2.out.st hg3 HM2.out.ne).frozen 143
     have y143:w3.cell? ⟨g,143,none⟩=some (.slice (some ⟨bb1,0,none⟩) n1 cb1):=hn▸(blk_grown HM2.out.st hg3 HM2.out.ne).cell (Mk.get_b _ _)
     have r48:w3.cell? ⟨B,49,none⟩=some (.int .i64 (C.fs:Int)):=R3.out.cell (Cf.get_fs C)
     have R4:=yH (R3.out.far (p:=⟨g,143,none⟩) (by show B≠g;omega) (.slice (some ⟨b3,0,none⟩) (n1+(16+16*C.fs)) c3))
     have t48:=R4.out.cell (Cf.get_fs C)
     have hb3:B<b3:=by have h1:=HM2.out.st.lt;rcases ha3 with h2|h2<;>omega
     clear ho3 hg3 ha3
     refine hK.out _ _ (by exact r48) (fun hHeld=>?_)
     clear hK K
     try simp only[Act.put,sA,sZ,sS]
     refine tk (i:=10) (oi:=⟨some 39,_,_,_,_,_⟩) (v:=?_) rfl (Or.inl ⟨by rfl,?_⟩) ?_
     rotate_left
     ·intro W hSw;go_simp;try (with_reducible rfl)
     try simp only[Act.put,sA,sZ,sS]
     refine tk (i:=11) (oi:=⟨some 40,_,_,_,_,_⟩) (v:=?_) rfl (Or.inl ⟨by rfl,?_⟩) ?_
     rotate_left
     ·intro W hSw;go_simp;try (with_reducible rfl)
     try simp only[Act.put,sA,sZ,sS]
     refine wpAnyH_ready (rs:=[12]) (by kernel_rfl) (by simp) ?_
     refine AllReadyH.cons (o:=⟨none,_,_,_,_,_⟩) rfl (fun K hK=>?_) AllReadyH.nil
     go_simp
     skip
     try go_wp2_with fail
     refine hK.out _ _ (by exact t48) (fun hHeld=>?_)
     clear hK K
     try simp only[Act.put,sA,sZ,sS]
     refine wpAnyH_done (by kernel_rfl) ?_ _
     refine NoPanic.normal ?_
     try go_wp2_with fail
     go_meet
     case rel=>exact⟨rfl,⟨_,_,hb3,HM3⟩,R4,yH (B3.out.setCell (p:=⟨g,143,none⟩) (by show B≤g;omega) _)⟩
    ·go_simp
     (refine HT.out.mono ?_);rintro e w2 ⟨A2,c2,rfl,ho2,hb2⟩;have HO2:=yH ho2;have HM2:=yH (MkB.below HMa.out hb2);have RC2:=yH (RCa.out.below hb2 RCa.out.lt);have BB2:=yH (BBa.out.trans (hb2.mono (by have:=HMa.out.st.lt;omega)));have yc:w2.cell? ⟨g,143,none⟩=some (.slice (some ⟨bb1,0,none⟩) n1 cb1):=hn▸HM2.out.st.cell (Mk.get_b _ _);have q48:w2.cell? ⟨B,49,none⟩=some (.int .i64 (C.fs:Int)):=RC2.out.cell (Cf.get_fs C);clear ho2 hb2
     try go_wp2_with fail
     refine hK.out _ _ (by exact q48) (fun hHeld=>?_)
     clear hK K
     try simp only[Act.put,sA,sZ,sS]
     refine wpAnyH_ready (rs:=[4]) (by kernel_rfl) (by simp) ?_
     refine AllReadyH.cons (o:=⟨some 33,_,_,_,_,_⟩) rfl (fun K hK=>?_) AllReadyH.nil
     go_simp
     skip
     try go_wp2_with fail
     refine hK.out _ _ (by exact q48) (fun hHeld=>?_)
     clear hK K
     try simp only[Act.put,sA,sZ,sS]
     refine wpAnyH_ready (rs:=[9]) (by kernel_rfl) (by simp) ?_
     refine AllReadyH.cons (o:=⟨some 38,_,_,_,_,_⟩) rfl (fun K hK=>?_) AllReadyH.nil
     refine step_append_g (o:=⟨some 38,_,_,_,_,_⟩) rfl (.tmp 33) (.tmp 37) rfl B bb1 n1 cb1 m1.b rfl (hn▸HM2.out.own) (by omega) A2 (16+16*C.fs) c2 (tabB 5 C.fs) rfl HO2.out.bytes (tabB_len _ _) (by omega) ?_
     intro b3 c3 w3 ho3 hg3 ha3
     have HM3:=yH (MkB.app HM2.out hn (tabB_len _ _) ho3 hg3 ha3)
     have hbb:B≤bb1∧B<bb1:=⟨Nat.le_of_lt hBb1,hBb1⟩
     have B3:=yH (BB2.out.trans (below_grown hg3 (by have:=HM2.out.st.lt;omega) (fun k hk=>by injection hk with hk;omega)))
     have R3:=yH (blk_grown RC2.out hg3 (by omega))
     have z143:w3.frozen? ⟨g,143,none⟩=false:=(blk_grown HM2.out.st hg3 HM2.out.ne).frozen 143
     have y143:w3.cell? ⟨g,143,none⟩=some (.slice (some ⟨bb1,0,none⟩) n1 cb1):=hn▸(blk_grown HM2.out.st hg3 HM2.out.ne).cell (Mk.get_b _ _)
     have r48:w3.cell? ⟨B,49,none⟩=some (.int .i64 (C.fs:Int)):=R3.out.cell (Cf.get_fs C)
     have R4:=yH (R3.out.far (p:=⟨g,143,none⟩) (by show B≠g;omega) (.slice (some ⟨b3,0,none⟩) (n1+(16+16*C.fs)) c3))
     have t48:=R4.out.cell (Cf.get_fs C)
     have hb3:B<b3:=by have h1:=HM2.out.st.lt;rcases ha3 with h2|h2<;>omega
     clear ho3 hg3 ha3
     refine hK.out _ _ (by exact r48) (fun hHeld=>?_)
     clear hK K
     try simp only[Act.put,sA,sZ,sS]
     refine tk (i:=10) (oi:=⟨some 39,_,_,_,_,_⟩) (v:=?_) rfl (Or.inl ⟨by rfl,?_⟩) ?_
     rotate_left
     ·intro W hSw;go_simp;try (with_reducible rfl)
     try simp only[Act.put,sA,sZ,sS]
     refine tk (i:=11) (oi:=⟨some 40,_,_,_,_,_⟩) (v:=?_) rfl (Or.inl ⟨by rfl,?_⟩) ?_
     rotate_left
     ·intro W hSw;go_simp;try (with_reducible rfl)
     try simp only[Act.put,sA,sZ,sS]
     refine wpAnyH_ready (rs:=[12]) (by kernel_rfl) (by simp) ?_
     refine AllReadyH.cons (o:=⟨none,_,_,_,_,_⟩) rfl (fun K hK=>?_) AllReadyH.nil
     go_simp
     skip
     try go_wp2_with fail
     refine hK.out _ _ (by exact t48) (fun hHeld=>?_)
     clear hK K
     try simp only[Act.put,sA,sZ,sS]
     refine wpAnyH_done (by kernel_rfl) ?_ _
     refine NoPanic.normal ?_
     try go_wp2_with fail
     go_meet
     case rel=>exact⟨rfl,⟨_,_,hb3,HM3⟩,R4,yH (B3.out.setCell (p:=⟨g,143,none⟩) (by show B≤g;omega) _)⟩
  case rest=>
   obtain⟨rfl,⟨bb2,cb2,hBb2,hM1⟩,hR1,hB1⟩:=hcut
   rename World=>w6
   clear HM RC BB y48 HMa RCa BBa ya yb k48 HT hnp
   have HM:=yH (show MkB w6 B g bb2 cb2 S0 (Mk.n2 C)by rw[←HMm.out]at hM1;exact hM1.out)
   have RC:=hR1
   have BB:=hB1
   clear hM1 hR1 hB1 hn HMm
   have HA:=yH (at_new HM.out (Nat.le_of_lt hBg) rfl rfl rfl)
   have HP0:=yH (show Path g (p0 bb2 cb2) w6 (p0 bb2 cb2) w6 from Path.refl _ _ _)
   have hsz:((hdB C).cells 20).toArray.size=90:=by simp[HD.len]
   clear hBb1 HM
   go_upto_region 6 with(first
    |((with_reducible apply at_slot 43);refine wpList_load_mid rfl 37 (.tmp 42) rfl B 0 rfl (idJ C.F) _ (Cf.range RC.out C.F 0 (by decide) (Cf.at_F C)) Tryz.underlying37 rfl (idJ_info _) ?_)
    |((with_reducible apply at_slot 45);refine wpList_load_mid rfl 37 (.tmp 44) rfl B 16 rfl (idJ C.M) _ (Cf.range RC.out C.M 16 (by decide) (Cf.at_M C)) Tryz.underlying37 rfl (idJ_info _) ?_)
    |((with_reducible apply at_slot 47);refine wpList_load_mid rfl 37 (.tmp 46) rfl B 32 rfl (idJ C.S) _ (Cf.range RC.out C.S 32 (by decide) (Cf.at_S C)) Tryz.underlying37 rfl (idJ_info _) ?_)
    |((with_reducible apply at_slot 48);refine wpList_build_as rfl 119 _ rfl ((hdB C).cells 20).toArray (by kernel_rfl) ?_)
    |((with_reducible apply at_store (.tmp 50) (.tmp 48));refine wpList_store_mid rfl 119 (.tmp 50) (.tmp 48) rfl g 52 ((hdB C).cells 20).toArray rfl rfl (by rw[hsz];exact there_of HA.out.st.st 52 90 (by decide)) (by rw[hsz];exact rheadInfo) (HD.one _ 20) ?_)
    |fail)
   obtain⟨mm,hmm⟩: ∃x,Mk.n2 C=x:=⟨_,rfl⟩
   have HMm:=yH hmm
   rw[hmm]at HA
   clear hmm hsz
   have HF:=yH (At.heads HA.out (hdB C))
   have HQ:=yH (show Path g (p0 bb2 cb2) w6 (p0 bb2 cb2) (w6.setCells g 52 ((hdB C).cells 20))from⟨fun _ h=> .inl h,keptF_sets (Or.inl rfl) _ _ _ (KeptF.refl _ _)⟩)
   generalize w6.setCells g 52 ((hdB C).cells 20)=w7 at*
   have HCf:=yH fun(W:World) (hW:Path g (p0 bb2 cb2) w6 (p0 bb2 cb2) W)=>show Blk W B (Cf.cells C) 101 from blk_keptF' RC.out hW.kept (fun h=>by
    rcases h with h|h|h|h
    ·omega
    ·have h:B=bb2:=h;omega
    ·cases h
    ·cases h)
   clear RC HA HP0
   have y51:w7.cell? ⟨B,51,none⟩=some (.bool C.keyed):=(HCf.out _ HQ.out).cell (Cf.get_keyed C)
   have hwA:IntKind.i64.wrap (16*(C.ds:Int))=16*(C.ds:Int):=by rw[IntKind.wrap_i64];omega
   have hwB:IntKind.u64.wrap (16*(C.ds:Int))=16*(C.ds:Int):=by rw[IntKind.wrap_u64];omega
   have hwC:IntKind.i64.wrap (16*(C.fs:Int))=16*(C.fs:Int):=by rw[IntKind.wrap_i64];omega
   have hwD:IntKind.u64.wrap (16*(C.fs:Int))=16*(C.fs:Int):=by rw[IntKind.wrap_u64];omega
   have hwE:IntKind.u64.wrap ((n1:Int)+16)=(n1:Int)+16:=by have:=HN1.out;rw[IntKind.wrap_u64];omega
   have HwA:=yH hwA
   have HwB:=yH hwB
   have HwC:=yH hwC
   have HwD:=yH hwD
   have HwE:=yH hwE
   clear hwA hwB hwC hwD hwE hds hfs
   rcases hkd:C.keyed with _|_
   ·have HK:=yH (show hdB C=hdK C from by unfold hdK;rw[hkd];rfl)
    rw[hkd]at y51
    clear hkd
    rw[HK.out]at HF
    go_upto_region 8 with fail
    clear y51
    have yv:=At.cN HF.out 0 119 (by decide) rfl
    have zv:=At.fz HF.out 119
    go_upto_region 9 with fail
    have HF':=yH ((At.setNh _ HF.out 0 119 (by decide) rfl 272))
    have HQ':=yH ((HQ.out.set 119 (.int .u64 272)))
    clear yv zv
    generalize w7.setCell ⟨g,119,none⟩ (.int .u64 272)=wn at*
    clear HF HQ
    have HF:=HF'
    have HQ:=HQ'
    clear HF' HQ'
    rename World=>wv119
    have yv:=At.cN HF.out 2 121 (by decide) rfl
    have zv:=At.fz HF.out 121
    go_upto_region 10 with fail
    have HF':=yH ((At.setNh _ HF.out 2 121 (by decide) rfl 288))
    have HQ':=yH ((HQ.out.set 121 (.int .u64 288)))
    clear yv zv
    generalize wv119.setCell ⟨g,121,none⟩ (.int .u64 288)=wn at*
    clear HF HQ
    have HF:=HF'
    have HQ:=HQ'
    clear HF' HQ'
    rename World=>wv121
    have yc:wv121.cell? ⟨B,48,none⟩=some (.int .i64 (C.ds:Int)):=(HCf.out _ HQ.out).cell (Cf.get_ds C)
    have hwA:=HwA.out
    have hwB:=HwB.out
    have yv:=At.cN HF.out 3 122 (by decide) rfl
    have zv:=At.fz HF.out 122
    go_region
    go_upto_region 11 with fail
    have HF':=yH (At.drew (At.setNh _ HF.out 3 122 (by decide) rfl (16*(C.ds:Int))))
    have HQ':=yH ((HQ.out.set 122 (.int .u64 (16*(C.ds:Int)))).drew)
    clear yv zv yc hwA hwB
    generalize (wv121.setCell ⟨g,122,none⟩ (.int .u64 (16*(C.ds:Int)))).drew=wn at*
    clear HF HQ
    have HF:=HF'
    have HQ:=HQ'
    clear HF' HQ'
    rename World=>wv122
    have hwE:=HwE.out
    have yv:=At.cN HF.out 4 123 (by decide) rfl
    have zv:=At.fz HF.out 123
    go_upto_region 12 with fail
    have HF':=yH ((At.setNh _ HF.out 4 123 (by decide) rfl ((n1:Int)+16)))
    have HQ':=yH ((HQ.out.set 123 (.int .u64 ((n1:Int)+16))))
    clear yv zv hwE
    generalize wv122.setCell ⟨g,123,none⟩ (.int .u64 ((n1:Int)+16))=wn at*
    clear HF HQ
    have HF:=HF'
    have HQ:=HQ'
    clear HF' HQ'
    rename World=>wv123
    have yc:wv123.cell? ⟨B,49,none⟩=some (.int .i64 (C.fs:Int)):=(HCf.out _ HQ.out).cell (Cf.get_fs C)
    have hwA:=HwC.out
    have hwB:=HwD.out
    have yv:=At.cN HF.out 5 124 (by decide) rfl
    have zv:=At.fz HF.out 124
    go_region
    go_upto_region 13 with fail
    have HF':=yH (At.drew (At.setNh _ HF.out 5 124 (by decide) rfl (16*(C.fs:Int))))
    have HQ':=yH ((HQ.out.set 124 (.int .u64 (16*(C.fs:Int)))).drew)
    clear yv zv yc hwA hwB
    generalize (wv123.setCell ⟨g,124,none⟩ (.int .u64 (16*(C.fs:Int)))).drew=wn at*
    clear HF HQ
    have HF:=HF'
    have HQ:=HQ'
    clear HF' HQ'
    rename World=>wv124
    have yv:=At.cN HF.out 6 125 (by decide) rfl
    have zv:=At.fz HF.out 125
    go_upto_region 14 with fail
    have HF':=yH ((At.setNh _ HF.out 6 125 (by decide) rfl (n1:Int)))
    have HQ':=yH ((HQ.out.set 125 (.int .u64 (n1:Int))))
    clear yv zv
    generalize wv124.setCell ⟨g,125,none⟩ (.int .u64 (n1:Int))=wn at*
    clear HF HQ
    have HF:=HF'
    have HQ:=HQ'
    clear HF' HQ'
    rename World=>wv125
    have yv:=At.cN HF.out 7 126 (by decide) rfl
    have zv:=At.fz HF.out 126
    go_upto_region 15 with fail
    have HF':=yH ((At.setNh _ HF.out 7 126 (by decide) rfl 2))
    have HQ':=yH ((HQ.out.set 126 (.int .u64 2)))
    clear yv zv
    generalize wv125.setCell ⟨g,126,none⟩ (.int .u64 2)=wn at*
    clear HF HQ
    have HF:=HF'
    have HQ:=HQ'
    clear HF' HQ'
    rename World=>wv126
    have yv:=At.cN HF.out 9 128 (by decide) rfl
    have zv:=At.fz HF.out 128
    go_wp2
    have HF':=yH ((At.setNh _ HF.out 9 128 (by decide) rfl after))
    have HQ':=yH ((HQ.out.set 128 (.int .u64 after)))
    clear yv zv
    clear HF HQ
    have HF:=HF'
    have HQ:=HQ'
    clear HF' HQ'
    go_ret
    have e4:((n1:Int)+16)=304+16*(C.ds:Int):=by have:=HN1.out;omega
    have e6:(n1:Int)=288+16*(C.ds:Int):=by have:=HN1.out;omega
    have hF:=HF.out
    rw[e4,e6,←HMm.out]at hF
    exact⟨g,rfl,⟨p0 bb2 cb2,hF⟩,BB.out.trans (HQ.out.kept.below (by have:=BB.out.size;have:=HBw.out;omega) (fun k h=>by
     rcases h with h|h|h|h
     ·omega
     ·have h:k=bb2:=h;omega
     ·cases h
     ·cases h))⟩
   ·have HK:=yH (show {hdB C with ic:=4}=hdK C from by unfold hdK;rw[hkd];rfl)
    rw[hkd]at y51
    clear hkd
    have zv:=At.fz HF.out 53
    have yv:w7.cell? ⟨g,53,none⟩=some (.int .u32 (hdB C).ic):=HF.out.st.st.cell (get_ic _ _)
    go_upto_region 8 with fail
    have HF':=yH (show At (w7.setCell ⟨g,53,none⟩ (.int .u32 4)) B g (p0 bb2 cb2) {mm with h:=hdK C}from by rw[←HK.out];exact Nk.At.head1 HF.out 53 (.int .u32 4) _ (fun S=>set_ic _ S 4))
    have HQ':=yH (HQ.out.set 53 (.int .u32 4))
    generalize w7.setCell ⟨g,53,none⟩ (.int .u32 4)=wn at*
    clear HF HQ zv yv y51
    have HF:=HF'
    have HQ:=HQ'
    clear HF' HQ'
    have yv:=At.cN HF.out 0 119 (by decide) rfl
    have zv:=At.fz HF.out 119
    go_upto_region 9 with fail
    have HF':=yH ((At.setNh _ HF.out 0 119 (by decide) rfl 272))
    have HQ':=yH ((HQ.out.set 119 (.int .u64 272)))
    clear yv zv
    generalize wn.setCell ⟨g,119,none⟩ (.int .u64 272)=wn at*
    clear HF HQ
    have HF:=HF'
    have HQ:=HQ'
    clear HF' HQ'
    rename World=>wv119
    have yv:=At.cN HF.out 2 121 (by decide) rfl
    have zv:=At.fz HF.out 121
    go_upto_region 10 with fail
    have HF':=yH ((At.setNh _ HF.out 2 121 (by decide) rfl 288))
    have HQ':=yH ((HQ.out.set 121 (.int .u64 288)))
    clear yv zv
    generalize wv119.setCell ⟨g,121,none⟩ (.int .u64 288)=wn at*
    clear HF HQ
    have HF:=HF'
    have HQ:=HQ'
    clear HF' HQ'
    rename World=>wv121
    have yc:wv121.cell? ⟨B,48,none⟩=some (.int .i64 (C.ds:Int)):=(HCf.out _ HQ.out).cell (Cf.get_ds C)
    have hwA:=HwA.out
    have hwB:=HwB.out
    have yv:=At.cN HF.out 3 122 (by decide) rfl
    have zv:=At.fz HF.out 122
    go_region
    go_upto_region 11 with fail
    have HF':=yH (At.drew (At.setNh _ HF.out 3 122 (by decide) rfl (16*(C.ds:Int))))
    have HQ':=yH ((HQ.out.set 122 (.int .u64 (16*(C.ds:Int)))).drew)
    clear yv zv yc hwA hwB
    generalize (wv121.setCell ⟨g,122,none⟩ (.int .u64 (16*(C.ds:Int)))).drew=wn at*
    clear HF HQ
    have HF:=HF'
    have HQ:=HQ'
    clear HF' HQ'
    rename World=>wv122
    have hwE:=HwE.out
    have yv:=At.cN HF.out 4 123 (by decide) rfl
    have zv:=At.fz HF.out 123
    go_upto_region 12 with fail
    have HF':=yH ((At.setNh _ HF.out 4 123 (by decide) rfl ((n1:Int)+16)))
    have HQ':=yH ((HQ.out.set 123 (.int .u64 ((n1:Int)+16))))
    clear yv zv hwE
    generalize wv122.setCell ⟨g,123,none⟩ (.int .u64 ((n1:Int)+16))=wn at*
    clear HF HQ
    have HF:=HF'
    have HQ:=HQ'
    clear HF' HQ'
    rename World=>wv123
    have yc:wv123.cell? ⟨B,49,none⟩=some (.int .i64 (C.fs:Int)):=(HCf.out _ HQ.out).cell (Cf.get_fs C)
    have hwA:=HwC.out
    have hwB:=HwD.out
    have yv:=At.cN HF.out 5 124 (by decide) rfl
    have zv:=At.fz HF.out 124
    go_region
    go_upto_region 13 with fail
    have HF':=yH (At.drew (At.setNh _ HF.out 5 124 (by decide) rfl (16*(C.fs:Int))))
    have HQ':=yH ((HQ.out.set 124 (.int .u64 (16*(C.fs:Int)))).drew)
    clear yv zv yc hwA hwB
    generalize (wv123.setCell ⟨g,124,none⟩ (.int .u64 (16*(C.fs:Int)))).drew=wn at*
    clear HF HQ
    have HF:=HF'
    have HQ:=HQ'
    clear HF' HQ'
    rename World=>wv124
    have yv:=At.cN HF.out 6 125 (by decide) rfl
    have zv:=At.fz HF.out 125
    go_upto_region 14 with fail
    have HF':=yH ((At.setNh _ HF.out 6 125 (by decide) rfl (n1:Int)))
    have HQ':=yH ((HQ.out.set 125 (.int .u64 (n1:Int))))
    clear yv zv
    generalize wv124.setCell ⟨g,125,none⟩ (.int .u64 (n1:Int))=wn at*
    clear HF HQ
    have HF:=HF'
    have HQ:=HQ'
    clear HF' HQ'
    rename World=>wv125
    have yv:=At.cN HF.out 7 126 (by decide) rfl
    have zv:=At.fz HF.out 126
    go_upto_region 15 with fail
    have HF':=yH ((At.setNh _ HF.out 7 126 (by decide) rfl 2))
    have HQ':=yH ((HQ.out.set 126 (.int .u64 2)))
    clear yv zv
    generalize wv125.setCell ⟨g,126,none⟩ (.int .u64 2)=wn at*
    clear HF HQ
    have HF:=HF'
    have HQ:=HQ'
    clear HF' HQ'
    rename World=>wv126
    have yv:=At.cN HF.out 9 128 (by decide) rfl
    have zv:=At.fz HF.out 128
    go_wp2
    have HF':=yH ((At.setNh _ HF.out 9 128 (by decide) rfl after))
    have HQ':=yH ((HQ.out.set 128 (.int .u64 after)))
    clear yv zv
    clear HF HQ
    have HF:=HF'
    have HQ:=HQ'
    clear HF' HQ'
    go_ret
    have e4:((n1:Int)+16)=304+16*(C.ds:Int):=by have:=HN1.out;omega
    have e6:(n1:Int)=288+16*(C.ds:Int):=by have:=HN1.out;omega
    have hF:=HF.out
    rw[e4,e6,←HMm.out]at hF
    exact⟨g,rfl,⟨p0 bb2 cb2,hF⟩,BB.out.trans (HQ.out.kept.below (by have:=BB.out.size;have:=HBw.out;omega) (fun k h=>by
     rcases h with h|h|h|h
     ·omega
     ·have h:k=bb2:=h;omega
     ·cases h
     ·cases h))⟩
end Np
end Go.Proofs.YtiddkgcafpaekaaGreat
