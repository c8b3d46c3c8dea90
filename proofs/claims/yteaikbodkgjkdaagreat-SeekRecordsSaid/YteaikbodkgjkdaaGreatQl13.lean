/-
  Texts beneath.
-/
import Derived.Test.YteaikbodkgjkdaaGreatQl12
set_option linter.unusedVariables false
set_option linter.unusedSimpArgs false
set_option maxRecDepth 100000
set_option maxHeartbeats 4000000
open Go.ChangeShapes Go.WideShapes Go.ChangeAt Go.RowKit
namespace Go.Proofs.YteaikbodkgjkdaaGreat
namespace Yg
open Bytes8 Blk8 Own8 OwnE LeP Ob Rows2 Kf Yc Yp Yd Ye Yf
theorem aAr {P:Program}{fn:Func}{p u:Tmp}{a:TypeId}(h:fn.results= #[.cell p a,.tmp u])(tmps:Array Value)(w:World)(g:Nat)(t:TypeId)(b:Array Value)(fr:Nat×Nat)(d:TypeDesc)(c:Value)
 (e:tmps.getD p undef= .pointer (some ⟨g,0,none⟩))(l:tmps.getD u undef=c)(j:w.heap[g]? =some (.cells b t fr))(i:P.underlying a=some d)(f:(match d with| .struct _| .array _ _=>true|_=>false)=true)(k:(P.info? a).map (·.size)=some b.size):
 (results fn tmps).run P w= .ok (.tuple #[.agg b,c]) w:=by
 rw[results_cell_tmp h,e,l]
 simp[asAddr,run_loadVar_row w g t a b fr d j i f k,Result.andThen]
theorem Blk.setRow {w:World}{g:Nat}{b:List Value}{T:TypeId}(h:Blk w g b T)(a:List Value):Blk (w.setRow g a.toArray) g a T:=setRow_heap w g _ _ T (0,0) h
theorem aAi {B:Nat}{w0 w:World}(b:Below B w0 w){g:Nat}(c:B≤g)(a:Array Value):Below B w0 (w.setRow g a):=below_setRow b c a
theorem In2.setRow {w:World}{a:Option Addr}{n:Nat}{f h:Nat→Int}(p:In2 w a n f h){g:Nat}(o: ∀b c,a=some ⟨b,c,none⟩→b≠g)(j:Array Value):In2 (w.setRow g j) a n f h:=fun i hx=>by
 obtain⟨b,c,e,m,k,q,l⟩:=p i hx
 have d:=o b c e
 exact⟨b,c,e,by simpa using m,(cell_setRow_other w g j _ d).trans k,(cell_setRow_other w g j _ d).trans q,l⟩
def eNum (l:List Int)(a i:Nat):Int:=if entC0 l a=0 then u8 (bodyL l a) i else 0
def eK (l:List Int)(a:Nat):Nat→Int:=if entC0 l a=0 then itK (bodyL l a)else fun _=>0
def eN (l:List Int)(a:Nat):Nat:=if entC0 l a=0 then itN (bodyL l a)else 0
def NewIn (B:Nat)(A:Option Addr):Prop:= ∀b off,A=some ⟨b,off,none⟩→B≤b
def EntTold2 (l:List Int)(a:Nat)(w:World)(e:Ending)(w':World):Prop:=
 ∃A c,e= .returned (.tuple #[entV (eNum l a 0) (eNum l a 8) (eNum l a 16) (eK l a) (eNum l a 40) A (eN l a) c,.int .i64 (entC0 l a)])∧Below w.heap.size w w'∧In2 w' A (eN l a) (itA (bodyL l a)) (itH (bodyL l a))∧NewIn w.heap.size A
theorem aHd {l:List Int}{a:Nat}(h:entC0 l a≠0):(∀i,eNum l a i=0)∧eK l a=(fun _=>0)∧eN l a=0:=⟨fun i=>if_neg h,if_neg h,if_neg h⟩
theorem aFe {l:List Int}{a:Nat}(h:entC0 l a=0):(∀i,eNum l a i=u8 (bodyL l a) i)∧eK l a=itK (bodyL l a)∧eN l a=itN (bodyL l a):=⟨fun i=>if_pos h,if_pos h,if_pos h⟩
abbrev zL:List Value:=[.int .u64 0,.int .u64 0,.int .u64 0,.int .u8 0,.int .u8 0,.int .u8 0,.int .u8 0,.int .u8 0,.int .u8 0,.int .u8 0,.int .u8 0,.int .u8 0,.int .u8 0,.int .u8 0,.int .u8 0,.int .u8 0,.int .u8 0,.int .u8 0,.int .u8 0,.int .u64 0,.slice none 0 0]
abbrev zC (T:TypeId):Obj:= .cells #[.int .u64 0,.int .u64 0,.int .u64 0,.int .u8 0,.int .u8 0,.int .u8 0,.int .u8 0,.int .u8 0,.int .u8 0,.int .u8 0,.int .u8 0,.int .u8 0,.int .u8 0,.int .u8 0,.int .u8 0,.int .u8 0,.int .u8 0,.int .u8 0,.int .u8 0,.int .u64 0,.slice none 0 0] T
theorem aA8:(Tryz.prog.info? 299).map (·.size)=some 21:=by kernel_rfl
theorem aCt:zL.toArray.all (·.oneCell')=true:=by simp[Value.oneCell']
theorem aBB (s r m:Int)(K:Nat→Int)(x:Int)(A:Option Addr)(n c:Nat):(entL s r m K x A n c).toArray.all (·.oneCell')=true:=by simp[entL,Value.oneCell']
theorem aBh (w:World)(A:Option Addr)(f h:Nat→Int):In2 w A 0 f h:=fun i hi=>absurd hi (by omega)
def stE (p v:Value):Sem Unit:=Instr.storeAt 299 p v
theorem st_fold (p v:Value):Instr.storeAt 299 p v=stE p v:=rfl
theorem aEH (w:World)(g:Nat)(a:List Value)(h:Blk w g a 299)(b:a.length=21)(s r m x:Int)(A:Option Addr)(n c:Nat):
 (stE (.pointer (some ⟨g,0,none⟩)) (.agg #[.int .u64 s,.int .u64 r,.int .u64 m,.int .u8 0,.int .u8 0,.int .u8 0,.int .u8 0,.int .u8 0,.int .u8 0,.int .u8 0,.int .u8 0,.int .u8 0,.int .u8 0,.int .u8 0,.int .u8 0,.int .u8 0,.int .u8 0,.int .u8 0,.int .u8 0,.int .u64 x,.slice A n c])).run Tryz.prog w= .ok () (w.setRow g #[.int .u64 s,.int .u64 r,.int .u64 m,.int .u8 0,.int .u8 0,.int .u8 0,.int .u8 0,.int .u8 0,.int .u8 0,.int .u8 0,.int .u8 0,.int .u8 0,.int .u8 0,.int .u8 0,.int .u8 0,.int .u8 0,.int .u8 0,.int .u8 0,.int .u8 0,.int .u64 x,.slice A n c]):=by
 unfold stE
 simp only[Instr.storeAt,Instr.sureAddr,Sem.run_bind,Sem.run_pure,Result.andThen_ok]
 exact run_storeVar_row w g 299 299 a.toArray #[.int .u64 s,.int .u64 r,.int .u64 m,.int .u8 0,.int .u8 0,.int .u8 0,.int .u8 0,.int .u8 0,.int .u8 0,.int .u8 0,.int .u8 0,.int .u8 0,.int .u8 0,.int .u8 0,.int .u8 0,.int .u8 0,.int .u8 0,.int .u8 0,.int .u8 0,.int .u64 x,.slice A n c] h aA8 (by simp[b]) (by simp[Value.oneCell'])
theorem aI9 (w:World)(s r m x:Int)(A:Option Addr)(n c:Nat):
 (stE (.pointer (some ⟨w.heap.size,0,none⟩)) (.agg #[.int .u64 s,.int .u64 r,.int .u64 m,.int .u8 0,.int .u8 0,.int .u8 0,.int .u8 0,.int .u8 0,.int .u8 0,.int .u8 0,.int .u8 0,.int .u8 0,.int .u8 0,.int .u8 0,.int .u8 0,.int .u8 0,.int .u8 0,.int .u8 0,.int .u8 0,.int .u64 x,.slice A n c])).run Tryz.prog (w.alloc (zC 299))= .ok () ((w.alloc (zC 299)).setRow w.heap.size #[.int .u64 s,.int .u64 r,.int .u64 m,.int .u8 0,.int .u8 0,.int .u8 0,.int .u8 0,.int .u8 0,.int .u8 0,.int .u8 0,.int .u8 0,.int .u8 0,.int .u8 0,.int .u8 0,.int .u8 0,.int .u8 0,.int .u8 0,.int .u8 0,.int .u8 0,.int .u64 x,.slice A n c]):=
 aEH _ _ _ (show Blk (w.alloc (zC 299)) w.heap.size zL 299 from Blk.new w zL _) rfl s r m x A n c
theorem aKd (l:List Int)(p i:Nat):u8 (l.drop p) i=u8 l (p+i):=by unfold u8;rw[List.drop_drop]
theorem aMw (l:List Int):taA (l.drop 48)=itA l:=by funext i;unfold taA itA;rw[aKd]
theorem aMx (l:List Int):taB (l.drop 48)=itH l:=by funext i;unfold taB itH;rw[aKd,Nat.add_assoc]
open Go.RowKit in
theorem aFf {P:Program}{p:Array Oper}{o:Oper}{a:Act}{w:World}{K:Act→World→Prop}{Q:Exit→Act→World→Prop}{E:Prop}(y:o.guard=none)(d s:Operand)(A C:TypeId)
 (I:o.op= .call {callee:= .builtin .copy,args:= #[d,s],argTypes:= #[A,C]})(b:TypeId)(J:P.underlying A=some (.slice b))(z:(P.info? b).map (·.size)=some 1)
 (B:Option Addr)(c k e l g i:Nat)(D:a.eval d= .slice (some ⟨g,i,none⟩) c k)(hs:a.eval s= .slice B e l)
 (f:List Value)(t:TypeId)(F:w.heap[g]? =some (.cells f.toArray t (0,0)))(m:List Value)(L:m.length=Nat.min e c)
 (n: ∃x,B=some x∧ ∀j v,m[j]? =some v→w.cell? (x.add j)=some v)
 (r:i+m.length≤f.length)(G: ∀v∈m,v.oneCell'=true)
 (h: ∀w',w'=w.setRow g (splice f i m).toArray→K (a.put o.dst (goInt m.length)) w'):
 if Region.wanted o (yielded p a.tmps)=true then Oper.wp P o a w K Q else E:=by
 have H:Region.wanted o (yielded p a.tmps)=true:=by simp[Region.wanted,y]
 rw[if_pos H]
 obtain⟨x,rfl,u⟩:=n
 have q:=run_copy_row (P:=P) w A C o.type b g i c k x e l f.toArray t m J z F L u (by simpa using r) G
 unfold Oper.wp
 simp[execOp,I,resolve,invoke,builtin,D,hs,q,Result.andThen]
 exact h _ (by simp[splice])
attribute [local go_sem ↓] st_fold
theorem aMy (A:Option Addr)(l:List Int)(n X a:Nat)(w:World)(hb:Bytes w A l)(hL:l.length=n)(hn:n≤1000000)(hc:n≤X)(aG:X≤maxLen)(ha:a≤18446744073709551615):
 Calls Tryz.prog 205 #[.slice A n X,.int .u64 (a:Int)] w (EntTold2 l a w):=by
 have b0:=yH ((yB w.heap.size w).alloc (yR _) (zC 299))
 have R0:=yH (show Blk (w.alloc (zC 299)) w.heap.size zL 299 from Blk.new w zL _)
 have M:=yH (aIc A l n X a 48 16 3 48 16 (w.alloc (zC 299)) (hb.below b0.out (yR _)) hL hn hc aG ha (by decide) (by decide) (by decide) (by decide) rfl rfl)
 unfold Bodied2 at M
 have aL:=yH (aDJ (a:=a) hb.1)
 have s:entC0 l a=if ecode l a 3 48 16≠0 then ecode l a 3 48 16 else if u8 (bodyL l a) 0=0 then 13 else if risB (itA (bodyL l a)) (itN (bodyL l a))then 0 else 11:=rfl
 have aU:=yH (Nat.lt_succ_self w.heap.size)
 by_cases h1:ecode l a 3 48 16≠0
 ·rw[if_pos h1]at s
  have ag:entC0 l a≠0:=by rw[s];exact h1
  have f:=yH (aHd ag)
  have k:=yH s
  have HX:=yH h1
  clear s ag hb hL
  generalize ecode l a 3 48 16=cd at*
  go_enter Tryz.func205,Tryz.ntmps205
  go_wp2_with(first
   |(go_at_call 210;(with_reducible refine M.out.mono ?_);rintro e w2 ⟨B,m,cb,rfl,d,_⟩;have R2:=yH (R0.out.below d R0.out.lt);have J:=yH (b0.out.trans (d.mono b0.out.size));clear d)
   |(refine wpList_store_row rfl 299 (.tmp 4) (.tmp 17) rfl w.heap.size _ rfl rfl 299 _ R2.out aA8 rfl aCt ?_))
  refine bodyPost_ret (v:= .tuple #[entV 0 0 0 (fun _=>0) 0 none 0 0,.int .i64 cd]) (by exact aAr Tryz.results205 _ _ w.heap.size 299 _ (0,0) _ _ rfl rfl (Blk.setRow R2.out zL) Tryz.underlying299 rfl aA8) rfl ?_
  unfold EntTold2
  rw[f.out.1,f.out.1,f.out.1,f.out.1,f.out.2.1,f.out.2.2,k.out]
  exact⟨none,0,rfl,aAi J.out (yR _) _,aBh _ _ _ _,fun b off e=>by cases e⟩
 ·have E:ecode l a 3 48 16=0:=by omega
  rw[if_neg h1]at s
  obtain⟨_,_,ah,al,aw⟩:=aEw hL E
  rw[E]at M
  have ak:=yH s
  have aF:=yH (aQx (bodyL l a) (by omega))
  have p:=yH fun(i:Nat) (z:Int) (B:Option Addr) (m cb:Nat) (W:World) (hB:Bytes W B (bodyL l a)) (hm:(bodyL l a).length=m) (hz:z=(i:Int)) (hi:i+8≤m)=>aFd B (bodyL l a) m cb i z W hB hm (by omega) hi hz
  have V:=yH fun(C:Option Addr) (m cb:Nat) (W:World) (hB:Bytes W C ((bodyL l a).drop 48)) (hm:(bodyL l a).length=m)=>aHc C ((bodyL l a).drop 48) (m-48) cb (itN (bodyL l a)) W hB (by rw[List.length_drop,hm]) (by omega) (by unfold itN;rw[hm])
  rw[aMw,aMx]at V
  have ar:=aHd (l:=l) (a:=a)
  have an:entC0 l a=0→eNum l a 0=u8 (bodyL l a) 0∧eNum l a 8=u8 (bodyL l a) 8∧eNum l a 16=u8 (bodyL l a) 16∧eNum l a 40=u8 (bodyL l a) 40∧eK l a=itK (bodyL l a)∧eN l a=itN (bodyL l a):=fun h=>by
   obtain⟨t1,t2,t3⟩:=aFe h
   exact⟨t1 0,t1 8,t1 16,t1 40,t2,t3⟩
  have u:=yH (And.intro ar an)
  have aK:=yH (show itN (bodyL l a)≤1000000 by unfold itN;omega)
  have HM:=yH fun(m:Nat) (hm:(bodyL l a).length=m)=>show 64≤m∧m≤1000000 by omega
  clear s hb hL h1 E ah al aw ar an
  generalize Y:bodyL l a=c at*
  have aA:=yH Y
  clear Y
  go_enter Tryz.func205,Tryz.ntmps205
  go_upto_region 4 with(go_at_call 210;(with_reducible refine M.out.mono ?_);rintro e w2 ⟨B,m,cb,rfl,d,ai⟩)
  obtain⟨d1,d2,d3,d4,d5⟩:=ai (by first|rfl|trivial)
  have R2:=yH (R0.out.below d R0.out.lt)
  have J:=yH (b0.out.trans (d.mono b0.out.size))
  have D1:=yH d1
  have D:=yH d2
  obtain⟨aP,aT⟩:=HM.out m d2
  have af: ∀W:World,(Instr.slice 26 (.slice B m cb) (some (.int .i64 48)) none none).run Tryz.prog W= .ok (.slice (cutA B cb 48) (m-48) (cb-48)) W:=fun W:World=>aJA B m cb 48 (by omega) W
  have aH: ∀W:World,(Instr.slice 26 (.slice B m cb) (some (.int .i64 24)) (some (.int .i64 40)) none).run Tryz.prog W= .ok (.slice (cutA B cb 24) 16 (cb-24)) W:=fun W:World=>aP1 B m cb 24 40 (by omega) (by omega) W
  have H:=yH (Bytes.cut d1 cb 48 (m-48) (by rw[d2];omega))
  rw[List.take_of_length_le (Nat.le_of_eq (by rw[List.length_drop,d2]))]at H
  have ab:=yH (Bytes.cut d1 cb 24 16 (by rw[d2];omega))
  rw[←aF.out]at ab
  clear d1 d2 d ai
  generalize cutA B cb 48=C1 at*
  generalize cutA B cb 24=C2 at*
  have F:=yH ((yB w2.heap.size w2).alloc (yR _) (zC 299)).drew
  have aa:=yH (H.out.below F.out (yR _))
  have y:=yH (D1.out.below F.out (yR _))
  have ap:=yH (show Blk (w2.alloc (zC 299)).drew w2.heap.size zL 299 from Blk.new w2 zL _)
  have ax:=yH (yR w2.heap.size)
  go_cut [8]from 19 to 30 (fun z wx=> ∃(g:Nat) (r:Option Addr) (n3:Nat),n3=itN c∧z= .pointer (some ⟨g,0,none⟩)∧Hid (Blk wx g (entL (u8 c 0) (u8 c 8) (u8 c 16) (fun _=>0) (u8 c 40) r n3 n3) 299)∧Hid (In2 wx r n3 (itA c) (itH c))∧Hid (∀b off,r=some ⟨b,off,none⟩→b≠g∧w2.heap.size≤b)∧Hid (Below w2.heap.size w2 wx)∧Hid (w2.heap.size≤g))
  case first=>
   go_region_held3 (fun w'=>True) (first|(with_reducible exact trivial)) (first
    |(go_at_call 211;(first|(with_reducible refine(p.out 0 0 _ _ _ _ D1.out.drew D.out rfl (by omega)).mono ?_)|(with_reducible refine(p.out 8 8 _ _ _ _ D1.out.drew D.out rfl (by omega)).mono ?_)|(with_reducible refine(p.out 16 16 _ _ _ _ D1.out.drew D.out rfl (by omega)).mono ?_)|(with_reducible refine(p.out 40 40 _ _ _ _ D1.out.drew D.out rfl (by omega)).mono ?_)|(with_reducible refine(p.out 0 0 _ _ _ _ y.out D.out rfl (by omega)).mono ?_)|(with_reducible refine(p.out 8 8 _ _ _ _ y.out D.out rfl (by omega)).mono ?_)|(with_reducible refine(p.out 16 16 _ _ _ _ y.out D.out rfl (by omega)).mono ?_)|(with_reducible refine(p.out 40 40 _ _ _ _ y.out D.out rfl (by omega)).mono ?_));rintro e w' ⟨rfl,rfl⟩)
    |(go_at_call 220;(with_reducible refine(V.out C1 m (cb-48) _ aa.out D.out).mono ?_);rintro e w3 ⟨r,rfl,t,ac⟩;have aD:=yH t;have aI:=yH ac;have am:=yH (ap.out.below ac (by simp));have aS:=aEH w3 w2.heap.size _ am.out rfl (u8 c 0) (u8 c 8) (u8 c 16) (u8 c 40) r (itN c) (itN c);clear t ac)
    |(go_at_call 220;(with_reducible refine(V.out C1 m (cb-48) _ H.out.drew D.out).mono ?_);rintro e w4 ⟨A4,rfl,ao,aq⟩;have az:=yH ao;have N:=yH aq;have aQ:=aI9 w4 (u8 c 0) (u8 c 8) (u8 c 16) (u8 c 40) A4 (itN c) (itN c);clear ao aq))
   all_goals
    go_wp2_with fail
    go_meet
    case rel=>
     first
     |(obtain⟨g3,rfl,aB,_,aN⟩:=aD.out
       simp only[World.size_drew,World.size_alloc]at aB
       exact⟨w2.heap.size,_,_,rfl,rfl,yH (Blk.setRow am.out (entL (u8 c 0) (u8 c 8) (u8 c 16) (fun _=>0) (u8 c 40) (some ⟨g3,0,none⟩) (itN c) (itN c))),yH (In2.setRow aN (fun b off e=>by injection e with e;injection e with e;omega) _),yH (fun b off e=>by injection e with e;injection e with e;omega),yH (aAi (F.out.trans (aI.out.mono (by simp))) (yR _) _),ax⟩)
     |(obtain⟨g4,rfl,aM,aO,aC⟩:=az.out
       simp only[World.size_drew]at aM
       exact⟨w4.heap.size,_,_,rfl,rfl,yH (Blk.setRow (show Blk (w4.alloc (zC 299)) w4.heap.size zL 299 from Blk.new w4 zL _) (entL (u8 c 0) (u8 c 8) (u8 c 16) (fun _=>0) (u8 c 40) (some ⟨g4,0,none⟩) (itN c) (itN c))),yH (In2.setRow (aC.keep ((yB _ _).alloc (yR _) _)) (fun b off e=>by injection e with e;injection e with e;omega) _),yH (fun b off e=>by injection e with e;injection e with e;omega),yH (aAi (((yB w2.heap.size w2).drew.trans N.out).alloc (Nat.le_trans (by simp) N.out.size) _) (Nat.le_trans (by simp) N.out.size) _),yH (Nat.le_trans (by simp) N.out.size)⟩)
  case rest=>
   obtain⟨g,r,n3,t,rfl,E3,I3,S3,B3,G3⟩:=hcut
   have aj:=yH (ab.out.below B3.out (yR _))
   have aV:=yH (aOp aL.out)
   have Z:=yH fun(W:World) (h:Bytes W C2 (idL (itK c)))=>show ∃ad,C2=some ad∧ ∀j v,((idL (itK c)).map (Value.int .u8))[j]? =some v→W.cell? (ad.add j)=some v from by
    obtain⟨ad,e,au⟩:=h.source W (yB _ _) (by simp[idL])
    refine⟨ad,e,fun j v hj=>?_⟩
    rw[List.getElem?_map]at hj
    obtain⟨x,hx,rfl⟩:=Option.map_eq_some_iff.1 hj
    exact au j x hx
   clear aa y ap H ab F p V af
   go_wp2_with fail
   go_region_law (refine aFf (o:=⟨some 35,_,_,_,_,_⟩) rfl (.tmp 32) (.tmp 34) 26 26 rfl 5 Tryz.underlying26 size8 C2 16 _ 16 _ g 3 rfl rfl _ 299 E3.out.drew ((idL (itK c)).map (Value.int .u8)) rfl (Z.out _ aj.out.drew) (by simp[entL,idL]) (by intro v hv;obtain⟨x,_,rfl⟩:=List.mem_map.1 hv;rfl) ?_;intro w5 L;have E5:=yH (show Blk w5 g (entL (u8 c 0) (u8 c 8) (u8 c 16) (itK c) (u8 c 40) r n3 n3) 299 from L▸(Blk.setRow E3.out.drew (splice (entL (u8 c 0) (u8 c 8) (u8 c 16) (fun _=>0) (u8 c 40) r n3 n3) 3 ((idL (itK c)).map (Value.int .u8)))));have I5:=yH (show In2 w5 r n3 (itA c) (itH c)from L▸In2.setRow (w:=wc.drew) I3.out (fun b off e=>(S3.out b off e).1) _);have B5:=yH (show Below w2.heap.size w2 w5 from L▸aAi (B3.out.drew) G3.out _);clear L)
   have R5:=yH (R2.out.below B5.out R2.out.lt)
   have W5:=yH (J.out.trans (B5.out.mono J.out.size))
   have e0:=E5.out.cell (i:=0) rfl
   have aR:=E5.out.cell (i:=20) rfl
   have R:=yH (aMv r n3 n3 (itA c) (itH c) w5 I5.out (by rw[t];exact aK.out))
   have ae:=yH t
   have aJ:=yH (fun b off (e:r=some ⟨b,off,none⟩)=>show b≠w.heap.size by have h1:=(S3.out b off e).2;have h2:=R2.out.lt;omega)
   have aE:=yH (fun b off (e:r=some ⟨b,off,none⟩)=>show w.heap.size≤b by have h1:=(S3.out b off e).2;have h2:=R2.out.lt;omega)
   clear E3 I3 S3 B3 aj Z t
   generalize u8 c 0=s0 at*
   generalize u8 c 8=s8 at*
   generalize u8 c 16=G at*
   generalize u8 c 40=I at*
   by_cases hz:s0=0
   ·have k:=yH (ak.out.trans (if_pos hz))
    have f:=yH (u.out.1 (by rw[k.out];decide))
    subst hz
    go_wp2_with(refine wpList_store_row rfl 299 (.tmp 4) (.tmp 39) rfl w.heap.size _ rfl rfl 299 _ R5.out aA8 rfl aCt ?_)
    refine bodyPost_ret (v:= .tuple #[entV 0 0 0 (fun _=>0) 0 none 0 0,.int .i64 13]) (by exact aAr Tryz.results205 _ _ w.heap.size 299 _ (0,0) _ _ rfl rfl (Blk.setRow R5.out zL) Tryz.underlying299 rfl aA8) rfl ?_
    unfold EntTold2
    rw[f.out.1,f.out.1,f.out.1,f.out.1,f.out.2.1,f.out.2.2,k.out]
    exact⟨none,0,rfl,aAi W5.out (yR _) _,aBh _ _ _ _,fun b off e=>by cases e⟩
   ·have E:=ak.out.trans (if_neg hz)
    cases hr:risB (itA c) n3 with
    |false=>
     rw[←ae.out,hr]at E
     have k:=yH (E.trans (if_neg (by decide)))
     have f:=yH (u.out.1 (by rw[k.out];decide))
     rw[hr]at R
     clear E hr
     go_wp2_with(first
      |(go_at_call 221;(with_reducible refine R.out.mono ?_);rintro e w6 ⟨rfl,q⟩;have R6:=yH (R5.out.below q R5.out.lt);have W6:=yH (W5.out.trans (q.mono W5.out.size));clear q)
      |(refine wpList_store_row rfl 299 (.tmp 4) (.tmp 44) rfl w.heap.size _ rfl rfl 299 _ R6.out aA8 rfl aCt ?_))
     refine bodyPost_ret (v:= .tuple #[entV 0 0 0 (fun _=>0) 0 none 0 0,.int .i64 11]) (by exact aAr Tryz.results205 _ _ w.heap.size 299 _ (0,0) _ _ rfl rfl (Blk.setRow R6.out zL) Tryz.underlying299 rfl aA8) rfl ?_
     unfold EntTold2
     rw[f.out.1,f.out.1,f.out.1,f.out.1,f.out.2.1,f.out.2.2,k.out]
     exact⟨none,0,rfl,aAi W6.out (yR _) _,aBh _ _ _ _,fun b off e=>by cases e⟩
    |true=>
     rw[←ae.out,hr]at E
     have k:=yH (E.trans (if_pos rfl))
     have f:=yH (u.out.2 k.out)
     rw[hr]at R
     clear E hr
     go_wp2_with(first
      |(go_at_call 221;(with_reducible refine R.out.mono ?_);rintro e w6 ⟨rfl,q⟩;have R6:=yH (R5.out.below q R5.out.lt);have W6:=yH (W5.out.trans (q.mono W5.out.size));have E6:=yH (E5.out.below q E5.out.lt);have I6:=yH (I5.out.keep q);clear q)
      |(refine wpList_load_row rfl 299 (.tmp 8) rfl g rfl 299 (entL s0 s8 G (itK c) I r n3 n3).toArray (0,0) _ E6.out Tryz.underlying299 rfl aA8 ?_)
      |(refine wpList_store_row rfl 299 (.tmp 4) (.tmp 45) rfl w.heap.size (entL s0 s8 G (itK c) I r n3 n3).toArray rfl rfl 299 _ R6.out aA8 rfl (aBB _ _ _ _ _ _ _ _) ?_))
     refine bodyPost_ret (v:= .tuple #[entV s0 s8 G (itK c) I r n3 n3,.int .i64 0]) (by exact aAr Tryz.results205 _ _ w.heap.size 299 _ (0,0) _ _ rfl rfl (Blk.setRow R6.out (entL s0 s8 G (itK c) I r n3 n3)) Tryz.underlying299 rfl aA8) rfl ?_
     unfold EntTold2
     obtain⟨t0,t8,av,ay,tK,tN⟩:=f.out
     rw[t0,t8,av,ay,tK,tN,k.out,←ae.out,aA.out]
     exact⟨r,n3,rfl,aAi W6.out (yR _) _,In2.setRow I6.out (fun b off e=>aJ.out b off e) _,fun b off e=>aE.out b off e⟩
end Yg
namespace Yh
open Bytes8 Blk8 Own8 OwnE Ob Rows2 Kf Yc Yp Yd Ye Yg
def arX (l:List Int)(a:Nat):Int:=if ecode l a 6 8 8=0 then u8 (bodyL l a) 0 else 0
def arM (l:List Int)(a:Nat):Nat:=if ecode l a 6 8 8=0 then arN (bodyL l a)else 0
def ArrTold2 (l:List Int)(a:Nat)(w:World)(e:Ending)(w':World):Prop:=
 ∃A c,e= .returned (.tuple #[arrV (arX l a) A (arM l a) c,.int .i64 (ecode l a 6 8 8)])∧Below w.heap.size w w'∧InInts .u64 w' A (arM l a) (arF (bodyL l a))∧NewIn w.heap.size A
def Part1 (w:World)(g m k:Nat)(f:Nat→Int)(T:TypeId):Prop:=
 ∃vs:List Value,Blk w g vs T∧vs.length=m∧ ∀i,i<k→vs[i]? =some (.int .u64 (f i))
theorem Part1.new (w:World)(m:Nat)(f:Nat→Int)(T:TypeId)(g:Nat)(a:w.heap.size=g):Part1 (w.alloc (.cells (Array.replicate m (Value.int .u64 0)) T)) g m 0 f T:=
 ⟨List.replicate m (.int .u64 0),by subst a;have:=Blk.new w (List.replicate m (.int .u64 0)) T;simpa using this,by simp,fun i hi=>absurd hi (by omega)⟩
theorem Part1.cells {w:World}{g m k:Nat}{f:Nat→Int}{T:TypeId}(b:Part1 w g m k f T)(d:k<m):(∃u,w.cell? ⟨g,k,none⟩=some u)∧w.frozen? ⟨g,k,none⟩=false:=by
 obtain⟨c,a,e,_⟩:=b
 exact⟨⟨c[k],a.cell (yG (by omega))⟩,a.frozen _⟩
theorem Part1.step {w:World}{g m k:Nat}{f:Nat→Int}{T:TypeId}(b:Part1 w g m k f T)(j:k<m):Part1 (w.setCell ⟨g,k,none⟩ (.int .u64 (f k))) g m (k+1) f T:=by
 obtain⟨l,e,d,c⟩:=b
 refine⟨_,e.set_ k _,by simp[d],fun i hi=>?_⟩
 rcases Nat.lt_or_ge i k with a|a
 ·rw[List.getElem?_set,if_neg (by omega)]
  exact c i a
 ·obtain rfl:i=k:=by omega
  rw[List.getElem?_set,if_pos rfl,if_pos (by omega)]
theorem Part1.lt {w:World}{g m k:Nat}{f:Nat→Int}{T:TypeId}(a:Part1 w g m k f T):g<w.heap.size:=by
 obtain⟨c,b,_⟩:=a
 exact b.lt
theorem Part1.blk {w w':World}{g m k:Nat}{f:Nat→Int}{T:TypeId}(a:Part1 w g m k f T)(h:w'.heap[g]? =w.heap[g]?):Part1 w' g m k f T:=by
 obtain⟨b,d,c⟩:=a
 exact⟨b,h.trans d,c⟩
theorem Part1.old {w:World}{g m k:Nat}{f:Nat→Int}{T:TypeId}(a:Part1 w g m k f T)(o:Obj):Part1 (w.alloc o).drew g m k f T:=a.blk (Below.heap_alloc w o g a.lt)
theorem Part1.ints {w:World}{g m:Nat}{f:Nat→Int}{T:TypeId}(b:Part1 w g m m f T)(c: ∀i,0≤f i∧f i≤18446744073709551615):InInts .u64 w (some ⟨g,0,none⟩) m f:=fun i hi=>by
 obtain⟨e,a,j,d⟩:=b
 refine⟨g,0,rfl,a.lt,by rw[Nat.zero_add];exact a.cell (d i hi),?_⟩
 have:=c i
 simp[Lit.wf,IntKind.min,IntKind.max,IntKind.signed,IntKind.bits]
 omega
theorem aMz:(Tryz.prog.info? 59).map (fun i=>(i.zero,i.size,i.bytes))=some (some (.int .u64 0),1,8):=by kernel_rfl
theorem aJa (p:Nat)(z:Int)(a:z=(p:Int))(b:p≤1000000)(w:World):
 (Instr.makeSlice 91 (.int .i64 z) (.int .i64 z)).run Tryz.prog w= .ok (.slice (some ⟨w.heap.size,0,none⟩) p p) (w.alloc (.cells (Array.replicate p (Value.int .u64 0)) 59)):=by
 subst a
 have h:=run_make_row' (P:=Tryz.prog) 91 59 (.int .u64 0) 8 Tryz.underlying91 aMz rfl .i64 .i64 p (by omega) (by omega) w
 have e:madeCells #[Value.int .u64 0] p=Array.replicate p (Value.int .u64 0):=by
  apply Array.ext'
  rw[toList_madeCells_one]
  simp
 rw[e]at h
 exact h
theorem aDX:(Tryz.prog.info? 270).map (·.size)=some 2:=by kernel_rfl
abbrev aL (x:Int)(A:Option Addr)(n c:Nat):List Value:=[.int .u64 x,.slice A n c]
theorem InInts.setRow {k:IntKind}{w:World}{a:Option Addr}{n:Nat}{f:Nat→Int}(o:InInts k w a n f){g:Nat}(m: ∀b c,a=some ⟨b,c,none⟩→b≠g)(d:Array Value):InInts k (w.setRow g d) a n f:=fun i hx=>by
 obtain⟨b,c,e,l,j,p⟩:=o i hx
 exact⟨b,c,e,by simpa using l,(cell_setRow_other w g d _ (m b c e)).trans j,p⟩
theorem aHe (A:Option Addr)(l:List Int)(n s a:Nat)(w:World)(r:Bytes w A l)(hL:l.length=n)(hn:n≤1000000)(hc:n≤s)(aa:s≤maxLen)(ha:a≤18446744073709551615):
 Calls Tryz.prog 187 #[.slice A n s,.int .u64 (a:Int)] w (ArrTold2 l a w):=by
 have b0:=yH ((yB w.heap.size w).alloc (yR _) (arrC 270 0 none 0 0))
 have R0:=yH (show Blk (w.alloc (arrC 270 0 none 0 0)) w.heap.size (aL 0 none 0 0) 270 from Blk.new w _ _)
 have o:=yH (aIc A l n s a 8 8 6 8 8 (w.alloc (arrC 270 0 none 0 0)) (r.below b0.out (yR _)) hL hn hc aa ha (by decide) (by decide) (by decide) (by decide) rfl rfl)
 unfold Bodied2 at o
 have ai:=yH (aDJ (a:=a) r.1)
 have E:ecode l a 6 8 8≠0→arX l a=0∧arM l a=0:=fun h=>⟨if_neg h,if_neg h⟩
 have q:ecode l a 6 8 8=0→arX l a=u8 (bodyL l a) 0∧arM l a=arN (bodyL l a):=fun h=>⟨if_pos h,if_pos h⟩
 by_cases J:ecode l a 6 8 8≠0
 ·have Y:=yH (E J)
  have HX:=yH J
  obtain⟨cd,D⟩: ∃cd,cd=ecode l a 6 8 8:=⟨_,rfl⟩
  rw[←D]at o HX J
  have F:=yH D
  clear D E q r hL
  go_enter Tryz.func187,Tryz.ntmps187
  go_wp2_with(first
   |(go_at_call 210;(with_reducible refine o.out.mono ?_);rintro e w2 ⟨B,m,cb,rfl,c,_⟩;have y:=yH (R0.out.below c R0.out.lt);have u:=yH (b0.out.trans (c.mono b0.out.size));clear c)
   |(refine wpList_store_row rfl 270 (.tmp 4) (.tmp 18) rfl w.heap.size _ rfl rfl 270 _ y.out aDX rfl (by simp[Value.oneCell']) ?_))
  refine bodyPost_ret (v:= .tuple #[arrV 0 none 0 0,.int .i64 cd]) (by exact aAr Tryz.results187 _ _ w.heap.size 270 _ (0,0) _ _ rfl rfl (Blk.setRow y.out (aL 0 none 0 0)) Tryz.underlying270 rfl aDX) rfl ?_
  unfold ArrTold2
  rw[Y.out.1,Y.out.2,←F.out]
  exact⟨none,0,rfl,aAi u.out (yR _) _,fun i hi=>absurd hi (by omega),fun b off e=>by cases e⟩
 ·have X:ecode l a 6 8 8=0:=by omega
  obtain⟨_,_,M,L,ad⟩:=aEw hL X
  rw[X]at o
  have F:=yH X
  have Y:=yH (q X)
  have j:=yH fun(i:Nat) (z:Int) (B:Option Addr) (m cb:Nat) (W:World) (hB:Bytes W B (bodyL l a)) (hm:(bodyL l a).length=m) (hz:z=(i:Int)) (hi:i+8≤m)=>aFd B (bodyL l a) m cb i z W hB hm (by omega) hi hz
  have HM:=yH fun(m:Nat) (hm:(bodyL l a).length=m)=>show 16≤m∧m≤1000000∧arN (bodyL l a)=(m-8)/8 from⟨by omega,by omega,by unfold arN;rw[hm]⟩
  clear E q r hL J X M L ad
  generalize x:bodyL l a=f at*
  have aj:=yH x
  clear x
  go_enter Tryz.func187,Tryz.ntmps187
  go_upto_region 4 with(go_at_call 210;(with_reducible refine o.out.mono ?_);rintro e w2 ⟨B,m,cb,rfl,c,R⟩)
  obtain⟨d1,d2,d3,d4,d5⟩:=R (by first|rfl|trivial)
  have y:=yH (R0.out.below c R0.out.lt)
  have u:=yH (b0.out.trans (c.mono b0.out.size))
  have I:=yH d1
  have G:=yH d2
  obtain⟨ap,au,C⟩:=HM.out m d2
  obtain⟨t,ht⟩: ∃t,t=(m-8)/8:=⟨_,rfl⟩
  rw[←ht]at C
  have ak:IntKind.i64.wrap ((m:Int)-8)=(m:Int)-8:=by rw[IntKind.wrap_i64];omega
  have hq:((m:Int)-8).tdiv 8=(t:Int):=by rw[Int.tdiv_eq_ediv_of_nonneg (by omega)];omega
  have ao:((m:Int)-8)/8=(t:Int):=by omega
  have ag:IntKind.i64.wrap (t:Int)=(t:Int):=by rw[IntKind.wrap_i64];omega
  have am:=aJa t (t:Int) rfl (by omega)
  have an:=yH C
  have h8:8*t+8≤m:=by omega
  have aw:=yH (yR w2.heap.size)
  clear d1 d2 c R C ht
  have H:=yH ((yB w2.heap.size w2).alloc (yR _) (.cells (Array.replicate t (Value.int .u64 0)) 59))
  have Bb:=yH ((yB w2.heap.size w2).alloc (yR _) (arrC 270 0 none 0 0))
  have Da:=yH (I.out.below H.out (yR _)).drew
  have Db:=yH (I.out.below Bb.out (yR _)).drew
  have Dc:=yH (I.out.below (H.out.alloc H.out.size (arrC 270 0 none 0 0)) (yR _)).drew
  have Dd:=yH (I.out.below (Bb.out.alloc Bb.out.size (.cells (Array.replicate t (Value.int .u64 0)) 59)) (yR _)).drew
  go_cut [8]from 20 to 27 (fun z wx=> ∃(g d:Nat),z= .pointer (some ⟨g,0,none⟩)∧g≠d∧Hid (Blk wx g (aL (u8 f 0) (some ⟨d,0,none⟩) t t) 270)∧Hid (Part1 wx d t 0 (arF f) 59)∧Hid (Below w2.heap.size w2 wx)∧Hid (w2.heap.size≤g∧w2.heap.size≤d))
  case first=>
   go_region_held3 (fun w'=>True) (first|(with_reducible exact trivial)) (first
    |(go_at_call 211;(with_reducible refine(j.out 0 0 _ _ _ _ I.out.drew G.out rfl (by omega)).mono ?_);rintro e w' ⟨rfl,rfl⟩)
    |(go_at_call 211;(with_reducible refine(j.out 0 0 _ _ _ _ Da.out G.out rfl (by omega)).mono ?_);rintro e w' ⟨rfl,rfl⟩)
    |(go_at_call 211;(with_reducible refine(j.out 0 0 _ _ _ _ Db.out G.out rfl (by omega)).mono ?_);rintro e w' ⟨rfl,rfl⟩)
    |(go_at_call 211;(with_reducible refine(j.out 0 0 _ _ _ _ Dc.out G.out rfl (by omega)).mono ?_);rintro e w' ⟨rfl,rfl⟩)
    |(go_at_call 211;(with_reducible refine(j.out 0 0 _ _ _ _ Dd.out G.out rfl (by omega)).mono ?_);rintro e w' ⟨rfl,rfl⟩))
   all_goals
    go_wp2_with fail
    go_meet
    case rel=>
     first
     |exact⟨w2.heap.size+1,w2.heap.size,rfl,by omega,yH (Blk.new_at (w2.alloc (.cells (Array.replicate t (Value.int .u64 0)) 59)) (aL (u8 f 0) (some ⟨w2.heap.size,0,none⟩) t t) 270 (w2.heap.size+1) (by simp)).drew,yH (Part1.old (Part1.new w2 t (arF f) 59 w2.heap.size rfl) _),yH (H.out.alloc H.out.size _).drew,yH ⟨by omega,yR _⟩⟩
     |exact⟨w2.heap.size,w2.heap.size+1,rfl,by omega,yH ((Blk.new_at w2 (aL (u8 f 0) (some ⟨w2.heap.size+1,0,none⟩) t t) 270 w2.heap.size rfl).alloc _).drew,yH (Part1.new (w2.alloc (.cells (aL (u8 f 0) (some ⟨w2.heap.size+1,0,none⟩) t t).toArray 270)) t (arF f) 59 (w2.heap.size+1) (by simp)),yH ((((yB w2.heap.size w2).alloc (yR _) _).alloc (by simp) _).drew),yH ⟨yR _,by omega⟩⟩
  case rest=>
   obtain⟨g,d,rfl,ae,E3,P3,B3,G3⟩:=hcut
   clear H Bb Da Db Dc Dd am hq ao ag ak
   have Z:=yH ae
   have q1:=E3.out.cell (i:=1) rfl
   go_wp2_with fail
   go_loopw [31] (fun i wr=> ∃k:Nat,k≤t∧i= .int .i64 (k:Int)∧Hid (Part1 wr d t k (arF f) 59)∧Hid (Blk wr g (aL (u8 f 0) (some ⟨d,0,none⟩) t t) 270)∧Hid (Below w2.heap.size w2 wr)) (fun i _=>t-(intOf i).toNat)
   case atStart=>exact⟨0,Nat.zero_le _,rfl,P3,E3,B3⟩
   case round=>
    obtain⟨k,hk,rfl,hp,N,r⟩:=hrel
    have r0:=N.out.cell (i:=0) rfl
    have r1:=N.out.cell (i:=1) rfl
    by_cases V:k<t
    ·obtain⟨⟨v1,c1⟩,f1⟩:=hp.out.cells V
     have ac:wr.drew.cell? ⟨g,1,none⟩=some (.slice (some ⟨d,0,none⟩) t t):=r1
     have ab:(wr.setCell ⟨d,k,none⟩ (.int .u64 (u8 f (8+8*k)))).drew.cell? ⟨g,1,none⟩=some (.slice (some ⟨d,0,none⟩) t t):=(N.out.far (p:=⟨d,k,none⟩) (fun e=>Z.out e) _).drew.cell (i:=1) rfl
     have av:wr.drew.cell? ⟨d,k,none⟩=some v1:=c1
     have ar:wr.drew.frozen? ⟨d,k,none⟩=false:=f1
     have HS:=yH (hp.out.step V)
     have ah:arF f k=u8 f (8+8*k):=rfl
     rw[ah]at HS
     have Dr:=yH (I.out.below r.out (yR _)).drew
     have ax:IntKind.i64.wrap ((k:Int)*8)=(k:Int)*8:=by rw[IntKind.wrap_i64];omega
     have aq:IntKind.i64.wrap (8+(k:Int)*8)=8+(k:Int)*8:=by rw[IntKind.wrap_i64];omega
     have ay:(0:Int)≤(k:Int):=by omega
     have az:(k:Int)<(t:Int):=by omega
     go_wp2_with fail
     go_region_held3 (fun W=>W.cell? ⟨g,1,none⟩=some (.slice (some ⟨d,0,none⟩) t t)) (first|(with_reducible exact ac)|(with_reducible exact ab)|go_keep) (first
      |(go_at_call 211;(with_reducible refine(j.out (8+8*k) _ _ _ _ _ Dr.out G.out (by omega) (by omega)).mono ?_);rintro e w' ⟨rfl,rfl⟩))
     all_goals
      go_wp2
      go_roundw
      case rel=>exact⟨k+1,by omega,by go_num,yH (HS.out.blk rfl),yH ((N.out.far (fun e=>Z.out e) _).drew),yH ((r.out.setCell G3.out.2 _).drew)⟩
      case measure=>simp[intOf];omega
    ·obtain rfl:k=t:=by omega
     have HI:=yH (hp.out.ints (fun i=>aCE ai.out _))
     have R3:=yH (y.out.below r.out y.out.lt)
     have W3:=yH (u.out.trans (r.out.mono u.out.size))
     have af:=yH (show d≠w.heap.size by have J:=G3.out.2;have h2:=y.out.lt;omega)
     have al:=yH (show w.heap.size≤d by have J:=G3.out.2;have h2:=y.out.lt;omega)
     go_wp2_with(first
      |(refine wpList_load_row rfl 270 (.tmp 8) rfl g rfl 270 (aL (u8 f 0) (some ⟨d,0,none⟩) k k).toArray (0,0) _ N.out Tryz.underlying270 rfl aDX ?_)
      |(refine wpList_store_row rfl 270 (.tmp 4) (.tmp 44) rfl w.heap.size (aL (u8 f 0) (some ⟨d,0,none⟩) k k).toArray rfl rfl 270 _ R3.out aDX rfl (by simp[Value.oneCell']) ?_))
     refine bodyPost_ret (v:= .tuple #[arrV (u8 f 0) (some ⟨d,0,none⟩) k k,.int .i64 0]) (by exact aAr Tryz.results187 _ _ w.heap.size 270 _ (0,0) _ _ rfl rfl (Blk.setRow R3.out (aL (u8 f 0) (some ⟨d,0,none⟩) k k)) Tryz.underlying270 rfl aDX) rfl ?_
     unfold ArrTold2
     rw[F.out,Y.out.1,Y.out.2,an.out,aj.out]
     exact⟨_,k,rfl,aAi W3.out (yR _) _,InInts.setRow HI.out (fun b off e=>by injection e with e;injection e with e;have:=af.out;omega) _,fun b off e=>by injection e with e;injection e with e;have:=al.out;omega⟩
end Yh
namespace Yq
end Yq
namespace Yj
open Ob Yc
theorem aN2 (f g:Nat→Int)(n i:Nat)(h:i<n):(prs f g n)[i*2]? =some (f i)∧(prs f g n)[i*2+1]? =some (g i):=by
 induction n with
 |zero=>omega
 |succ n ih=>
  have b:=aFQ f g n
  rw[aB7]
  rcases Nat.lt_or_ge i n with a|a
  ·rw[List.getElem?_append_left (by omega),List.getElem?_append_left (by omega)]
   exact ih a
  ·obtain rfl:i=n:=by omega
   rw[List.getElem?_append_right (by omega),List.getElem?_append_right (by omega),show i*2-(prs f g i).length=0 by omega,show i*2+1-(prs f g i).length=1 by omega]
   exact⟨rfl,rfl⟩
theorem aMA (f g:Nat→Int)(n i:Nat)(h:i<n):(prs f g n).getD (2*i) 0=f i∧(prs f g n).getD (2*i+1) 0=g i:=by
 obtain⟨a,b⟩:=aN2 f g n i h
 rw[Nat.mul_comm 2 i,yD,yD,a,b]
 exact⟨rfl,rfl⟩
def Wd (f:Nat→Int)(n:Nat):Prop:= ∀i,i<n→0≤f i∧f i≤18446744073709551615
theorem nums_at (l m:List Int)(i j:Nat)(b:j=8*i)(c:i<l.length)(a:0≤l.getD i 0∧l.getD i 0≤18446744073709551615):u8 (nums l++m) j=l.getD i 0:=by
 subst b
 exact aD8 l m i c a
theorem aMB (f g:Nat→Int)(n i:Nat)(h:i<n)(c:Wd f n)(d:Wd g n)(m:List Int):u8 (nums (prs f g n)++m) (16*i)=f i∧u8 (nums (prs f g n)++m) (16*i+8)=g i:=by
 obtain⟨b,a⟩:=aMA f g n i h
 have e:=aFQ f g n
 refine⟨(nums_at _ m (2*i) _ (by omega) (by omega) (by rw[b];exact c i h)).trans b,(nums_at _ m (2*i+1) _ (by omega) (by omega) (by rw[a];exact d i h)).trans a⟩
end Yj
end Go.Proofs.YteaikbodkgjkdaaGreat
