/-
  Texts beneath the proof.
-/
import Derived.Test.YtiddkgcafpaekaaGreatJq12
set_option linter.unusedVariables false
set_option linter.unusedSimpArgs false
set_option maxRecDepth 100000
set_option maxHeartbeats 4000000
open Go.ChangeShapes Go.WideShapes Go.ChangeAt Go.RowKit
namespace Go.Proofs.YtiddkgcafpaekaaGreat
namespace Yf
open Bytes8 Blk8 Own8 OwnE Ob Rows2 Kf Yc Yp Ye
def New2 (f h:Nat→Int)(m:Nat)(w:World)(A:Option Addr)(w':World):Prop:= ∃g,A=some ⟨g,0,none⟩∧w.heap.size≤g∧g<w'.heap.size∧In2 w' A m f h
theorem itemsOf_any (A:Option Addr)(l:List Int)(n cap m:Nat)(w:World)(hb:Bytes w A l)(hL:l.length=n)(hn:n≤1000000)(hm:n/16=m):
 Calls Tryz.prog 255 #[.slice A n cap] w fun e w'=> ∃A',e= .returned (.slice A' m m)∧New2 (taA l) (taB l) m w A' w'∧Below w.heap.size w w':=by
 have hq:IntKind.i64.wrap ((n:Int).tdiv 16)=(m:Int):=by rw[Int.tdiv_eq_ediv_of_nonneg (by omega),IntKind.wrap_i64];omega
 have hq1:(n:Int).tdiv 16=(m:Int):=by rw[Int.tdiv_eq_ediv_of_nonneg (by omega)];omega
 have hmk:=make_two 254 268 Tryz.underlying254 itemInfo m (m:Int) rfl (by omega)
 have P0:=yH (Part2.new w m (taA l) (taB l) 268)
 have B0:=yH ((Below.refl w.heap.size w).alloc (yR _) (.cells (Array.replicate (m*2) (Value.int .u64 0)) 268))
 have HN:=yH fun(W:World) (i:Nat) (z:Int) (h:Below w.heap.size w W) (hi:i+8≤n) (hz:z=(i:Int))=>number_e A l n cap i z W (hb.below h (yR _)) hL hn hi hz
 have HA:=yH hb.1
 clear hb hL
 unfold New2
 go_enter Tryz.func255,Tryz.ntmps255
 go_wp2
 go_loopw [11] (fun i wr=> ∃k:Nat,k≤m∧i= .int .i64 (k:Int)∧Hid (Part2 wr w.heap.size m k (taA l) (taB l) 268)∧Hid (Below w.heap.size w wr)) (fun i _=>m-(intOf i).toNat)
 case atStart=>exact⟨0,Nat.zero_le _,rfl,P0,B0⟩
 case round=>
  obtain⟨k,hk,rfl,hp,hb⟩:=hrel
  by_cases hlt:k<m
  ·obtain⟨⟨v1,v2,c1,c2⟩,f1,f2⟩:=hp.out.cells hlt
   have HS:=yH (hp.out.step hlt)
   have hp1:taA l k=u8 l (16*k):=rfl
   have hp2:taB l k=u8 l (16*k+8):=rfl
   rw[hp1,hp2]at HS
   go_wp2_with(first
    |(go_at_call 203;(with_reducible refine(HN.out _ (16*k) _ hb.out (by omega) (by omega)).mono ?_);rintro e w' ⟨rfl,rfl⟩)
    |(go_at_call 203;(with_reducible refine(HN.out _ (16*k+8) _ hb.out (by omega) (by omega)).mono ?_);rintro e w' ⟨rfl,rfl⟩))
   go_roundw
   case rel=>exact⟨k+1,by omega,by go_num,HS,yH ((hb.out.setCell (yR _) _).setCell (yR _) _)⟩
   case measure=>simp[intOf];omega
  ·obtain rfl:k=m:=by omega
   go_wp2
   go_ret
   exact⟨_,rfl,⟨w.heap.size,rfl,yR _,hp.out.lt,hp.out.in2 (fun i=>u8_bd HA.out _) (fun i=>u8_bd HA.out _)⟩,hb.out⟩
theorem rise_any (A:Option Addr)(n cap:Nat)(f h:Nat→Int)(w:World)(hi:In2 w A n f h)(hn:n≤1000000):
 Calls Tryz.prog 256 #[.slice A n cap] w fun e w'=>e= .returned (.bool (risB f n))∧Below w.heap.size w w':=by
 have HI:=yH hi
 obtain⟨z,hz⟩: ∃z,z=risB f n:=⟨_,rfl⟩
 rw[←hz]
 have HZ:=yH hz
 clear hi hz
 go_enter Tryz.func256,Tryz.ntmps256
 go_wp2
 go_loopw [3] (fun i wr=> ∃k:Nat,1≤k∧(k≤n∨k=1)∧i= .int .i64 (k:Int)∧Hid (risB f k=true)∧Hid (Below w.heap.size w wr)) (fun i _=>n-(intOf i).toNat)
 case atStart=>exact⟨1,yR _,.inr rfl,rfl,yH rfl,yH (Below.refl _ _)⟩
 case round=>
  obtain⟨k,hk1,hk,rfl,hr,hb⟩:=hrel
  by_cases hlt:k<n
  ·obtain⟨j,rfl⟩: ∃j,k=j+1:=⟨k-1,by omega⟩
   obtain⟨b,off,ea,hb1,c1,_,_,_⟩:=(HI.out.keep hb.out) (j+1) hlt
   obtain⟨b2,off2,eb,_,d1,_,_,_⟩:=(HI.out.keep hb.out) j (by omega)
   rw[ea]at eb
   simp at eb
   obtain⟨rfl,rfl⟩:=eb
   subst ea
   have hs:=risB_succ f (j+1) (by omega)
   rw[hr.out,Bool.true_and]at hs
   have hm:=fun h=>risB_mono (f:=f) (n:=n) (m:=j+2) h (by omega)
   have c1':=(show wr.drew.cell? ⟨b,off+(j+1)*2,none⟩=some (.int .u64 (f (j+1)))from c1)
   have d1':=(show wr.drew.cell? ⟨b,off+j*2,none⟩=some (.int .u64 (f j))from d1)
   have hw:IntKind.i64.wrap (((j+1:Nat):Int)-1)=(j:Int):=by rw[IntKind.wrap_i64];omega
   have hw1:((j+1:Nat):Int)-1=(j:Int):=by omega
   have hnn:(0:Int)≤((j+1:Nat):Int):=by omega
   by_cases hle:f (j+1)≤f j
   ·have hf:risB f n=false:=by
     cases hq:risB f n with
     |false=>rfl
     |true=>have:=hm hq;rw[hs]at this;simp at this;omega
    have hzf:z=false:=HZ.out.trans hf
    subst hzf
    clear hf hm hs hr
    go_wp2
    go_region
    all_goals
     go_wp2
     go_ret
     exact⟨rfl,hb.out.drew⟩
   ·have hs2:risB f (j+2)=true:=by rw[hs];simp;omega
    have HS2:=yH hs2
    clear hs2 hs hm
    go_wp2
    go_region
    all_goals
     go_wp2
     go_roundw
     case rel=>exact⟨j+2,by omega,by omega,by go_num,HS2,yH hb.out.drew⟩
     case measure=>simp[intOf];omega
  ·have:risB f n=true:=by
    rcases hk with h|h
    ·obtain rfl:k=n:=by omega
     exact hr.out
    ·subst h
     have:n=0∨n=1:=by omega
     rcases this with rfl|rfl<;>rfl
   have hzf:z=true:=HZ.out.trans this
   subst hzf
   clear this
   go_wp2
   go_ret
   exact⟨rfl,hb.out⟩
end Yf
namespace Yg
open Bytes8 Blk8 Own8 OwnE LeP Ob Rows2 Kf Yc Yp Yd Ye Yf
theorem res_row {P:Program}{fn:Func}{p u:Tmp}{ty:TypeId}(h:fn.results= #[.cell p ty,.tmp u])(tmps:Array Value)(w:World)(g:Nat)(t:TypeId)(cs:Array Value)(fr:Nat×Nat)(d:TypeDesc)(c:Value)
 (hp:tmps.getD p undef= .pointer (some ⟨g,0,none⟩))(hc:tmps.getD u undef=c)(hg:w.heap[g]? =some (.cells cs t fr))(hu:P.underlying ty=some d)(hd:(match d with| .struct _| .array _ _=>true|_=>false)=true)(hi:(P.info? ty).map (·.size)=some cs.size):
 (results fn tmps).run P w= .ok (.tuple #[.agg cs,c]) w:=by
 rw[results_cell_tmp h,hp,hc]
 simp[asAddr,run_loadVar_row w g t ty cs fr d hg hu hd hi,Result.andThen]
theorem Blk.setRow {w:World}{g:Nat}{vs:List Value}{T:TypeId}(h:Blk w g vs T)(cs:List Value):Blk (w.setRow g cs.toArray) g cs T:=setRow_heap w g _ _ T (0,0) h
theorem setRow_keepB {B:Nat}{w0 w:World}(hb:Below B w0 w){g:Nat}(hg:B≤g)(cs:Array Value):Below B w0 (w.setRow g cs):=below_setRow hb hg cs
theorem In2.setRow {w:World}{a:Option Addr}{n:Nat}{f h:Nat→Int}(hi:In2 w a n f h){g:Nat}(hg: ∀b off,a=some ⟨b,off,none⟩→b≠g)(cs:Array Value):In2 (w.setRow g cs) a n f h:=fun i hx=>by
 obtain⟨b,off,e,h1,h2,h3,h4⟩:=hi i hx
 have hne:=hg b off e
 exact⟨b,off,e,by simpa using h1,(cell_setRow_other w g cs _ hne).trans h2,(cell_setRow_other w g cs _ hne).trans h3,h4⟩
def eNum (l:List Int)(a i:Nat):Int:=if entC0 l a=0 then u8 (bodyL l a) i else 0
def eK (l:List Int)(a:Nat):Nat→Int:=if entC0 l a=0 then itK (bodyL l a)else fun _=>0
def eN (l:List Int)(a:Nat):Nat:=if entC0 l a=0 then itN (bodyL l a)else 0
def NewIn (B:Nat)(A:Option Addr):Prop:= ∀b off,A=some ⟨b,off,none⟩→B≤b
def EntTold2 (l:List Int)(a:Nat)(w:World)(e:Ending)(w':World):Prop:=
 ∃A c,e= .returned (.tuple #[entV (eNum l a 0) (eNum l a 8) (eNum l a 16) (eK l a) (eNum l a 40) A (eN l a) c,.int .i64 (entC0 l a)])∧Below w.heap.size w w'∧In2 w' A (eN l a) (itA (bodyL l a)) (itH (bodyL l a))∧NewIn w.heap.size A
theorem told_no {l:List Int}{a:Nat}(h:entC0 l a≠0):(∀i,eNum l a i=0)∧eK l a=(fun _=>0)∧eN l a=0:=⟨fun i=>if_neg h,if_neg h,if_neg h⟩
theorem told_yes {l:List Int}{a:Nat}(h:entC0 l a=0):(∀i,eNum l a i=u8 (bodyL l a) i)∧eK l a=itK (bodyL l a)∧eN l a=itN (bodyL l a):=⟨fun i=>if_pos h,if_pos h,if_pos h⟩
abbrev zL:List Value:=[.int .u64 0,.int .u64 0,.int .u64 0,.int .u8 0,.int .u8 0,.int .u8 0,.int .u8 0,.int .u8 0,.int .u8 0,.int .u8 0,.int .u8 0,.int .u8 0,.int .u8 0,.int .u8 0,.int .u8 0,.int .u8 0,.int .u8 0,.int .u8 0,.int .u8 0,.int .u64 0,.slice none 0 0]
abbrev zC (T:TypeId):Obj:= .cells #[.int .u64 0,.int .u64 0,.int .u64 0,.int .u8 0,.int .u8 0,.int .u8 0,.int .u8 0,.int .u8 0,.int .u8 0,.int .u8 0,.int .u8 0,.int .u8 0,.int .u8 0,.int .u8 0,.int .u8 0,.int .u8 0,.int .u8 0,.int .u8 0,.int .u8 0,.int .u64 0,.slice none 0 0] T
theorem entInfo:(Tryz.prog.info? 256).map (·.size)=some 21:=by kernel_rfl
theorem z_one:zL.toArray.all (·.oneCell')=true:=by simp[Value.oneCell']
theorem ent_one (s r m:Int)(K:Nat→Int)(x:Int)(A:Option Addr)(n c:Nat):(entL s r m K x A n c).toArray.all (·.oneCell')=true:=by simp[entL,Value.oneCell']
theorem in2_none (w:World)(A:Option Addr)(f h:Nat→Int):In2 w A 0 f h:=fun i hi=>absurd hi (by omega)
def stE (p v:Value):Sem Unit:=Instr.storeAt 256 p v
theorem st_fold (p v:Value):Instr.storeAt 256 p v=stE p v:=rfl
theorem store_ent0 (w:World)(g:Nat)(vs:List Value)(h:Blk w g vs 256)(hl:vs.length=21)(s r m x:Int)(A:Option Addr)(n c:Nat):
 (stE (.pointer (some ⟨g,0,none⟩)) (.agg #[.int .u64 s,.int .u64 r,.int .u64 m,.int .u8 0,.int .u8 0,.int .u8 0,.int .u8 0,.int .u8 0,.int .u8 0,.int .u8 0,.int .u8 0,.int .u8 0,.int .u8 0,.int .u8 0,.int .u8 0,.int .u8 0,.int .u8 0,.int .u8 0,.int .u8 0,.int .u64 x,.slice A n c])).run Tryz.prog w= .ok () (w.setRow g #[.int .u64 s,.int .u64 r,.int .u64 m,.int .u8 0,.int .u8 0,.int .u8 0,.int .u8 0,.int .u8 0,.int .u8 0,.int .u8 0,.int .u8 0,.int .u8 0,.int .u8 0,.int .u8 0,.int .u8 0,.int .u8 0,.int .u8 0,.int .u8 0,.int .u8 0,.int .u64 x,.slice A n c]):=by
 unfold stE
 simp only[Instr.storeAt,Instr.sureAddr,Sem.run_bind,Sem.run_pure,Result.andThen_ok]
 exact run_storeVar_row w g 256 256 vs.toArray #[.int .u64 s,.int .u64 r,.int .u64 m,.int .u8 0,.int .u8 0,.int .u8 0,.int .u8 0,.int .u8 0,.int .u8 0,.int .u8 0,.int .u8 0,.int .u8 0,.int .u8 0,.int .u8 0,.int .u8 0,.int .u8 0,.int .u8 0,.int .u8 0,.int .u8 0,.int .u64 x,.slice A n c] h entInfo (by simp[hl]) (by simp[Value.oneCell'])
theorem store_new0 (w:World)(s r m x:Int)(A:Option Addr)(n c:Nat):
 (stE (.pointer (some ⟨w.heap.size,0,none⟩)) (.agg #[.int .u64 s,.int .u64 r,.int .u64 m,.int .u8 0,.int .u8 0,.int .u8 0,.int .u8 0,.int .u8 0,.int .u8 0,.int .u8 0,.int .u8 0,.int .u8 0,.int .u8 0,.int .u8 0,.int .u8 0,.int .u8 0,.int .u8 0,.int .u8 0,.int .u8 0,.int .u64 x,.slice A n c])).run Tryz.prog (w.alloc (zC 256))= .ok () ((w.alloc (zC 256)).setRow w.heap.size #[.int .u64 s,.int .u64 r,.int .u64 m,.int .u8 0,.int .u8 0,.int .u8 0,.int .u8 0,.int .u8 0,.int .u8 0,.int .u8 0,.int .u8 0,.int .u8 0,.int .u8 0,.int .u8 0,.int .u8 0,.int .u8 0,.int .u8 0,.int .u8 0,.int .u8 0,.int .u64 x,.slice A n c]):=
 store_ent0 _ _ _ (show Blk (w.alloc (zC 256)) w.heap.size zL 256 from Blk.new w zL _) rfl s r m x A n c
theorem u8_drop (l:List Int)(p i:Nat):u8 (l.drop p) i=u8 l (p+i):=by unfold u8;rw[List.drop_drop]
theorem taA_drop (l:List Int):taA (l.drop 48)=itA l:=by funext i;unfold taA itA;rw[u8_drop]
theorem taB_drop (l:List Int):taB (l.drop 48)=itH l:=by funext i;unfold taB itH;rw[u8_drop,Nat.add_assoc]
open Go.RowKit in
theorem step_copy_set {P:Program}{ops:Array Oper}{o:Oper}{a:Act}{w:World}{K:Act→World→Prop}{Q:Exit→Act→World→Prop}{E:Prop}(hgd:o.guard=none)(d s:Operand)(dT sT:TypeId)
 (ho:o.op= .call {callee:= .builtin .copy,args:= #[d,s],argTypes:= #[dT,sT]})(elem:TypeId)(hu:P.underlying dT=some (.slice elem))(hsz:(P.info? elem).map (·.size)=some 1)
 (sp:Option Addr)(dLen dCap sLen sCap g off:Nat)(hd:a.eval d= .slice (some ⟨g,off,none⟩) dLen dCap)(hs:a.eval s= .slice sp sLen sCap)
 (cur:List Value)(t:TypeId)(hg:w.heap[g]? =some (.cells cur.toArray t (0,0)))(cs:List Value)(hn:cs.length=Nat.min sLen dLen)
 (hpos: ∃ad,sp=some ad∧ ∀j v,cs[j]? =some v→w.cell? (ad.add j)=some v)
 (hfit:off+cs.length≤cur.length)(h1: ∀v∈cs,v.oneCell'=true)
 (h: ∀w',w'=w.setRow g (splice cur off cs).toArray→K (a.put o.dst (goInt cs.length)) w'):
 if Region.wanted o (yielded ops a.tmps)=true then Oper.wp P o a w K Q else E:=by
 have hw:Region.wanted o (yielded ops a.tmps)=true:=by simp[Region.wanted,hgd]
 rw[if_pos hw]
 obtain⟨ad,rfl,hsrc⟩:=hpos
 have hrun:=run_copy_row (P:=P) w dT sT o.type elem g off dLen dCap ad sLen sCap cur.toArray t cs hu hsz hg hn hsrc (by simpa using hfit) h1
 unfold Oper.wp
 simp[execOp,ho,resolve,invoke,builtin,hd,hs,hrun,Result.andThen]
 exact h _ (by simp[splice])
attribute [local go_sem ↓] st_fold
theorem read_e_n (A:Option Addr)(l:List Int)(n cap a:Nat)(w:World)(hb:Bytes w A l)(hL:l.length=n)(hn:n≤1000000)(hc:n≤cap)(hcm:cap≤maxLen)(ha:a≤18446744073709551615):
 Calls Tryz.prog 239 #[.slice A n cap,.int .u64 (a:Int)] w (EntTold2 l a w):=by
 have b0:=yH ((Below.refl w.heap.size w).alloc (yR _) (zC 256))
 have R0:=yH (show Blk (w.alloc (zC 256)) w.heap.size zL 256 from Blk.new w zL _)
 have HBo:=yH (bodyOf_z A l n cap a 48 16 3 48 16 (w.alloc (zC 256)) (hb.below b0.out (yR _)) hL hn hc hcm ha (by decide) (by decide) (by decide) (by decide) rfl rfl)
 unfold Bodied2 at HBo
 have HAb:=yH (body_all (a:=a) hb.1)
 have hcd:entC0 l a=if ecode l a 3 48 16≠0 then ecode l a 3 48 16 else if u8 (bodyL l a) 0=0 then 13 else if risB (itA (bodyL l a)) (itN (bodyL l a))then 0 else 11:=rfl
 have HLt:=yH (Nat.lt_succ_self w.heap.size)
 by_cases h1:ecode l a 3 48 16≠0
 ·rw[if_pos h1]at hcd
  have hne:entC0 l a≠0:=by rw[hcd];exact h1
  have HF:=yH (told_no hne)
  have HCe:=yH hcd
  have HX:=yH h1
  clear hcd hne hb hL
  generalize ecode l a 3 48 16=cd at*
  go_enter Tryz.func239,Tryz.ntmps239
  go_wp2_with(first
   |(go_at_call 202;(with_reducible refine HBo.out.mono ?_);rintro e w2 ⟨B,m,cb,rfl,hbel,_⟩;have R2:=yH (R0.out.below hbel R0.out.lt);have HB2:=yH (b0.out.trans (hbel.mono b0.out.size));clear hbel)
   |(refine wpList_store_row rfl 256 (.tmp 4) (.tmp 17) rfl w.heap.size _ rfl rfl 256 _ R2.out entInfo rfl z_one ?_))
  refine bodyPost_ret (v:= .tuple #[entV 0 0 0 (fun _=>0) 0 none 0 0,.int .i64 cd]) (by exact res_row Tryz.results239 _ _ w.heap.size 256 _ (0,0) _ _ rfl rfl (Blk.setRow R2.out zL) Tryz.underlying256 rfl entInfo) rfl ?_
  unfold EntTold2
  rw[HF.out.1,HF.out.1,HF.out.1,HF.out.1,HF.out.2.1,HF.out.2.2,HCe.out]
  exact⟨none,0,rfl,setRow_keepB HB2.out (yR _) _,in2_none _ _ _ _,fun b off e=>by cases e⟩
 ·have h0:ecode l a 3 48 16=0:=by omega
  rw[if_neg h1]at hcd
  obtain⟨_,_,hlen,hmod,hln⟩:=ecode_there hL h0
  rw[h0]at HBo
  have HCd:=yH hcd
  have HIK:=yH (itK_L (bodyL l a) (by omega))
  have HNu:=yH fun(i:Nat) (z:Int) (B:Option Addr) (m cb:Nat) (W:World) (hB:Bytes W B (bodyL l a)) (hm:(bodyL l a).length=m) (hz:z=(i:Int)) (hi:i+8≤m)=>number_e B (bodyL l a) m cb i z W hB hm (by omega) hi hz
  have HIt:=yH fun(C:Option Addr) (m cb:Nat) (W:World) (hB:Bytes W C ((bodyL l a).drop 48)) (hm:(bodyL l a).length=m)=>itemsOf_any C ((bodyL l a).drop 48) (m-48) cb (itN (bodyL l a)) W hB (by rw[List.length_drop,hm]) (by omega) (by unfold itN;rw[hm])
  rw[taA_drop,taB_drop]at HIt
  have HTN:=told_no (l:=l) (a:=a)
  have HTY:entC0 l a=0→eNum l a 0=u8 (bodyL l a) 0∧eNum l a 8=u8 (bodyL l a) 8∧eNum l a 16=u8 (bodyL l a) 16∧eNum l a 40=u8 (bodyL l a) 40∧eK l a=itK (bodyL l a)∧eN l a=itN (bodyL l a):=fun h=>by
   obtain⟨t1,t2,t3⟩:=told_yes h
   exact⟨t1 0,t1 8,t1 16,t1 40,t2,t3⟩
  have HHid:=yH (And.intro HTN HTY)
  have HNN:=yH (show itN (bodyL l a)≤1000000 by unfold itN;omega)
  have HM:=yH fun(m:Nat) (hm:(bodyL l a).length=m)=>show 64≤m∧m≤1000000 by omega
  clear hcd hb hL h1 h0 hlen hmod hln HTN HTY
  generalize hbd0:bodyL l a=bd at*
  have HBD:=yH hbd0
  clear hbd0
  go_enter Tryz.func239,Tryz.ntmps239
  go_upto_region 4 with(go_at_call 202;(with_reducible refine HBo.out.mono ?_);rintro e w2 ⟨B,m,cb,rfl,hbel,hbd⟩)
  obtain⟨d1,d2,d3,d4,d5⟩:=hbd (by first|rfl|trivial)
  have R2:=yH (R0.out.below hbel R0.out.lt)
  have HB2:=yH (b0.out.trans (hbel.mono b0.out.size))
  have D1:=yH d1
  have D2:=yH d2
  obtain⟨hm64,hmx⟩:=HM.out m d2
  have hcut1: ∀W:World,(Instr.slice 24 (.slice B m cb) (some (.int .i64 48)) none none).run Tryz.prog W= .ok (.slice (cutA B cb 48) (m-48) (cb-48)) W:=fun W:World=>cut_l B m cb 48 (by omega) W
  have hcut2: ∀W:World,(Instr.slice 24 (.slice B m cb) (some (.int .i64 24)) (some (.int .i64 40)) none).run Tryz.prog W= .ok (.slice (cutA B cb 24) 16 (cb-24)) W:=fun W:World=>cut_lh B m cb 24 40 (by omega) (by omega) W
  have HC1:=yH (Bytes.cut d1 cb 48 (m-48) (by rw[d2];omega))
  rw[List.take_of_length_le (Nat.le_of_eq (by rw[List.length_drop,d2]))]at HC1
  have HC2:=yH (Bytes.cut d1 cb 24 16 (by rw[d2];omega))
  rw[←HIK.out]at HC2
  clear d1 d2 hbel hbd
  generalize cutA B cb 48=C1 at*
  generalize cutA B cb 24=C2 at*
  have B2a:=yH ((Below.refl w2.heap.size w2).alloc (yR _) (zC 256)).drew
  have HC1a:=yH (HC1.out.below B2a.out (yR _))
  have D1a:=yH (D1.out.below B2a.out (yR _))
  have E2a:=yH (show Blk (w2.alloc (zC 256)).drew w2.heap.size zL 256 from Blk.new w2 zL _)
  have HS0:=yH (yR w2.heap.size)
  go_cut [8]from 19 to 30 (fun z wx=> ∃(g:Nat) (A3:Option Addr) (n3:Nat),n3=itN bd∧z= .pointer (some ⟨g,0,none⟩)∧Hid (Blk wx g (entL (u8 bd 0) (u8 bd 8) (u8 bd 16) (fun _=>0) (u8 bd 40) A3 n3 n3) 256)∧Hid (In2 wx A3 n3 (itA bd) (itH bd))∧Hid (∀b off,A3=some ⟨b,off,none⟩→b≠g∧w2.heap.size≤b)∧Hid (Below w2.heap.size w2 wx)∧Hid (w2.heap.size≤g))
  case first=>
   go_region_held3 (fun w'=>True) (first|(with_reducible exact trivial)) (first
    |(go_at_call 203;(first|(with_reducible refine(HNu.out 0 0 _ _ _ _ D1.out.drew D2.out rfl (by omega)).mono ?_)|(with_reducible refine(HNu.out 8 8 _ _ _ _ D1.out.drew D2.out rfl (by omega)).mono ?_)|(with_reducible refine(HNu.out 16 16 _ _ _ _ D1.out.drew D2.out rfl (by omega)).mono ?_)|(with_reducible refine(HNu.out 40 40 _ _ _ _ D1.out.drew D2.out rfl (by omega)).mono ?_)|(with_reducible refine(HNu.out 0 0 _ _ _ _ D1a.out D2.out rfl (by omega)).mono ?_)|(with_reducible refine(HNu.out 8 8 _ _ _ _ D1a.out D2.out rfl (by omega)).mono ?_)|(with_reducible refine(HNu.out 16 16 _ _ _ _ D1a.out D2.out rfl (by omega)).mono ?_)|(with_reducible refine(HNu.out 40 40 _ _ _ _ D1a.out D2.out rfl (by omega)).mono ?_));rintro e w' ⟨rfl,rfl⟩)
    |(go_at_call 255;(with_reducible refine(HIt.out C1 m (cb-48) _ HC1a.out D2.out).mono ?_);rintro e w3 ⟨A3,rfl,hn3,hb3⟩;have HN3:=yH hn3;have HB3:=yH hb3;have HE3:=yH (E2a.out.below hb3 (by simp));have hst:=store_ent0 w3 w2.heap.size _ HE3.out rfl (u8 bd 0) (u8 bd 8) (u8 bd 16) (u8 bd 40) A3 (itN bd) (itN bd);clear hn3 hb3)
    |(go_at_call 255;(with_reducible refine(HIt.out C1 m (cb-48) _ HC1.out.drew D2.out).mono ?_);rintro e w4 ⟨A4,rfl,hn4,hb4⟩;have HN4:=yH hn4;have HB4:=yH hb4;have hst4:=store_new0 w4 (u8 bd 0) (u8 bd 8) (u8 bd 16) (u8 bd 40) A4 (itN bd) (itN bd);clear hn4 hb4))
   all_goals
    go_wp2_with fail
    go_meet
    case rel=>
     first
     |(obtain⟨g3,rfl,hg3,_,hi3⟩:=HN3.out
       simp only[World.size_drew,World.size_alloc]at hg3
       exact⟨w2.heap.size,_,_,rfl,rfl,yH (Blk.setRow HE3.out (entL (u8 bd 0) (u8 bd 8) (u8 bd 16) (fun _=>0) (u8 bd 40) (some ⟨g3,0,none⟩) (itN bd) (itN bd))),yH (In2.setRow hi3 (fun b off e=>by injection e with e;injection e with e;omega) _),yH (fun b off e=>by injection e with e;injection e with e;omega),yH (setRow_keepB (B2a.out.trans (HB3.out.mono (by simp))) (yR _) _),HS0⟩)
     |(obtain⟨g4,rfl,hg4,hlt4,hi4⟩:=HN4.out
       simp only[World.size_drew]at hg4
       exact⟨w4.heap.size,_,_,rfl,rfl,yH (Blk.setRow (show Blk (w4.alloc (zC 256)) w4.heap.size zL 256 from Blk.new w4 zL _) (entL (u8 bd 0) (u8 bd 8) (u8 bd 16) (fun _=>0) (u8 bd 40) (some ⟨g4,0,none⟩) (itN bd) (itN bd))),yH (In2.setRow (hi4.keep ((Below.refl _ _).alloc (yR _) _)) (fun b off e=>by injection e with e;injection e with e;omega) _),yH (fun b off e=>by injection e with e;injection e with e;omega),yH (setRow_keepB (((Below.refl w2.heap.size w2).drew.trans HB4.out).alloc (Nat.le_trans (by simp) HB4.out.size) _) (Nat.le_trans (by simp) HB4.out.size) _),yH (Nat.le_trans (by simp) HB4.out.size)⟩)
  case rest=>
   obtain⟨g,A3,n3,hn3,rfl,E3,I3,S3,B3,G3⟩:=hcut
   have HC3:=yH (HC2.out.below B3.out (yR _))
   have HKo:=yH (itK_ok HAb.out)
   have HSrc:=yH fun(W:World) (h:Bytes W C2 (idL (itK bd)))=>show ∃ad,C2=some ad∧ ∀j v,((idL (itK bd)).map (Value.int .u8))[j]? =some v→W.cell? (ad.add j)=some v from by
    obtain⟨ad,e,hsrc⟩:=h.source W (Below.refl _ _) (by simp[idL])
    refine⟨ad,e,fun j v hj=>?_⟩
    rw[List.getElem?_map]at hj
    obtain⟨x,hx,rfl⟩:=Option.map_eq_some_iff.1 hj
    exact hsrc j x hx
   clear HC1a D1a E2a HC1 HC2 B2a HNu HIt hcut1
   go_wp2_with fail
   go_region_law (refine step_copy_set (o:=⟨some 35,_,_,_,_,_⟩) rfl (.tmp 32) (.tmp 34) 24 24 rfl 5 Tryz.underlying24 size8 C2 16 _ 16 _ g 3 rfl rfl _ 256 E3.out.drew ((idL (itK bd)).map (Value.int .u8)) rfl (HSrc.out _ HC3.out.drew) (by simp[entL,idL]) (by intro v hv;obtain⟨x,_,rfl⟩:=List.mem_map.1 hv;rfl) ?_;intro w5 hw5;have E5:=yH (show Blk w5 g (entL (u8 bd 0) (u8 bd 8) (u8 bd 16) (itK bd) (u8 bd 40) A3 n3 n3) 256 from hw5▸(Blk.setRow E3.out.drew (splice (entL (u8 bd 0) (u8 bd 8) (u8 bd 16) (fun _=>0) (u8 bd 40) A3 n3 n3) 3 ((idL (itK bd)).map (Value.int .u8)))));have I5:=yH (show In2 w5 A3 n3 (itA bd) (itH bd)from hw5▸In2.setRow (w:=wc.drew) I3.out (fun b off e=>(S3.out b off e).1) _);have B5:=yH (show Below w2.heap.size w2 w5 from hw5▸setRow_keepB (B3.out.drew) G3.out _);clear hw5)
   have R5:=yH (R2.out.below B5.out R2.out.lt)
   have W5:=yH (HB2.out.trans (B5.out.mono HB2.out.size))
   have e0:=E5.out.cell (i:=0) rfl
   have e20:=E5.out.cell (i:=20) rfl
   have HRi:=yH (rise_any A3 n3 n3 (itA bd) (itH bd) w5 I5.out (by rw[hn3];exact HNN.out))
   have HSn:=yH hn3
   have HNe:=yH (fun b off (e:A3=some ⟨b,off,none⟩)=>show b≠w.heap.size by have h1:=(S3.out b off e).2;have h2:=R2.out.lt;omega)
   have HNw:=yH (fun b off (e:A3=some ⟨b,off,none⟩)=>show w.heap.size≤b by have h1:=(S3.out b off e).2;have h2:=R2.out.lt;omega)
   clear E3 I3 S3 B3 HC3 HSrc hn3
   generalize u8 bd 0=s0 at*
   generalize u8 bd 8=s8 at*
   generalize u8 bd 16=s16 at*
   generalize u8 bd 40=s40 at*
   by_cases hz:s0=0
   ·have HCe:=yH (HCd.out.trans (if_pos hz))
    have HF:=yH (HHid.out.1 (by rw[HCe.out];decide))
    subst hz
    go_wp2_with(refine wpList_store_row rfl 256 (.tmp 4) (.tmp 39) rfl w.heap.size _ rfl rfl 256 _ R5.out entInfo rfl z_one ?_)
    refine bodyPost_ret (v:= .tuple #[entV 0 0 0 (fun _=>0) 0 none 0 0,.int .i64 13]) (by exact res_row Tryz.results239 _ _ w.heap.size 256 _ (0,0) _ _ rfl rfl (Blk.setRow R5.out zL) Tryz.underlying256 rfl entInfo) rfl ?_
    unfold EntTold2
    rw[HF.out.1,HF.out.1,HF.out.1,HF.out.1,HF.out.2.1,HF.out.2.2,HCe.out]
    exact⟨none,0,rfl,setRow_keepB W5.out (yR _) _,in2_none _ _ _ _,fun b off e=>by cases e⟩
   ·have h0:=HCd.out.trans (if_neg hz)
    cases hr:risB (itA bd) n3 with
    |false=>
     rw[←HSn.out,hr]at h0
     have HCe:=yH (h0.trans (if_neg (by decide)))
     have HF:=yH (HHid.out.1 (by rw[HCe.out];decide))
     rw[hr]at HRi
     clear h0 hr
     go_wp2_with(first
      |(go_at_call 256;(with_reducible refine HRi.out.mono ?_);rintro e w6 ⟨rfl,hb6⟩;have R6:=yH (R5.out.below hb6 R5.out.lt);have W6:=yH (W5.out.trans (hb6.mono W5.out.size));clear hb6)
      |(refine wpList_store_row rfl 256 (.tmp 4) (.tmp 44) rfl w.heap.size _ rfl rfl 256 _ R6.out entInfo rfl z_one ?_))
     refine bodyPost_ret (v:= .tuple #[entV 0 0 0 (fun _=>0) 0 none 0 0,.int .i64 11]) (by exact res_row Tryz.results239 _ _ w.heap.size 256 _ (0,0) _ _ rfl rfl (Blk.setRow R6.out zL) Tryz.underlying256 rfl entInfo) rfl ?_
     unfold EntTold2
     rw[HF.out.1,HF.out.1,HF.out.1,HF.out.1,HF.out.2.1,HF.out.2.2,HCe.out]
     exact⟨none,0,rfl,setRow_keepB W6.out (yR _) _,in2_none _ _ _ _,fun b off e=>by cases e⟩
    |true=>
     rw[←HSn.out,hr]at h0
     have HCe:=yH (h0.trans (if_pos rfl))
     have HF:=yH (HHid.out.2 HCe.out)
     rw[hr]at HRi
     clear h0 hr
     go_wp2_with(first
      |(go_at_call 256;(with_reducible refine HRi.out.mono ?_);rintro e w6 ⟨rfl,hb6⟩;have R6:=yH (R5.out.below hb6 R5.out.lt);have W6:=yH (W5.out.trans (hb6.mono W5.out.size));have E6:=yH (E5.out.below hb6 E5.out.lt);have I6:=yH (I5.out.keep hb6);clear hb6)
      |(refine wpList_load_row rfl 256 (.tmp 8) rfl g rfl 256 (entL s0 s8 s16 (itK bd) s40 A3 n3 n3).toArray (0,0) _ E6.out Tryz.underlying256 rfl entInfo ?_)
      |(refine wpList_store_row rfl 256 (.tmp 4) (.tmp 45) rfl w.heap.size (entL s0 s8 s16 (itK bd) s40 A3 n3 n3).toArray rfl rfl 256 _ R6.out entInfo rfl (ent_one _ _ _ _ _ _ _ _) ?_))
     refine bodyPost_ret (v:= .tuple #[entV s0 s8 s16 (itK bd) s40 A3 n3 n3,.int .i64 0]) (by exact res_row Tryz.results239 _ _ w.heap.size 256 _ (0,0) _ _ rfl rfl (Blk.setRow R6.out (entL s0 s8 s16 (itK bd) s40 A3 n3 n3)) Tryz.underlying256 rfl entInfo) rfl ?_
     unfold EntTold2
     obtain⟨t0,t8,t16,t40,tK,tN⟩:=HF.out
     rw[t0,t8,t16,t40,tK,tN,HCe.out,←HSn.out,HBD.out]
     exact⟨A3,n3,rfl,setRow_keepB W6.out (yR _) _,In2.setRow I6.out (fun b off e=>HNe.out b off e) _,fun b off e=>HNw.out b off e⟩
end Yg
namespace Yh
open Bytes8 Blk8 Own8 OwnE Ob Rows2 Kf Yc Yp Yd Ye Yg
def arX (l:List Int)(a:Nat):Int:=if ecode l a 6 8 8=0 then u8 (bodyL l a) 0 else 0
def arM (l:List Int)(a:Nat):Nat:=if ecode l a 6 8 8=0 then arN (bodyL l a)else 0
def ArrTold2 (l:List Int)(a:Nat)(w:World)(e:Ending)(w':World):Prop:=
 ∃A c,e= .returned (.tuple #[arrV (arX l a) A (arM l a) c,.int .i64 (ecode l a 6 8 8)])∧Below w.heap.size w w'∧InInts .u64 w' A (arM l a) (arF (bodyL l a))∧NewIn w.heap.size A
def Part1 (w:World)(g m k:Nat)(f:Nat→Int)(T:TypeId):Prop:=
 ∃vs:List Value,Blk w g vs T∧vs.length=m∧ ∀i,i<k→vs[i]? =some (.int .u64 (f i))
theorem Part1.new (w:World)(m:Nat)(f:Nat→Int)(T:TypeId)(g:Nat)(hg:w.heap.size=g):Part1 (w.alloc (.cells (Array.replicate m (Value.int .u64 0)) T)) g m 0 f T:=
 ⟨List.replicate m (.int .u64 0),by subst hg;have:=Blk.new w (List.replicate m (.int .u64 0)) T;simpa using this,by simp,fun i hi=>absurd hi (by omega)⟩
theorem Part1.cells {w:World}{g m k:Nat}{f:Nat→Int}{T:TypeId}(hp:Part1 w g m k f T)(hk:k<m):(∃u,w.cell? ⟨g,k,none⟩=some u)∧w.frozen? ⟨g,k,none⟩=false:=by
 obtain⟨vs,hb,hl,_⟩:=hp
 exact⟨⟨vs[k],hb.cell (List.getElem?_eq_getElem (by omega))⟩,hb.frozen _⟩
theorem Part1.step {w:World}{g m k:Nat}{f:Nat→Int}{T:TypeId}(hp:Part1 w g m k f T)(hk:k<m):Part1 (w.setCell ⟨g,k,none⟩ (.int .u64 (f k))) g m (k+1) f T:=by
 obtain⟨vs,hb,hl,hv⟩:=hp
 refine⟨_,hb.set_ k _,by simp[hl],fun i hi=>?_⟩
 rcases Nat.lt_or_ge i k with h1|h1
 ·rw[List.getElem?_set,if_neg (by omega)]
  exact hv i h1
 ·obtain rfl:i=k:=by omega
  rw[List.getElem?_set,if_pos rfl,if_pos (by omega)]
theorem Part1.lt {w:World}{g m k:Nat}{f:Nat→Int}{T:TypeId}(hp:Part1 w g m k f T):g<w.heap.size:=by
 obtain⟨vs,hb,_⟩:=hp
 exact hb.lt
theorem Part1.blk {w w':World}{g m k:Nat}{f:Nat→Int}{T:TypeId}(hp:Part1 w g m k f T)(h:w'.heap[g]? =w.heap[g]?):Part1 w' g m k f T:=by
 obtain⟨vs,hb,h2⟩:=hp
 exact⟨vs,h.trans hb,h2⟩
theorem Part1.old {w:World}{g m k:Nat}{f:Nat→Int}{T:TypeId}(hp:Part1 w g m k f T)(o:Obj):Part1 (w.alloc o).drew g m k f T:=hp.blk (Below.heap_alloc w o g hp.lt)
theorem Part1.ints {w:World}{g m:Nat}{f:Nat→Int}{T:TypeId}(hp:Part1 w g m m f T)(hf: ∀i,0≤f i∧f i≤18446744073709551615):InInts .u64 w (some ⟨g,0,none⟩) m f:=fun i hi=>by
 obtain⟨vs,hb,hl,hv⟩:=hp
 refine⟨g,0,rfl,hb.lt,by rw[Nat.zero_add];exact hb.cell (hv i hi),?_⟩
 have:=hf i
 simp[Lit.wf,IntKind.min,IntKind.max,IntKind.signed,IntKind.bits]
 omega
theorem wordInfo:(Tryz.prog.info? 27).map (fun i=>(i.zero,i.size,i.bytes))=some (some (.int .u64 0),1,8):=by kernel_rfl
theorem make_words (p:Nat)(z:Int)(hz:z=(p:Int))(hp:p≤1000000)(w:World):
 (Instr.makeSlice 30 (.int .i64 z) (.int .i64 z)).run Tryz.prog w= .ok (.slice (some ⟨w.heap.size,0,none⟩) p p) (w.alloc (.cells (Array.replicate p (Value.int .u64 0)) 27)):=by
 subst hz
 have h:=run_make_row' (P:=Tryz.prog) 30 27 (.int .u64 0) 8 Tryz.underlying30 wordInfo rfl .i64 .i64 p (by omega) (by omega) w
 have e:madeCells #[Value.int .u64 0] p=Array.replicate p (Value.int .u64 0):=by
  apply Array.ext'
  rw[toList_madeCells_one]
  simp
 rw[e]at h
 exact h
theorem arrInfo:(Tryz.prog.info? 259).map (·.size)=some 2:=by kernel_rfl
abbrev aL (x:Int)(A:Option Addr)(n c:Nat):List Value:=[.int .u64 x,.slice A n c]
theorem InInts.setRow {k:IntKind}{w:World}{a:Option Addr}{n:Nat}{f:Nat→Int}(hi:InInts k w a n f){g:Nat}(hg: ∀b off,a=some ⟨b,off,none⟩→b≠g)(cs:Array Value):InInts k (w.setRow g cs) a n f:=fun i hx=>by
 obtain⟨b,off,e,h1,h2,h3⟩:=hi i hx
 exact⟨b,off,e,by simpa using h1,(cell_setRow_other w g cs _ (hg b off e)).trans h2,h3⟩
theorem readArray_n (A:Option Addr)(l:List Int)(n cap a:Nat)(w:World)(hb:Bytes w A l)(hL:l.length=n)(hn:n≤1000000)(hc:n≤cap)(hcm:cap≤maxLen)(ha:a≤18446744073709551615):
 Calls Tryz.prog 199 #[.slice A n cap,.int .u64 (a:Int)] w (ArrTold2 l a w):=by
 have b0:=yH ((Below.refl w.heap.size w).alloc (yR _) (arrC 259 0 none 0 0))
 have R0:=yH (show Blk (w.alloc (arrC 259 0 none 0 0)) w.heap.size (aL 0 none 0 0) 259 from Blk.new w _ _)
 have HBo:=yH (bodyOf_z A l n cap a 8 8 6 8 8 (w.alloc (arrC 259 0 none 0 0)) (hb.below b0.out (yR _)) hL hn hc hcm ha (by decide) (by decide) (by decide) (by decide) rfl rfl)
 unfold Bodied2 at HBo
 have HAb:=yH (body_all (a:=a) hb.1)
 have hno:ecode l a 6 8 8≠0→arX l a=0∧arM l a=0:=fun h=>⟨if_neg h,if_neg h⟩
 have hyes:ecode l a 6 8 8=0→arX l a=u8 (bodyL l a) 0∧arM l a=arN (bodyL l a):=fun h=>⟨if_pos h,if_pos h⟩
 by_cases h1:ecode l a 6 8 8≠0
 ·have HF:=yH (hno h1)
  have HX:=yH h1
  obtain⟨cd,hcd⟩: ∃cd,cd=ecode l a 6 8 8:=⟨_,rfl⟩
  rw[←hcd]at HBo HX h1
  have HCe:=yH hcd
  clear hcd hno hyes hb hL
  go_enter Tryz.func199,Tryz.ntmps199
  go_wp2_with(first
   |(go_at_call 202;(with_reducible refine HBo.out.mono ?_);rintro e w2 ⟨B,m,cb,rfl,hbel,_⟩;have R2:=yH (R0.out.below hbel R0.out.lt);have HB2:=yH (b0.out.trans (hbel.mono b0.out.size));clear hbel)
   |(refine wpList_store_row rfl 259 (.tmp 4) (.tmp 18) rfl w.heap.size _ rfl rfl 259 _ R2.out arrInfo rfl (by simp[Value.oneCell']) ?_))
  refine bodyPost_ret (v:= .tuple #[arrV 0 none 0 0,.int .i64 cd]) (by exact res_row Tryz.results199 _ _ w.heap.size 259 _ (0,0) _ _ rfl rfl (Blk.setRow R2.out (aL 0 none 0 0)) Tryz.underlying259 rfl arrInfo) rfl ?_
  unfold ArrTold2
  rw[HF.out.1,HF.out.2,←HCe.out]
  exact⟨none,0,rfl,setRow_keepB HB2.out (yR _) _,fun i hi=>absurd hi (by omega),fun b off e=>by cases e⟩
 ·have h0:ecode l a 6 8 8=0:=by omega
  obtain⟨_,_,hlen,hmod,hln⟩:=ecode_there hL h0
  rw[h0]at HBo
  have HCe:=yH h0
  have HF:=yH (hyes h0)
  have HNu:=yH fun(i:Nat) (z:Int) (B:Option Addr) (m cb:Nat) (W:World) (hB:Bytes W B (bodyL l a)) (hm:(bodyL l a).length=m) (hz:z=(i:Int)) (hi:i+8≤m)=>number_e B (bodyL l a) m cb i z W hB hm (by omega) hi hz
  have HM:=yH fun(m:Nat) (hm:(bodyL l a).length=m)=>show 16≤m∧m≤1000000∧arN (bodyL l a)=(m-8)/8 from⟨by omega,by omega,by unfold arN;rw[hm]⟩
  clear hno hyes hb hL h1 h0 hlen hmod hln
  generalize hbd0:bodyL l a=bd at*
  have HBD:=yH hbd0
  clear hbd0
  go_enter Tryz.func199,Tryz.ntmps199
  go_upto_region 4 with(go_at_call 202;(with_reducible refine HBo.out.mono ?_);rintro e w2 ⟨B,m,cb,rfl,hbel,hbd⟩)
  obtain⟨d1,d2,d3,d4,d5⟩:=hbd (by first|rfl|trivial)
  have R2:=yH (R0.out.below hbel R0.out.lt)
  have HB2:=yH (b0.out.trans (hbel.mono b0.out.size))
  have D1:=yH d1
  have D2:=yH d2
  obtain⟨hm16,hmx,htn⟩:=HM.out m d2
  obtain⟨t,ht⟩: ∃t,t=(m-8)/8:=⟨_,rfl⟩
  rw[←ht]at htn
  have hs8:IntKind.i64.wrap ((m:Int)-8)=(m:Int)-8:=by rw[IntKind.wrap_i64];omega
  have hq:((m:Int)-8).tdiv 8=(t:Int):=by rw[Int.tdiv_eq_ediv_of_nonneg (by omega)];omega
  have hq2:((m:Int)-8)/8=(t:Int):=by omega
  have hq3:IntKind.i64.wrap (t:Int)=(t:Int):=by rw[IntKind.wrap_i64];omega
  have hmk:=make_words t (t:Int) rfl (by omega)
  have HTN:=yH htn
  have h8:8*t+8≤m:=by omega
  have HS0:=yH (yR w2.heap.size)
  clear d1 d2 hbel hbd htn ht
  have Ba:=yH ((Below.refl w2.heap.size w2).alloc (yR _) (.cells (Array.replicate t (Value.int .u64 0)) 27))
  have Bb:=yH ((Below.refl w2.heap.size w2).alloc (yR _) (arrC 259 0 none 0 0))
  have Da:=yH (D1.out.below Ba.out (yR _)).drew
  have Db:=yH (D1.out.below Bb.out (yR _)).drew
  have Dc:=yH (D1.out.below (Ba.out.alloc Ba.out.size (arrC 259 0 none 0 0)) (yR _)).drew
  have Dd:=yH (D1.out.below (Bb.out.alloc Bb.out.size (.cells (Array.replicate t (Value.int .u64 0)) 27)) (yR _)).drew
  go_cut [8]from 20 to 27 (fun z wx=> ∃(g gi:Nat),z= .pointer (some ⟨g,0,none⟩)∧g≠gi∧Hid (Blk wx g (aL (u8 bd 0) (some ⟨gi,0,none⟩) t t) 259)∧Hid (Part1 wx gi t 0 (arF bd) 27)∧Hid (Below w2.heap.size w2 wx)∧Hid (w2.heap.size≤g∧w2.heap.size≤gi))
  case first=>
   go_region_held3 (fun w'=>True) (first|(with_reducible exact trivial)) (first
    |(go_at_call 203;(with_reducible refine(HNu.out 0 0 _ _ _ _ D1.out.drew D2.out rfl (by omega)).mono ?_);rintro e w' ⟨rfl,rfl⟩)
    |(go_at_call 203;(with_reducible refine(HNu.out 0 0 _ _ _ _ Da.out D2.out rfl (by omega)).mono ?_);rintro e w' ⟨rfl,rfl⟩)
    |(go_at_call 203;(with_reducible refine(HNu.out 0 0 _ _ _ _ Db.out D2.out rfl (by omega)).mono ?_);rintro e w' ⟨rfl,rfl⟩)
    |(go_at_call 203;(with_reducible refine(HNu.out 0 0 _ _ _ _ Dc.out D2.out rfl (by omega)).mono ?_);rintro e w' ⟨rfl,rfl⟩)
    |(go_at_call 203;(with_reducible refine(HNu.out 0 0 _ _ _ _ Dd.out D2.out rfl (by omega)).mono ?_);rintro e w' ⟨rfl,rfl⟩))
   all_goals
    go_wp2_with fail
    go_meet
    case rel=>
     first
     |exact⟨w2.heap.size+1,w2.heap.size,rfl,by omega,yH (Blk.new_at (w2.alloc (.cells (Array.replicate t (Value.int .u64 0)) 27)) (aL (u8 bd 0) (some ⟨w2.heap.size,0,none⟩) t t) 259 (w2.heap.size+1) (by simp)).drew,yH (Part1.old (Part1.new w2 t (arF bd) 27 w2.heap.size rfl) _),yH (Ba.out.alloc Ba.out.size _).drew,yH ⟨by omega,yR _⟩⟩
     |exact⟨w2.heap.size,w2.heap.size+1,rfl,by omega,yH ((Blk.new_at w2 (aL (u8 bd 0) (some ⟨w2.heap.size+1,0,none⟩) t t) 259 w2.heap.size rfl).alloc _).drew,yH (Part1.new (w2.alloc (.cells (aL (u8 bd 0) (some ⟨w2.heap.size+1,0,none⟩) t t).toArray 259)) t (arF bd) 27 (w2.heap.size+1) (by simp)),yH ((((Below.refl w2.heap.size w2).alloc (yR _) _).alloc (by simp) _).drew),yH ⟨yR _,by omega⟩⟩
  case rest=>
   obtain⟨g,gi,rfl,hgg,E3,P3,B3,G3⟩:=hcut
   clear Ba Bb Da Db Dc Dd hmk hq hq2 hq3 hs8
   have HGG:=yH hgg
   have q1:=E3.out.cell (i:=1) rfl
   go_wp2_with fail
   go_loopw [31] (fun i wr=> ∃k:Nat,k≤t∧i= .int .i64 (k:Int)∧Hid (Part1 wr gi t k (arF bd) 27)∧Hid (Blk wr g (aL (u8 bd 0) (some ⟨gi,0,none⟩) t t) 259)∧Hid (Below w2.heap.size w2 wr)) (fun i _=>t-(intOf i).toNat)
   case atStart=>exact⟨0,Nat.zero_le _,rfl,P3,E3,B3⟩
   case round=>
    obtain⟨k,hk,rfl,hp,he,hb⟩:=hrel
    have r0:=he.out.cell (i:=0) rfl
    have r1:=he.out.cell (i:=1) rfl
    by_cases hlt:k<t
    ·obtain⟨⟨v1,c1⟩,f1⟩:=hp.out.cells hlt
     have r1d:wr.drew.cell? ⟨g,1,none⟩=some (.slice (some ⟨gi,0,none⟩) t t):=r1
     have r1s:(wr.setCell ⟨gi,k,none⟩ (.int .u64 (u8 bd (8+8*k)))).drew.cell? ⟨g,1,none⟩=some (.slice (some ⟨gi,0,none⟩) t t):=(he.out.far (p:=⟨gi,k,none⟩) (fun e=>HGG.out e) _).drew.cell (i:=1) rfl
     have c1d:wr.drew.cell? ⟨gi,k,none⟩=some v1:=c1
     have f1d:wr.drew.frozen? ⟨gi,k,none⟩=false:=f1
     have HS:=yH (hp.out.step hlt)
     have hp1:arF bd k=u8 bd (8+8*k):=rfl
     rw[hp1]at HS
     have Dr:=yH (D1.out.below hb.out (yR _)).drew
     have hw1:IntKind.i64.wrap ((k:Int)*8)=(k:Int)*8:=by rw[IntKind.wrap_i64];omega
     have hw2:IntKind.i64.wrap (8+(k:Int)*8)=8+(k:Int)*8:=by rw[IntKind.wrap_i64];omega
     have hk0:(0:Int)≤(k:Int):=by omega
     have hkt:(k:Int)<(t:Int):=by omega
     go_wp2_with fail
     go_region_held3 (fun W=>W.cell? ⟨g,1,none⟩=some (.slice (some ⟨gi,0,none⟩) t t)) (first|(with_reducible exact r1d)|(with_reducible exact r1s)|go_keep) (first
      |(go_at_call 203;(with_reducible refine(HNu.out (8+8*k) _ _ _ _ _ Dr.out D2.out (by omega) (by omega)).mono ?_);rintro e w' ⟨rfl,rfl⟩))
     all_goals
      go_wp2
      go_roundw
      case rel=>exact⟨k+1,by omega,by go_num,yH (HS.out.blk rfl),yH ((he.out.far (fun e=>HGG.out e) _).drew),yH ((hb.out.setCell G3.out.2 _).drew)⟩
      case measure=>simp[intOf];omega
    ·obtain rfl:k=t:=by omega
     have HI:=yH (hp.out.ints (fun i=>u8_bd HAb.out _))
     have R3:=yH (R2.out.below hb.out R2.out.lt)
     have W3:=yH (HB2.out.trans (hb.out.mono HB2.out.size))
     have HNe:=yH (show gi≠w.heap.size by have h1:=G3.out.2;have h2:=R2.out.lt;omega)
     have HNw:=yH (show w.heap.size≤gi by have h1:=G3.out.2;have h2:=R2.out.lt;omega)
     go_wp2_with(first
      |(refine wpList_load_row rfl 259 (.tmp 8) rfl g rfl 259 (aL (u8 bd 0) (some ⟨gi,0,none⟩) k k).toArray (0,0) _ he.out Tryz.underlying259 rfl arrInfo ?_)
      |(refine wpList_store_row rfl 259 (.tmp 4) (.tmp 44) rfl w.heap.size (aL (u8 bd 0) (some ⟨gi,0,none⟩) k k).toArray rfl rfl 259 _ R3.out arrInfo rfl (by simp[Value.oneCell']) ?_))
     refine bodyPost_ret (v:= .tuple #[arrV (u8 bd 0) (some ⟨gi,0,none⟩) k k,.int .i64 0]) (by exact res_row Tryz.results199 _ _ w.heap.size 259 _ (0,0) _ _ rfl rfl (Blk.setRow R3.out (aL (u8 bd 0) (some ⟨gi,0,none⟩) k k)) Tryz.underlying259 rfl arrInfo) rfl ?_
     unfold ArrTold2
     rw[HCe.out,HF.out.1,HF.out.2,HTN.out,HBD.out]
     exact⟨_,k,rfl,setRow_keepB W3.out (yR _) _,InInts.setRow HI.out (fun b off e=>by injection e with e;injection e with e;have:=HNe.out;omega) _,fun b off e=>by injection e with e;injection e with e;have:=HNw.out;omega⟩
end Yh
namespace Yq
open Blk8 Ob
theorem idInfo:(Tryz.prog.info? 37).map (·.size)=some 16:=by kernel_rfl
theorem id_lits (K:Nat→Int)(hK:IdOk K):Tryz.prog.keyLits 2 37 [.int .u8 (K 0),.int .u8 (K 1),.int .u8 (K 2),.int .u8 (K 3),.int .u8 (K 4),.int .u8 (K 5),.int .u8 (K 6),.int .u8 (K 7),.int .u8 (K 8),.int .u8 (K 9),.int .u8 (K 10),.int .u8 (K 11),.int .u8 (K 12),.int .u8 (K 13),.int .u8 (K 14),.int .u8 (K 15)]=some ((idL K).map (Lit.int .u8)):=by
 have wfi: ∀i,(Lit.int .u8 (K i)).wf=true:=fun i=>by
  have:=hK i
  simp[Lit.wf,IntKind.min,IntKind.max,IntKind.signed,IntKind.bits]
  omega
 have c1:Tryz.prog.cellsOf 37=16:=by kernel_rfl
 have c2:Tryz.prog.cellsOf 5=1:=by kernel_rfl
 have hr:List.range 16=[0,1,2,3,4,5,6,7,8,9,10,11,12,13,14,15]:=rfl
 simp[Program.keyLits,Tryz.underlying37,Tryz.underlying5,c1,c2,hr,wfi,idL]
theorem wpList_load_mid_want {P:Program}{ops:Array Oper}{rest:List Oper}{op:Oper}{a:Act}{w:World}{Q:Exit→Act→World→Prop}(hw:Region.wanted op (yielded ops a.tmps)=true)(ty:TypeId)(x:Operand)(ho:op.op= .load ty x)
 (b o:Nat)(hx:a.eval x= .pointer (some ⟨b,o,none⟩))(cs:List Value)(d:TypeDesc)(hc:w.rangeAt b o cs)
 (hu:P.underlying ty=some d)(hd:d.isRow=true)(hi:(P.info? ty).map (·.size)=some cs.length)
 (h:wpList P ops Q rest (a.put op.dst (.agg cs.toArray)) w):wpList P ops Q (op::rest) a w:=
 BigFrame.wpList_want hw fun _ hK=>wp_load_mid ty x ho b o hx cs d hc hu hd hi (hK _ _ h)
end Yq
end Go.Proofs.YtiddkgcafpaekaaGreat
