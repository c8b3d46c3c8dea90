/-
  Texts beneath the proof.
-/
import Derived.Sort.Grow
import Derived.Test.YtiddkgcafpaekaaGreatJq14
set_option linter.unusedVariables false
set_option linter.unusedSimpArgs false
set_option maxRecDepth 100000
set_option maxHeartbeats 2000000
open Go.ChangeShapes Go.WideShapes Go.ChangeAt Go.RowKit
namespace Go.Proofs.YtiddkgcafpaekaaGreat
namespace Yn
end Yn
namespace Mb
open Bytes8 Blk8 Own8 OwnE LeNum Ob Od Ma Kf
theorem room_any (k:Nat)(w:World):Calls Tryz.prog 153 #[.int .i64 (k:Int)] w fun e w'=>e= .returned (.int .i64 (roomN k:Nat))∧w=w':=by
 by_cases h:6<k
 ·have d1:decide ((6:Int)<(k:Int))=true:=by simp;omega
  rw[show roomN k=256 by unfold roomN;rw[if_pos h]]
  go_enter Tryz.func153,Tryz.ntmps153
  go_wp2
  go_ret
  exact⟨rfl,rfl⟩
 ·rcases k with _|_|_|_|_|_|_|k
  all_goals first
   |omega
   |(go_enter Tryz.func153,Tryz.ntmps153
     go_wp2
     go_ret
     exact⟨rfl,rfl⟩)
theorem own_set {w:World}{base g n c:Nat}{l:List Int}(h:Own w base (some ⟨g,0,none⟩) n c l)(i:Nat){x:Int}(h0:0≤x)(h1:x<256):Own (w.setCell ⟨g,i,none⟩ (.int .u8 x)) base (some ⟨g,0,none⟩) n c (l.set i x):=by
 refine⟨h.1.set i h0 h1,by rw[List.length_set];exact h.2.1,by simpa using h.2.2.1,?_⟩
 have:=(h.2.2.2.stored i (.int .u8 x)).1
 rw[List.map_set]
 exact this
theorem own_lt {w:World}{base g n c:Nat}{l:List Int}(h:Own w base (some ⟨g,0,none⟩) n c l):base≤g∧g<w.heap.size:=h.lt g rfl
structure Put8 (bb:Nat)(w w':World):Prop where
 kept:KeptF (One bb) w w'
 size:w'.heap.size=w.heap.size
theorem Put8.refl (bb:Nat)(w:World):Put8 bb w w:=⟨KeptF.refl _ _,rfl⟩
theorem Put8.set {bb:Nat}{w0 w:World}(h:Put8 bb w0 w)(i:Nat)(u:Value):Put8 bb w0 (w.setCell ⟨bb,i,none⟩ u):=⟨h.kept.setCell (p:=⟨bb,i,none⟩) (fun _=>(rfl:bb=bb)) u,by simpa using h.size⟩
theorem Put8.trans {bb:Nat}{a b c:World}(h:Put8 bb a b)(k:Put8 bb b c):Put8 bb a c:=⟨h.kept.trans k.kept fun _ _ h=>h,k.size.trans h.size⟩
theorem blk_keptF {F:Nat→Prop}{w w':World}{g:Nat}{vs:List Value}{T:TypeId}(h:Blk w g vs T)(hk:KeptF F w w')(hF: ¬F g):Blk w' g vs T:=(hk.block g h.lt hF).trans h
theorem put_any (g bb cb n a:Nat)(cs:List Value)(T:TypeId)(l:List Int)(v:Int)(B:Nat)(w:World)(hs:Blk w g cs T)(h3:cs[143]? =some (.slice (some ⟨bb,0,none⟩) n cb))(hb:Own w B (some ⟨bb,0,none⟩) n cb l)(hne:g≠bb)(ha:a+8≤n)(hn:n≤4000000):
 Calls Tryz.prog 104 #[.pointer (some ⟨g,0,none⟩),.int .u64 (a:Int),.int .u64 v] w fun e w'=>e= .returned (.tuple #[])∧Own w' B (some ⟨bb,0,none⟩) n cb (put8 l a v)∧Put8 bb w w':=by
 have HS:=yH hs
 have H3:=yH h3
 have HL:=yH hb.2.1
 clear hs h3
 go_enter Tryz.func104,Tryz.ntmps104
 go_wp2
 go_loopw [6] (fun i wr=> ∃k:Nat,k≤8∧i= .int .i64 (k:Int)∧Hid (Own wr B (some ⟨bb,0,none⟩) n cb (over l a (lowB v k)))∧Hid (Put8 bb w wr)) (fun i _=>8-(intOf i).toNat)
 case atStart=>exact⟨0,Nat.zero_le _,rfl,yH (by rw[show lowB v 0=[]from rfl,over_nil];exact hb),yH (Put8.refl _ _)⟩
 case round=>
  obtain⟨k,hk,rfl,hO,hP⟩:=hrel
  by_cases hlt:k<8
  ·have c3:=(blk_keptF HS.out hP.out.kept hne).cell H3.out
   have hcell:=hO.out.2.2.2.cellAt (a+k) (by omega)
   have hfr:=hO.out.2.2.2.frozenAt (a+k)
   obtain⟨z,hz2⟩: ∃z,(over l a (lowB v k))[a+k]? =some z:=⟨_,List.getElem?_eq_getElem (by rw[hO.out.2.1];omega)⟩
   rw[List.getElem?_map,hz2]at hcell
   clear hz2
   have HSt:=yH (own_set hO.out (a+k) (Int.emod_nonneg (v/256^k) (by decide:(256:Int)≠0)) (Int.emod_lt_of_pos (v/256^k) (by decide)))
   rw[show(over l a (lowB v k)).set (a+k) (v/256^k%256)=over l a (lowB v (k+1))by
    have e:=over_step l a (lowB v k) (v/256^k%256) (by rw[lowB_len,HL.out];omega)
    rw[lowB_len]at e
    rw[lowB_succ,e]]at HSt
   rw[←two_pow_8]at HSt
   have hpk:a+k<n:=by omega
   generalize hpk2:a+k=pk at*
   go_wp2
   go_roundw
   case rel=>exact⟨k+1,by omega,by go_num,HSt,yH (hP.out.set _ _)⟩
   case measure=>simp[intOf];omega
  ·obtain rfl:k=8:=by omega
   go_wp2
   go_end0
   exact⟨rfl,hO.out,hP.out⟩
theorem put_at (g bb cb n a:Nat)(z:Int)(hz:z=(a:Int))(cs:List Value)(T:TypeId)(l:List Int)(v:Int)(B:Nat)(w:World)(hs:Blk w g cs T)(h3:cs[143]? =some (.slice (some ⟨bb,0,none⟩) n cb))(hb:Own w B (some ⟨bb,0,none⟩) n cb l)(hne:g≠bb)(ha:a+8≤n)(hn:n≤4000000):
 Calls Tryz.prog 104 #[.pointer (some ⟨g,0,none⟩),.int .u64 z,.int .u64 v] w fun e w'=>e= .returned (.tuple #[])∧Own w' B (some ⟨bb,0,none⟩) n cb (put8 l a v)∧Put8 bb w w':=by
 subst hz;exact put_any g bb cb n a cs T l v B w hs h3 hb hne ha hn
end Mb
namespace Mc
open Bytes8 Blk8 Own8 OwnA OwnE Ob Od Ga Ma Kf Mb
structure Sl where
 b:Value
 d:Value
 f:Value
 m:Value
def Cf.at_ (C:Cf)(i:Nat):Value:=
 if i<48 then(if i<16 then .int .u8 (C.F i)else if i<32 then .int .u8 (C.M (i-16))else .int .u8 (C.S (i-32)))
 else if i=48 then .int .i64 (C.ds:Int)else if i=49 then .int .i64 (C.fs:Int)else if i=50 then .int .i64 (C.most:Int)else .bool C.keyed
def Mk.at_ (m:Mk)(S:Sl)(i:Nat):Value:=
 if i<142 then(if i<52 then Cf.at_ m.C i else m.h.at_ 20 (i-52))
 else if i=142 then .int .u64 (m.depth:Int)else if i=143 then S.b else if i=144 then S.d else if i=145 then S.f else S.m
def Mk.cells (m:Mk)(S:Sl):List Value:=(List.range 147).map (Mk.at_ m S)
theorem Mk.len (m:Mk)(S:Sl):(Mk.cells m S).length=147:=by simp[Mk.cells]
theorem Mk.get (m:Mk)(S:Sl)(i:Nat)(hi:i<147):(Mk.cells m S)[i]? =some (Mk.at_ m S i):=by simp[Mk.cells,hi]
theorem Mk.get_N (m:Mk)(S:Sl)(i:Nat)(hi:i<20):(Mk.cells m S)[119+i]? =some (.int .u64 (m.h.N i)):=by
 rw[Mk.get m S _ (by omega)]
 unfold Mk.at_
 rw[if_pos (by omega),if_neg (by omega),show 119+i-52=67+i by omega]
 have:=m.h.get_N 20 i hi
 rw[m.h.get 20 _ (by omega)]at this
 exact this
theorem Mk.get_depth (m:Mk)(S:Sl):(Mk.cells m S)[142]? =some (.int .u64 (m.depth:Int)):=by rw[Mk.get m S _ (by decide)];rfl
theorem Mk.get_b (m:Mk)(S:Sl):(Mk.cells m S)[143]? =some S.b:=by rw[Mk.get m S _ (by decide)];rfl
theorem Mk.get_d (m:Mk)(S:Sl):(Mk.cells m S)[144]? =some S.d:=by rw[Mk.get m S _ (by decide)];rfl
theorem Mk.get_f (m:Mk)(S:Sl):(Mk.cells m S)[145]? =some S.f:=by rw[Mk.get m S _ (by decide)];rfl
theorem Mk.get_m (m:Mk)(S:Sl):(Mk.cells m S)[146]? =some S.m:=by rw[Mk.get m S _ (by decide)];rfl
theorem Mk.get_ds (m:Mk)(S:Sl):(Mk.cells m S)[48]? =some (.int .i64 (m.C.ds:Int)):=by rw[Mk.get m S _ (by decide)];rfl
theorem Mk.get_fs (m:Mk)(S:Sl):(Mk.cells m S)[49]? =some (.int .i64 (m.C.fs:Int)):=by rw[Mk.get m S _ (by decide)];rfl
theorem Mk.get_most (m:Mk)(S:Sl):(Mk.cells m S)[50]? =some (.int .i64 (m.C.most:Int)):=by rw[Mk.get m S _ (by decide)];rfl
theorem Mk.get_F (m:Mk)(S:Sl)(i:Nat)(hi:i<16):(Mk.cells m S)[i]? =some (.int .u8 (m.C.F i)):=by
 rw[Mk.get m S _ (by omega)]
 unfold Mk.at_ Cf.at_
 rw[if_pos (by omega),if_pos (by omega),if_pos (by omega),if_pos hi]
abbrev fileV (C:Cf):List Value:=[.int .u8 (C.F 0),.int .u8 (C.F 1),.int .u8 (C.F 2),.int .u8 (C.F 3),.int .u8 (C.F 4),.int .u8 (C.F 5),.int .u8 (C.F 6),.int .u8 (C.F 7),.int .u8 (C.F 8),.int .u8 (C.F 9),.int .u8 (C.F 10),.int .u8 (C.F 11),.int .u8 (C.F 12),.int .u8 (C.F 13),.int .u8 (C.F 14),.int .u8 (C.F 15)]
theorem Mk.file_range {w:World}{g:Nat}{T:TypeId}{m:Mk}{S:Sl}(hb:Blk w g (Mk.cells m S) T):w.rangeAt g 0 (fileV m.C):=fun j v hj=>by
 have hl:j<16:=(List.getElem?_eq_some_iff.1 hj).1
 have h2:=hb.cell (Mk.get_F m S j hl)
 have e:(fileV m.C)[j]? =some (.int .u8 (m.C.F j)):=by
  rcases j with _|_|_|_|_|_|_|_|_|_|_|_|_|_|_|_|j
  all_goals first|rfl|omega
 rw[e]at hj
 injection hj with hj
 subst hj
 rw[Nat.zero_add]
 exact h2
theorem Mk.get_keyed (m:Mk)(S:Sl):(Mk.cells m S)[51]? =some (.bool m.C.keyed):=by rw[Mk.get m S _ (by decide)];rfl
theorem set_map (f f':Nat→Value)(n i:Nat)(v:Value)(h1:f' i=v)(h2: ∀j,j≠i→f' j=f j):((List.range n).map f).set i v=(List.range n).map f':=by
 apply List.ext_getElem?
 intro j
 rw[List.getElem?_set]
 by_cases hj:j<n
 ·by_cases he:i=j
  ·subst he
   simp[hj,h1]
  ·rw[if_neg he]
   simp[hj,h2 j (fun e=>he e.symm)]
 ·simp[hj]
  omega
theorem at_N (m:Mk)(S:Sl)(i:Nat)(hi:i<20):Mk.at_ m S (119+i)= .int .u64 (m.h.N i):=by
 have:=Mk.get_N m S i hi
 rw[Mk.get m S _ (by omega)]at this
 injection this
theorem Mk.set_N (m:Mk)(S:Sl)(i:Nat)(hi:i<20)(v:Int):(Mk.cells m S).set (119+i) (.int .u64 v)=Mk.cells {m with h:=setN m.h i v} S:=by
 refine set_map _ _ _ _ _ ?_ fun j hj=>?_
 ·rw[at_N _ _ _ hi];simp[setN]
 ·unfold Mk.at_
  by_cases h1:j<142
  ·rw[if_pos h1,if_pos h1]
   by_cases h2:j<52
   ·rw[if_pos h2,if_pos h2]
   ·rw[if_neg h2,if_neg h2]
    unfold HD.at_
    simp only[setN]
    by_cases h3:j-52<67+20
    ·by_cases h4:j-52<67
     ·simp only[h4,if_true]
     ·rw[if_neg (by omega),if_neg h4,if_pos h3,if_neg (by omega),if_neg h4,if_pos h3,if_neg (by omega)]
    ·simp only[h3,if_false]
  ·rw[if_neg h1,if_neg h1]
theorem Mk.set_Nk (m:Mk)(S:Sl)(i k:Nat)(hi:i<20)(hk:k=119+i)(v:Int):(Mk.cells m S).set k (.int .u64 v)=Mk.cells {m with h:=setN m.h i v} S:=by subst hk;exact Mk.set_N m S i hi v
theorem Mk.get_Nk (m:Mk)(S:Sl)(i k:Nat)(hi:i<20)(hk:k=119+i):(Mk.cells m S)[k]? =some (.int .u64 (m.h.N i)):=by subst hk;exact Mk.get_N m S i hi
theorem Mk.set_depth (m:Mk)(S:Sl)(v:Nat):(Mk.cells m S).set 142 (.int .u64 (v:Int))=Mk.cells {m with depth:=v} S:=
 set_map _ _ _ _ _ rfl fun j hj=>by
  unfold Mk.at_
  by_cases h1:j<142
  ·rw[if_pos h1,if_pos h1]
  ·rw[if_neg h1,if_neg h1,if_neg hj,if_neg hj]
theorem Mk.set_b (m:Mk)(S:Sl)(v:Value):(Mk.cells m S).set 143 v=Mk.cells m {S with b:=v}:=
 set_map _ _ _ _ _ rfl fun j hj=>by
  unfold Mk.at_
  by_cases h1:j<142
  ·rw[if_pos h1,if_pos h1]
  ·rw[if_neg h1,if_neg h1,if_neg hj,if_neg hj]
theorem Mk.set_d (m:Mk)(S:Sl)(v:Value):(Mk.cells m S).set 144 v=Mk.cells m {S with d:=v}:=
 set_map _ _ _ _ _ rfl fun j hj=>by
  unfold Mk.at_
  by_cases h1:j<142
  ·rw[if_pos h1,if_pos h1]
  ·rw[if_neg h1,if_neg h1,if_neg hj,if_neg hj]
theorem Mk.set_f (m:Mk)(S:Sl)(v:Value):(Mk.cells m S).set 145 v=Mk.cells m {S with f:=v}:=
 set_map _ _ _ _ _ rfl fun j hj=>by
  unfold Mk.at_
  by_cases h1:j<142
  ·rw[if_pos h1,if_pos h1]
  ·rw[if_neg h1,if_neg h1,if_neg hj,if_neg hj]
theorem Mk.set_m (m:Mk)(S:Sl)(v:Value):(Mk.cells m S).set 146 v=Mk.cells m {S with m:=v}:=by
 refine(List.ext_getElem? fun j=>?_)
 rw[List.getElem?_set]
 by_cases hj:j<147
 ·by_cases he:146=j
  ·subst he
   rw[if_pos rfl,if_pos (by rw[Mk.len];decide),Mk.get _ _ _ hj]
   rfl
  ·rw[if_neg he,Mk.get _ _ _ hj,Mk.get _ _ _ hj]
   unfold Mk.at_
   by_cases h1:j<142
   ·rw[if_pos h1,if_pos h1]
   ·rw[if_neg h1,if_neg h1]
    by_cases h2:j=142
    ·rw[if_pos h2,if_pos h2]
    ·rw[if_neg h2,if_neg h2]
     by_cases h3:j=143
     ·rw[if_pos h3,if_pos h3]
     ·rw[if_neg h3,if_neg h3]
      by_cases h4:j=144
      ·rw[if_pos h4,if_pos h4]
      ·rw[if_neg h4,if_neg h4,if_pos (by omega),if_pos (by omega)]
 ·rw[if_neg (by omega),List.getElem?_eq_none (by rw[Mk.len];omega),List.getElem?_eq_none (by rw[Mk.len];omega)]
theorem Mk.cells_same {m m':Mk}(h1:m.C=m'.C)(h2:m.h=m'.h)(h3:m.depth=m'.depth)(S:Sl):Mk.cells m S=Mk.cells m' S:=by
 unfold Mk.cells
 congr 1
 funext i
 unfold Mk.at_
 rw[h1,h2,h3]
theorem wpList_append_g {w:World}{ops:Array Oper}{rest:List Oper}{o:Oper}{a:Act}{Q:Exit→Act→World→Prop}(hgd:o.guard=none)(s x:Operand)
 (hop:o.op= .call {callee:= .builtin .append,args:= #[s,x],argTypes:= #[24,24]})
 (base bb:Nat)(n c:Nat)(l:List Int)(hs:a.eval s= .slice (some ⟨bb,0,none⟩) n c)(ho:Own w base (some ⟨bb,0,none⟩) n c l)(hn:0<n)(A2:Option Addr)(m c2:Nat)(ys:List Int)(hx:a.eval x= .slice A2 m c2)(hb:Bytes w A2 ys)(hm:ys.length=m)(hsz:n+m≤70368744177664)
 (h: ∀b' c' w',Own w' base (some ⟨b',0,none⟩) (n+m) c' (l++ys)→w.grownBy w' (some bb)→(b'=bb∨b'=w.heap.size)→wpList Tryz.prog ops Q rest (a.put o.dst (.slice (some ⟨b',0,none⟩) (n+m) c')) w'):wpList Tryz.prog ops Q (o::rest) a w:=
 wpList_plain hgd fun K hK=>by
  obtain⟨A',c',w',hr,h1,h2,h3⟩:=run_append_at w o.type base _ n c l ho A2 m c2 ys hb hm hsz
  unfold Oper.wp execOp
  simp only[hop,resolve,invoke,builtin,Sem.run_bind,Sem.run_pure,Result.andThen_ok,List.map_toArray,List.map_cons,List.map_nil,hs,hx,hr]
  rcases h1.2.2.2.2 with⟨he,h0⟩|⟨g,cap,cur,hv,hbg,hg,_⟩
  ·exfalso;omega
  ·injection hv with e1 e2 e3
   subst e1
   refine hK _ _ (h g c' w' h1 h2 ?_)
   simpa [ownB]using h3
end Mc
namespace Md
open Bytes8 Blk8 Own8 OwnM OwnE Od Ga Ma Kf Mb Mc
structure MkB (w:World)(B g bb cb:Nat)(S:Sl)(m:Mk):Prop where
 st:Blk w g (Mk.cells m {S with b:= .slice (some ⟨bb,0,none⟩) m.b.length cb}) 168
 own:Own w B (some ⟨bb,0,none⟩) m.b.length cb m.b
 ne:g≠bb
def Two (g bb:Nat)(k:Nat):Prop:=k=g∨k=bb
theorem MkB.put {w w':World}{B g bb cb:Nat}{S:Sl}{m:Mk}(h:MkB w B g bb cb S m){l:List Int}(hl:l.length=m.b.length)(ho:Own w' B (some ⟨bb,0,none⟩) m.b.length cb l)(hp:Put8 bb w w'):MkB w' B g bb cb S {m with b:=l}:=
 ⟨by show Blk w' g (Mk.cells m {S with b:= .slice (some ⟨bb,0,none⟩) l.length cb}) _
     rw[hl];exact blk_keptF h.st hp.kept h.ne,by show Own w' B _ l.length cb l;rw[hl];exact ho,h.ne⟩
def LongB (w:World)(B g bb:Nat)(S:Sl)(m:Mk)(w':World):Prop:= ∃bb' cb',MkB w' B g bb' cb' S m∧(bb'=bb∨w.heap.size≤bb')∧KeptF (Two g bb) w w'
attribute [local irreducible] Mk.cells wpList Code.wp
theorem object_any (B g bb cb:Nat)(S:Sl)(m:Mk)(A2:Option Addr)(k c2:Nat)(ys:List Int)(w:World)(h:MkB w B g bb cb S m)(hb:Bytes w A2 ys)(hk:ys.length=k)(h0:0<m.b.length)(hn:m.b.length+k≤4000000)(h7:0≤m.h.N 7∧m.h.N 7≤1000000)(hg:B≤g):
 Calls Tryz.prog 100 #[.pointer (some ⟨g,0,none⟩),.slice A2 k c2] w fun e w'=>e= .returned (.int .u64 (m.b.length:Nat))∧LongB w B g bb S (m.object ys) w':=by
 obtain⟨hs,ho,hne⟩:=h
 generalize hN:m.b.length=n at*
 have HN:=yH hN
 have HB:=yH hs
 have HO:=yH ho
 have c3:=HB.out.cell (Mk.get_b _ _)
 have f3:=HB.out.frozen 143
 have hgl:=HB.out.lt
 clear hs ho hN
 go_enter Tryz.func100,Tryz.ntmps100
 go_upto_region 4 with(refine wpList_append_g rfl (.tmp 16) (.tmp 17) rfl B bb n cb m.b rfl HO.out h0 A2 k c2 ys rfl hb hk (by omega) ?_;intro b' c' w2 ho2 hgr hat;have HO2:=yH ho2;have HB2:=yH (blk_grown HB.out hgr hne);have HK2:=yH (KeptF.grow _ hgr);clear ho2 hgr;have e3:=HB2.out.cell (Mk.get_b _ _);have d3:w2.frozen? ⟨g,143,none⟩=false:=HB2.out.frozen 143;have HC2:=yH (HB2.out.set_ 143 (.slice (some ⟨b',0,none⟩) (n+k) c'));have e6:=HC2.out.cell (i:=125) ((List.getElem?_set_ne (by decide)).trans (Mk.get_Nk _ _ 6 125 (by decide) rfl));have d6:(w2.setCell ⟨g,143,none⟩ (.slice (some ⟨b',0,none⟩) (n+k) c')).frozen? ⟨g,125,none⟩=false:=HC2.out.frozen 125)
 have hgb:g≠b':=by
  rcases hat with h|h
  ·rw[h];exact hne
  ·omega
 obtain⟨W4,hW4⟩: ∃x,x=(w2.setCell ⟨g,143,none⟩ (.slice (some ⟨b',0,none⟩) (n+k) c')).setCell ⟨g,125,none⟩ (.int .u64 (n:Int)):=⟨_,rfl⟩
 have hd:=HC2.out.set_ 125 (.int .u64 (n:Int))
 rw[Mk.set_b,Mk.set_Nk _ _ 6 125 (by decide) rfl,←hW4]at hd
 have HD:=yH hd
 have d7:=HD.out.cell (Mk.get_Nk _ _ 7 126 (by decide) rfl)
 have g7:=HD.out.frozen 126
 rw[show(setN m.h 6 (n:Int)).N 7=m.h.N 7 from rfl]at d7
 have HO4:=yH (show Own W4 B (some ⟨b',0,none⟩) (n+k) c' (m.b++ys)by
  have h1:Own (w2.setCell ⟨g,143,none⟩ (.slice (some ⟨b',0,none⟩) (n+k) c')) B (some ⟨b',0,none⟩) (n+k) c' (m.b++ys):=Kf.Own.keptF HO2.out (KeptF.set1 w2 g 143 _) (fun j hj e=>hgb (by injection hj with hj;exact(e.symm.trans hj.symm)))
  rw[hW4]
  exact Kf.Own.keptF h1 (KeptF.set1 _ g 125 _) (fun j hj e=>hgb (by injection hj with hj;exact(e.symm.trans hj.symm))))
 have HK4:=yH (show KeptF (Two g bb) w W4 by
  rw[hW4]
  exact(KeptF.setCell (p:=⟨g,143,none⟩) (F:=Two g bb) (HK2.out.mono (fun i e=>Or.inr (Option.some.inj e).symm)) (fun _=>Or.inl rfl) _).setCell (p:=⟨g,125,none⟩) (fun _=>Or.inl rfl) _)
 clear hd
 rw[←hW4]
 clear hW4
 have hwr:IntKind.u64.wrap (m.h.N 7+1)=m.h.N 7+1:=by rw[IntKind.wrap_u64];omega
 go_region
 go_wp2
 go_ret
 refine⟨rfl,b',c',⟨?_,?_,hgb⟩,?_,?_⟩
 ·have h5:=HD.out.set_ 126 (.int .u64 (m.h.N 7+1))
  rw[Mk.set_Nk _ _ 7 126 (by decide) rfl]at h5
  have hl:(m.object ys).b.length=n+k:=by show(m.b++ys).length=_;rw[List.length_append,HN.out,hk]
  rw[hl]
  have e:=Mk.cells_same (m:={m with h:=setN (setN m.h 6 (n:Int)) 7 (m.h.N 7+1)}) (m':=m.object ys) rfl (by show _=setN (setN m.h 6 ((m.b.length:Nat):Int)) 7 (m.h.N 7+1);rw[HN.out]) rfl {S with b:= .slice (some ⟨b',0,none⟩) (n+k) c'}
  have h6:Blk (W4.setCell ⟨g,126,none⟩ (.int .u64 (m.h.N 7+1))) g (Mk.cells {m with h:=setN (setN m.h 6 (n:Int)) 7 (m.h.N 7+1)} {S with b:= .slice (some ⟨b',0,none⟩) (n+k) c'}) 168:=h5
  rw[e]at h6
  exact h6
 ·have hl:(m.object ys).b.length=n+k:=by show(m.b++ys).length=_;rw[List.length_append,HN.out,hk]
  rw[hl]
  exact Kf.Own.keptF HO4.out ((KeptF.set1 _ g 126 _).drew) (fun j hj e=>hgb (by injection hj with hj;exact(e.symm.trans hj.symm)))
 ·rcases hat with h|h
  ·exact .inl h
  ·exact .inr (by omega)
 ·exact(HK4.out.setCell (p:=⟨g,126,none⟩) (fun _=>Or.inl rfl) _).drew
end Md
namespace Me
open Bytes8 Blk8 Own8 OwnE Od Ga Ma Kf Mb Mc
def Kns (w:World)(A:Option Addr)(ks:List Kn):Prop:= ∀i (h:i<ks.length),∃b,A=some ⟨b,0,none⟩∧b<w.heap.size∧
 w.cell? ⟨b,i*5,none⟩=some (.string (Fa.T ks[i].text))∧w.cell? ⟨b,i*5+1,none⟩=some (.int .u64 (ks[i].at_:Int))∧w.cell? ⟨b,i*5+2,none⟩=some (.int .i64 (ks[i].slot:Int))∧w.cell? ⟨b,i*5+3,none⟩=some (.int .i64 (ks[i].count:Int))
theorem lastIn_mem {l:List Kn}{slot:Nat}(h:inSlot l slot≠0): ∃k∈l,lastIn l slot=k.at_:=by
 unfold inSlot at h
 unfold lastIn
 rcases hf:(l.filter fun k=>k.slot==slot).getLast? with _|k
 ·rw[List.getLast?_eq_none_iff]at hf
  rw[hf]at h
  exact absurd rfl h
 ·have:=List.mem_of_getLast? hf
  exact⟨k,(List.mem_filter.1 this).1,by rw[hf];rfl⟩
theorem inSlot_le (l:List Kn)(slot:Nat):inSlot l slot≤l.length:=List.length_filter_le _ _
attribute [local irreducible] Mk.cells wpList Code.wp
theorem hang_any (g bb cb n table a slot len cap:Nat)(cs:List Value)(T:TypeId)(l:List Int)(A:Option Addr)(ks:List Kn)(B:Nat)(w:World)(hs:Blk w g cs T)(h3:cs[143]? =some (.slice (some ⟨bb,0,none⟩) n cb))(hb:Own w B (some ⟨bb,0,none⟩) n cb l)(hne:g≠bb)(hn:n≤4000000)
 (hk:Kns w A ks)(hl:ks.length=len)(hlen:len≤1000000)(hsl:slot≤1000)(ht:table+16*slot+16≤n)(ha: ∀k∈ks,k.at_+32≤n):
 Calls Tryz.prog 148 #[.pointer (some ⟨g,0,none⟩),.slice A len cap,.int .u64 (table:Int),.int .u64 (a:Int),.int .i64 (slot:Int)] w fun e w'=>e= .returned (.int .u64 (inSlot ks slot:Nat))∧Own w' B (some ⟨bb,0,none⟩) n cb (hung l ks table a slot)∧Put8 bb w w':=by
 have HS:=yH hs
 have H3:=yH h3
 have HB:=yH hb
 have HK:=yH hk
 have HA:=yH ha
 have HL:=yH hl
 clear hs h3 hb hk ha hl
 go_enter Tryz.func148,Tryz.ntmps148
 go_wp2
 go_loopw [11,12,13] (fun x y i wr=> ∃k:Nat,k≤len∧i= .int .i64 (k:Int)∧x= .int .u64 (inSlot (ks.take k) slot:Nat)∧y= .int .u64 (lastIn (ks.take k) slot:Nat)∧wr=w) (fun _ _ i _=>len-(intOf i).toNat)
 case atStart=>exact⟨0,Nat.zero_le _,rfl,rfl,rfl,rfl⟩
 case round=>
  obtain⟨k,hkk,rfl,rfl,rfl,rfl⟩:=hrel
  by_cases hlt:k<len
  ·have hki:k<ks.length:=by rw[HL.out];exact hlt
   obtain⟨b,rfl,hbl,c0,c1,c2,c4⟩:=HK.out k hki
   have HT:=yH (take_snoc_kn ks k hki)
   have HI:=yH (inSlot_snoc (ks.take k) ks[k] slot)
   have HLa:=yH (lastIn_snoc (ks.take k) ks[k] slot)
   have hil:inSlot (ks.take k) slot≤k:=Nat.le_trans (inSlot_le _ _) (by simp;omega)
   clear c0 c4
   generalize ks[k]=q at*
   obtain⟨qs,hqs⟩: ∃x,x=q.slot:=⟨_,rfl⟩
   obtain⟨i0,hi0⟩: ∃x,x=inSlot (ks.take k) slot:=⟨_,rfl⟩
   obtain⟨l0,hl0⟩: ∃x,x=lastIn (ks.take k) slot:=⟨_,rfl⟩
   rw[←hqs]at c2
   rw[←hi0]at HI hil⊢
   rw[←hl0]at HLa⊢
   have hqs2:=yH hqs
   clear hqs hi0 hl0
   by_cases he:qs=slot
   ·have d1:((qs:Int)==(slot:Int))=true:=by simp[he]
    rw[if_pos (hqs2.out▸he)]at HI HLa
    clear he
    go_wp2
    go_roundw
    case rel=>exact⟨k+1,by omega,by go_num,by rw[HT.out,HI.out];go_num,by rw[HT.out,HLa.out],trivial⟩
    case measure=>simp[intOf];omega
   ·have d1:((qs:Int)==(slot:Int))=false:=by simp;omega
    rw[if_neg (fun e=>he (hqs2.out▸e))]at HI HLa
    clear he
    go_wp2
    go_roundw
    case rel=>exact⟨k+1,by omega,by go_num,by rw[HT.out,HI.out];rfl,by rw[HT.out,HLa.out],trivial⟩
    case measure=>simp[intOf];omega
  ·obtain rfl:k=len:=by omega
   rw[←HL.out,List.take_length]
   obtain⟨i0,hi0⟩: ∃x,x=inSlot ks slot:=⟨_,rfl⟩
   obtain⟨l0,hl0⟩: ∃x,x=lastIn ks slot:=⟨_,rfl⟩
   rw[←hi0,←hl0]
   have hin:l0+32≤n∨i0=0:=by
    rcases Nat.eq_zero_or_pos i0 with h|h
    ·exact .inr h
    ·left
     obtain⟨q,hq1,hq2⟩:=lastIn_mem (l:=ks) (slot:=slot) (by omega)
     rw[hl0,hq2]
     exact HA.out q hq1
   have hile:i0≤ks.length:=by rw[hi0];exact inSlot_le _ _
   rw[HL.out]at hile
   have HI:=yH hi0
   have HLa:=yH hl0
   clear hi0 hl0
   by_cases h0:i0=0
   ·have HE:=yH (show hung l ks table a slot=put8 (put8 l (table+16*slot) a) (table+16*slot+8) a by unfold hung;rw[←HI.out,if_pos h0])
    subst h0
    clear hin hile
    go_wp2_with(first|(go_at_call 104;(with_reducible refine Calls.mono (put_at g bb cb n (table+16*slot) _ (by omega) cs T l a B _ HS.out H3.out HB.out hne (by omega) hn) ?_);rintro e w1 ⟨rfl,ho1,hp1⟩;have HO1:=yH ho1;have HP1:=yH hp1;clear ho1 hp1)|(go_at_call 104;(refine Calls.mono (put_at g bb cb n (table+16*slot+8) _ (by omega) cs T _ a B _ (blk_keptF HS.out HP1.out.kept hne) H3.out HO1.out hne (by omega) hn) ?_);rintro e w2 ⟨rfl,ho2,hp2⟩;have HO2:=yH ho2;have HP2:=yH hp2;clear ho2 hp2)|fail)
    go_ret
    exact⟨by rw[←HI.out];rfl,by rw[HE.out];exact HO2.out,HP1.out.trans HP2.out⟩
   ·have d0:((i0:Int)==0)=false:=by simp;omega
    have hin2:l0+32≤n:=by omega
    have HE:=yH (show hung l ks table a slot=put8 (put8 l (l0+24) a) (table+16*slot+8) a by unfold hung;rw[←HI.out,if_neg h0,←HLa.out])
    clear hin h0
    go_wp2_with(first|(go_at_call 104;(with_reducible refine Calls.mono (put_at g bb cb n (l0+24) _ (by omega) cs T l a B _ HS.out H3.out HB.out hne (by omega) hn) ?_);rintro e w1 ⟨rfl,ho1,hp1⟩;have HO1:=yH ho1;have HP1:=yH hp1;clear ho1 hp1)|(go_at_call 104;(refine Calls.mono (put_at g bb cb n (table+16*slot+8) _ (by omega) cs T _ a B _ (blk_keptF HS.out HP1.out.kept hne) H3.out HO1.out hne (by omega) hn) ?_);rintro e w2 ⟨rfl,ho2,hp2⟩;have HO2:=yH ho2;have HP2:=yH hp2;clear ho2 hp2)|fail)
    go_ret
    exact⟨by rw[←HI.out];rfl,by rw[HE.out];exact HO2.out,HP1.out.trans HP2.out⟩
end Me
namespace Fb
open Bytes8 Blk8
def Grew (w w':World):Prop:= ∃q os,w'=Sort.grow (w.drewN q) os
theorem Grew.refl (w:World):Grew w w:=⟨0,#[],by rw[Sort.grow_empty];rfl⟩
theorem Grew.alloc {w w':World}(h:Grew w w')(o:Obj):Grew w (w'.alloc o):=by
 obtain⟨q,os,rfl⟩:=h
 exact⟨q,os++ #[o],by rw[Sort.alloc_eq_grow,Sort.grow_grow]⟩
theorem Grew.drew {w w':World}(h:Grew w w'):Grew w w'.drew:=by
 obtain⟨q,os,rfl⟩:=h
 exact⟨q+1,os,rfl⟩
theorem Grew.drewN {w w':World}(h:Grew w w')(n:Nat):Grew w (w'.drewN n):=by
 obtain⟨q,os,rfl⟩:=h
 refine⟨q+n,os,?_⟩
 simp only[Sort.grow,World.drewN,Nat.add_assoc]
theorem Grew.trans {a b c:World}(h:Grew a b)(k:Grew b c):Grew a c:=by
 obtain⟨q,os,rfl⟩:=h
 obtain⟨q',os',rfl⟩:=k
 refine⟨q+q',os++os',?_⟩
 simp only[Sort.grow,World.drewN,Nat.add_assoc,Array.append_assoc]
theorem Grew.below {w w':World}(h:Grew w w'):Below w.heap.size w w':=by
 obtain⟨q,os,rfl⟩:=h
 refine⟨rfl,rfl,rfl,by simp[Sort.grow,World.drewN],fun k hk=>?_⟩
 exact Sort.heap_grow_old (w.drewN q) os hk
theorem Grew.boxed (w:World)(o:Obj):Grew w (w.alloc o):=(Grew.refl w).alloc o
end Fb
namespace Fc
open Bytes8 Blk8 Fa Fb
theorem text_conv (l:List Int)(hA:AllB l): ∃(cf:World→Nat) (mk:World→World),∀w,
 (convert 9 24 (.string (T l))).run Tryz.prog w= .ok (.slice (some ⟨w.heap.size,0,none⟩) l.length (cf w)) (mk w)∧(∀g,w.heap.size=g→Bytes (mk w) (some ⟨g,0,none⟩) l)∧Grew w (mk w):=by
 refine⟨fun w=>grownCap w (T l).size 0 5,fun w=>w.drew.alloc (.cells (bytesRow (T l) (grownCap w (T l).size 0 5)) 5 ((bytesRow (T l) (grownCap w (T l).size 0 5)).size,(bytesRow (T l) (grownCap w (T l).size 0 5)).size+1)),fun w=>⟨?_,?_,?_⟩⟩
 ·rw[run_bytes_of_string w 9 24 5 (T l) Tryz.underlying9 Tryz.underlying24 Tryz.underlying5,T_size]
 ·rintro g rfl
  refine⟨hA,fun i hi=>⟨w.heap.size,0,rfl,by simp,?_⟩⟩
  rw[Nat.zero_add]
  show(w.drew.alloc (.cells _ _ _)).cell? ⟨w.drew.heap.size,i,none⟩=_
  rw[World.cell?_alloc_mark]
  have hd:i<(T l).data.size:=by
   have:=T_size l
   show i<(T l).size
   omega
  refine(bytesRow_at (T l) _ i hd).trans ?_
  have e1:(T l).data[i]=(T l).toList[i]'(by rw[ByteArray.toList_eq];simpa using hd):=by simp only[ByteArray.toList_eq];rfl
  rw[e1]
  simp only[T_toList,List.getElem_map]
  have hv:=hA l[i] (List.getElem_mem hi)
  have e3:l.getD i 0=l[i]:=by simp[List.getElem?_eq_getElem hi]
  rw[e3]
  have e4:(((l[i]).toNat.toUInt8.toNat:Nat):Int)=l[i]:=by simp;omega
  rw[e4]
 ·exact((Grew.refl w).drew).alloc _
end Fc
end Go.Proofs.YtiddkgcafpaekaaGreat
