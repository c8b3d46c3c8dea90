/-
  Texts beneath the proof.
-/
import Derived.Sort.Grow
import Derived.Test.YtjecmgkmcfkcjaaGreatQd12
set_option linter.unusedVariables false
set_option linter.unusedSimpArgs false
set_option maxRecDepth 100000
set_option maxHeartbeats 2000000
open Go.ChangeShapes Go.WideShapes Go.ChangeAt Go.RowKit
namespace Go.Proofs.YtjecmgkmcfkcjaaGreat
namespace Mb
open Bytes8 Blk8 Own8 OwnE LeNum Ob Od Ma Kf
theorem room_any (k:Nat)(w:World):Calls Tryz.prog 168 #[.int .i64 (k:Int)] w fun e w'=>e= .returned (.int .i64 (roomN k:Nat))∧w=w':=by
 by_cases h:6<k
 ·have d1:decide ((6:Int)<(k:Int))=true:=by simp;omega
  rw[show roomN k=256 by unfold roomN;rw[if_pos h]]
  go_enter Tryz.func168,Tryz.ntmps168
  go_wp2
  go_ret
  exact⟨rfl,rfl⟩
 ·rcases k with _|_|_|_|_|_|_|k
  all_goals first
   |omega
   |(go_enter Tryz.func168,Tryz.ntmps168
     go_wp2
     go_ret
     exact⟨rfl,rfl⟩)
theorem own_set {w:World}{base g n c:Nat}{l:List Int}(h:Own w base (some ⟨g,0,none⟩) n c l)(i:Nat){x:Int}(h0:0≤x)(h1:x<256):Own (w.setCell ⟨g,i,none⟩ (.int .u8 x)) base (some ⟨g,0,none⟩) n c (l.set i x):=by
 refine⟨h.1.set i h0 h1,by rw[List.length_set];exact h.2.1,by simpa using h.2.2.1,?_⟩
 have:=(h.2.2.2.stored i (.int .u8 x)).1
 rw[List.map_set]
 exact this
theorem own_lt {w:World}{base g n c:Nat}{l:List Int}(h:Own w base (some ⟨g,0,none⟩) n c l):base≤g∧g<w.heap.size:=h.lt g rfl
structure Put8 (bb:Nat)(w w':World):Prop where
 kept:KeptF (One bb) w w'
 size:w'.heap.size=w.heap.size
theorem Put8.refl (bb:Nat)(w:World):Put8 bb w w:=⟨KeptF.refl _ _,rfl⟩
theorem Put8.set {bb:Nat}{w0 w:World}(h:Put8 bb w0 w)(i:Nat)(u:Value):Put8 bb w0 (w.setCell ⟨bb,i,none⟩ u):=⟨h.kept.setCell (p:=⟨bb,i,none⟩) (fun _=>(rfl:bb=bb)) u,by simpa using h.size⟩
theorem Put8.trans {bb:Nat}{a b c:World}(h:Put8 bb a b)(k:Put8 bb b c):Put8 bb a c:=⟨h.kept.trans k.kept fun _ _ h=>h,k.size.trans h.size⟩
theorem blk_keptF {F:Nat→Prop}{w w':World}{g:Nat}{vs:List Value}{T:TypeId}(h:Blk w g vs T)(hk:KeptF F w w')(hF: ¬F g):Blk w' g vs T:=(hk.block g h.lt hF).trans h
theorem put_any (g bb cb n a:Nat)(cs:List Value)(T:TypeId)(l:List Int)(v:Int)(B:Nat)(w:World)(hs:Blk w g cs T)(h3:cs[143]? =some (.slice (some ⟨bb,0,none⟩) n cb))(hb:Own w B (some ⟨bb,0,none⟩) n cb l)(hne:g≠bb)(ha:a+8≤n)(hn:n≤4000000):
 Calls Tryz.prog 117 #[.pointer (some ⟨g,0,none⟩),.int .u64 (a:Int),.int .u64 v] w fun e w'=>e= .returned (.tuple #[])∧Own w' B (some ⟨bb,0,none⟩) n cb (put8 l a v)∧Put8 bb w w':=by
 have HS:=Lib.hid hs
 have H3:=Lib.hid h3
 have HL:=Lib.hid hb.2.1
 clear hs h3
 go_enter Tryz.func117,Tryz.ntmps117
 go_wp2
 go_loopw [6] (fun i wr=> ∃k:Nat,k≤8∧i= .int .i64 (k:Int)∧Hid (Own wr B (some ⟨bb,0,none⟩) n cb (over l a (lowB v k)))∧Hid (Put8 bb w wr)) (fun i _=>8-(intOf i).toNat)
 case atStart=>exact⟨0,Nat.zero_le _,rfl,Lib.hid (by rw[show lowB v 0=[]from rfl,over_nil];exact hb),Lib.hid (Put8.refl _ _)⟩
 case round=>
  obtain⟨k,hk,rfl,hO,hP⟩:=hrel
  by_cases hlt:k<8
  ·have c3:=(blk_keptF HS.out hP.out.kept hne).cell H3.out
   have hcell:=hO.out.2.2.2.cellAt (a+k) (by omega)
   have hfr:=hO.out.2.2.2.frozenAt (a+k)
   obtain⟨z,hz2⟩: ∃z,(over l a (lowB v k))[a+k]? =some z:=⟨_,List.getElem?_eq_getElem (by rw[hO.out.2.1];omega)⟩
   rw[List.getElem?_map,hz2]at hcell
   clear hz2
   have HSt:=Lib.hid (own_set hO.out (a+k) (Int.emod_nonneg (v/256^k) (by decide:(256:Int)≠0)) (Int.emod_lt_of_pos (v/256^k) (by decide)))
   rw[show(over l a (lowB v k)).set (a+k) (v/256^k%256)=over l a (lowB v (k+1))by
    have e:=over_step l a (lowB v k) (v/256^k%256) (by rw[lowB_len,HL.out];omega)
    rw[lowB_len]at e
    rw[lowB_succ,e]]at HSt
   rw[←two_pow_8]at HSt
   have hpk:a+k<n:=by omega
   generalize hpk2:a+k=pk at*
   go_wp2
   go_roundw
   case rel=>exact⟨k+1,by omega,by go_num,HSt,Lib.hid (hP.out.set _ _)⟩
   case measure=>simp[intOf];omega
  ·obtain rfl:k=8:=by omega
   go_wp2
   go_end0
   exact⟨rfl,hO.out,hP.out⟩
theorem put_at (g bb cb n a:Nat)(z:Int)(hz:z=(a:Int))(cs:List Value)(T:TypeId)(l:List Int)(v:Int)(B:Nat)(w:World)(hs:Blk w g cs T)(h3:cs[143]? =some (.slice (some ⟨bb,0,none⟩) n cb))(hb:Own w B (some ⟨bb,0,none⟩) n cb l)(hne:g≠bb)(ha:a+8≤n)(hn:n≤4000000):
 Calls Tryz.prog 117 #[.pointer (some ⟨g,0,none⟩),.int .u64 z,.int .u64 v] w fun e w'=>e= .returned (.tuple #[])∧Own w' B (some ⟨bb,0,none⟩) n cb (put8 l a v)∧Put8 bb w w':=by
 subst hz;exact put_any g bb cb n a cs T l v B w hs h3 hb hne ha hn
end Mb
namespace Mc
open Bytes8 Blk8 Own8 OwnA OwnE Ob Od Ga Ma Kf Mb
structure Sl where
 b:Value
 d:Value
 f:Value
 m:Value
def Cf.at_ (C:Cf)(i:Nat):Value:=
 if i<48 then(if i<16 then .int .u8 (C.F i)else if i<32 then .int .u8 (C.M (i-16))else .int .u8 (C.S (i-32)))
 else if i=48 then .int .i64 (C.ds:Int)else if i=49 then .int .i64 (C.fs:Int)else if i=50 then .int .i64 (C.most:Int)else .bool C.keyed
def Mk.at_ (m:Mk)(S:Sl)(i:Nat):Value:=
 if i<142 then(if i<52 then Cf.at_ m.C i else m.h.at_ 20 (i-52))
 else if i=142 then .int .u64 (m.depth:Int)else if i=143 then S.b else if i=144 then S.d else if i=145 then S.f else S.m
def Mk.cells (m:Mk)(S:Sl):List Value:=(List.range 147).map (Mk.at_ m S)
theorem Mk.len (m:Mk)(S:Sl):(Mk.cells m S).length=147:=by simp[Mk.cells]
theorem Mk.get (m:Mk)(S:Sl)(i:Nat)(hi:i<147):(Mk.cells m S)[i]? =some (Mk.at_ m S i):=by simp[Mk.cells,hi]
theorem Mk.get_N (m:Mk)(S:Sl)(i:Nat)(hi:i<20):(Mk.cells m S)[119+i]? =some (.int .u64 (m.h.N i)):=by
 rw[Mk.get m S _ (by omega)]
 unfold Mk.at_
 rw[if_pos (by omega),if_neg (by omega),show 119+i-52=67+i by omega]
 have:=m.h.get_N 20 i hi
 rw[m.h.get 20 _ (by omega)]at this
 exact this
theorem Mk.get_depth (m:Mk)(S:Sl):(Mk.cells m S)[142]? =some (.int .u64 (m.depth:Int)):=by rw[Mk.get m S _ (by decide)];rfl
theorem Mk.get_b (m:Mk)(S:Sl):(Mk.cells m S)[143]? =some S.b:=by rw[Mk.get m S _ (by decide)];rfl
theorem Mk.get_d (m:Mk)(S:Sl):(Mk.cells m S)[144]? =some S.d:=by rw[Mk.get m S _ (by decide)];rfl
theorem Mk.get_f (m:Mk)(S:Sl):(Mk.cells m S)[145]? =some S.f:=by rw[Mk.get m S _ (by decide)];rfl
theorem Mk.get_m (m:Mk)(S:Sl):(Mk.cells m S)[146]? =some S.m:=by rw[Mk.get m S _ (by decide)];rfl
theorem Mk.get_ds (m:Mk)(S:Sl):(Mk.cells m S)[48]? =some (.int .i64 (m.C.ds:Int)):=by rw[Mk.get m S _ (by decide)];rfl
theorem Mk.get_fs (m:Mk)(S:Sl):(Mk.cells m S)[49]? =some (.int .i64 (m.C.fs:Int)):=by rw[Mk.get m S _ (by decide)];rfl
theorem Mk.get_most (m:Mk)(S:Sl):(Mk.cells m S)[50]? =some (.int .i64 (m.C.most:Int)):=by rw[Mk.get m S _ (by decide)];rfl
theorem Mk.get_F (m:Mk)(S:Sl)(i:Nat)(hi:i<16):(Mk.cells m S)[i]? =some (.int .u8 (m.C.F i)):=by
 rw[Mk.get m S _ (by omega)]
 unfold Mk.at_ Cf.at_
 rw[if_pos (by omega),if_pos (by omega),if_pos (by omega),if_pos hi]
abbrev fileV (C:Cf):List Value:=[.int .u8 (C.F 0),.int .u8 (C.F 1),.int .u8 (C.F 2),.int .u8 (C.F 3),.int .u8 (C.F 4),.int .u8 (C.F 5),.int .u8 (C.F 6),.int .u8 (C.F 7),.int .u8 (C.F 8),.int .u8 (C.F 9),.int .u8 (C.F 10),.int .u8 (C.F 11),.int .u8 (C.F 12),.int .u8 (C.F 13),.int .u8 (C.F 14),.int .u8 (C.F 15)]
theorem Mk.file_range {w:World}{g:Nat}{T:TypeId}{m:Mk}{S:Sl}(hb:Blk w g (Mk.cells m S) T):w.rangeAt g 0 (fileV m.C):=fun j v hj=>by
 have hl:j<16:=(List.getElem?_eq_some_iff.1 hj).1
 have h2:=hb.cell (Mk.get_F m S j hl)
 have e:(fileV m.C)[j]? =some (.int .u8 (m.C.F j)):=by
  rcases j with _|_|_|_|_|_|_|_|_|_|_|_|_|_|_|_|j
  all_goals first|rfl|omega
 rw[e]at hj
 injection hj with hj
 subst hj
 rw[Nat.zero_add]
 exact h2
theorem Mk.get_keyed (m:Mk)(S:Sl):(Mk.cells m S)[51]? =some (.bool m.C.keyed):=by rw[Mk.get m S _ (by decide)];rfl
theorem set_map (f f':Nat→Value)(n i:Nat)(v:Value)(h1:f' i=v)(h2: ∀j,j≠i→f' j=f j):((List.range n).map f).set i v=(List.range n).map f':=by
 apply List.ext_getElem?
 intro j
 rw[List.getElem?_set]
 by_cases hj:j<n
 ·by_cases he:i=j
  ·subst he
   simp[hj,h1]
  ·rw[if_neg he]
   simp[hj,h2 j (fun e=>he e.symm)]
 ·simp[hj]
  omega
theorem at_N (m:Mk)(S:Sl)(i:Nat)(hi:i<20):Mk.at_ m S (119+i)= .int .u64 (m.h.N i):=by
 have:=Mk.get_N m S i hi
 rw[Mk.get m S _ (by omega)]at this
 injection this
theorem Mk.set_N (m:Mk)(S:Sl)(i:Nat)(hi:i<20)(v:Int):(Mk.cells m S).set (119+i) (.int .u64 v)=Mk.cells {m with h:=setN m.h i v} S:=by
 refine set_map _ _ _ _ _ ?_ fun j hj=>?_
 ·rw[at_N _ _ _ hi];simp[setN]
 ·unfold Mk.at_
  by_cases h1:j<142
  ·rw[if_pos h1,if_pos h1]
   by_cases h2:j<52
   ·rw[if_pos h2,if_pos h2]
   ·rw[if_neg h2,if_neg h2]
    unfold HD.at_
    simp only[setN]
    by_cases h3:j-52<67+20
    ·by_cases h4:j-52<67
     ·simp only[h4,if_true]
     ·rw[if_neg (by omega),if_neg h4,if_pos h3,if_neg (by omega),if_neg h4,if_pos h3,if_neg (by omega)]
    ·simp only[h3,if_false]
  ·rw[if_neg h1,if_neg h1]
theorem Mk.set_Nk (m:Mk)(S:Sl)(i k:Nat)(hi:i<20)(hk:k=119+i)(v:Int):(Mk.cells m S).set k (.int .u64 v)=Mk.cells {m with h:=setN m.h i v} S:=by subst hk;exact Mk.set_N m S i hi v
theorem Mk.get_Nk (m:Mk)(S:Sl)(i k:Nat)(hi:i<20)(hk:k=119+i):(Mk.cells m S)[k]? =some (.int .u64 (m.h.N i)):=by subst hk;exact Mk.get_N m S i hi
theorem Mk.set_depth (m:Mk)(S:Sl)(v:Nat):(Mk.cells m S).set 142 (.int .u64 (v:Int))=Mk.cells {m with depth:=v} S:=
 set_map _ _ _ _ _ rfl fun j hj=>by
  unfold Mk.at_
  by_cases h1:j<142
  ·rw[if_pos h1,if_pos h1]
  ·rw[if_neg h1,if_neg h1,if_neg hj,if_neg hj]
theorem Mk.set_b (m:Mk)(S:Sl)(v:Value):(Mk.cells m S).set 143 v=Mk.cells m {S with b:=v}:=
 set_map _ _ _ _ _ rfl fun j hj=>by
  unfold Mk.at_
  by_cases h1:j<142
  ·rw[if_pos h1,if_pos h1]
  ·rw[if_neg h1,if_neg h1,if_neg hj,if_neg hj]
theorem Mk.set_d (m:Mk)(S:Sl)(v:Value):(Mk.cells m S).set 144 v=Mk.cells m {S with d:=v}:=
 set_map _ _ _ _ _ rfl fun j hj=>by
  unfold Mk.at_
  by_cases h1:j<142
  ·rw[if_pos h1,if_pos h1]
  ·rw[if_neg h1,if_neg h1,if_neg hj,if_neg hj]
theorem Mk.set_f (m:Mk)(S:Sl)(v:Value):(Mk.cells m S).set 145 v=Mk.cells m {S with f:=v}:=
 set_map _ _ _ _ _ rfl fun j hj=>by
  unfold Mk.at_
  by_cases h1:j<142
  ·rw[if_pos h1,if_pos h1]
  ·rw[if_neg h1,if_neg h1,if_neg hj,if_neg hj]
theorem Mk.set_m (m:Mk)(S:Sl)(v:Value):(Mk.cells m S).set 146 v=Mk.cells m {S with m:=v}:=by
 refine(List.ext_getElem? fun j=>?_)
 rw[List.getElem?_set]
 by_cases hj:j<147
 ·by_cases he:146=j
  ·subst he
   rw[if_pos rfl,if_pos (by rw[Mk.len];decide),Mk.get _ _ _ hj]
   rfl
  ·rw[if_neg he,Mk.get _ _ _ hj,Mk.get _ _ _ hj]
   unfold Mk.at_
   by_cases h1:j<142
   ·rw[if_pos h1,if_pos h1]
   ·rw[if_neg h1,if_neg h1]
    by_cases h2:j=142
    ·rw[if_pos h2,if_pos h2]
    ·rw[if_neg h2,if_neg h2]
     by_cases h3:j=143
     ·rw[if_pos h3,if_pos h3]
     ·rw[if_neg h3,if_neg h3]
      by_cases h4:j=144
      ·rw[if_pos h4,if_pos h4]
      ·rw[if_neg h4,if_neg h4,if_pos (by omega),if_pos (by omega)]
 ·rw[if_neg (by omega),List.getElem?_eq_none (by rw[Mk.len];omega),List.getElem?_eq_none (by rw[Mk.len];omega)]
theorem Mk.cells_same {m m':Mk}(h1:m.C=m'.C)(h2:m.h=m'.h)(h3:m.depth=m'.depth)(S:Sl):Mk.cells m S=Mk.cells m' S:=by
 unfold Mk.cells
 congr 1
 funext i
 unfold Mk.at_
 rw[h1,h2,h3]
theorem wpList_append_g {w:World}{ops:Array Oper}{rest:List Oper}{o:Oper}{a:Act}{Q:Exit→Act→World→Prop}(hgd:o.guard=none)(s x:Operand)
 (hop:o.op= .call {callee:= .builtin .append,args:= #[s,x],argTypes:= #[23,23]})
 (base bb:Nat)(n c:Nat)(l:List Int)(hs:a.eval s= .slice (some ⟨bb,0,none⟩) n c)(ho:Own w base (some ⟨bb,0,none⟩) n c l)(hn:0<n)(A2:Option Addr)(m c2:Nat)(ys:List Int)(hx:a.eval x= .slice A2 m c2)(hb:Bytes w A2 ys)(hm:ys.length=m)(hsz:n+m≤70368744177664)
 (h: ∀b' c' w',Own w' base (some ⟨b',0,none⟩) (n+m) c' (l++ys)→w.grownBy w' (some bb)→(b'=bb∨b'=w.heap.size)→wpList Tryz.prog ops Q rest (a.put o.dst (.slice (some ⟨b',0,none⟩) (n+m) c')) w'):wpList Tryz.prog ops Q (o::rest) a w:=
 wpList_plain hgd fun K hK=>by
  obtain⟨A',c',w',hr,h1,h2,h3⟩:=run_append_at w o.type base _ n c l ho A2 m c2 ys hb hm hsz
  unfold Oper.wp execOp
  simp only[hop,resolve,invoke,builtin,Sem.run_bind,Sem.run_pure,Result.andThen_ok,List.map_toArray,List.map_cons,List.map_nil,hs,hx,hr]
  rcases h1.2.2.2.2 with⟨he,h0⟩|⟨g,cap,cur,hv,hbg,hg,_⟩
  ·exfalso;omega
  ·injection hv with e1 e2 e3
   subst e1
   refine hK _ _ (h g c' w' h1 h2 ?_)
   simpa [ownB]using h3
end Mc
namespace Md
open Bytes8 Blk8 Own8 OwnM OwnE Od Ga Ma Kf Mb Mc
structure MkB (w:World)(B g bb cb:Nat)(S:Sl)(m:Mk):Prop where
 st:Blk w g (Mk.cells m {S with b:= .slice (some ⟨bb,0,none⟩) m.b.length cb}) 167
 own:Own w B (some ⟨bb,0,none⟩) m.b.length cb m.b
 ne:g≠bb
def Two (g bb:Nat)(k:Nat):Prop:=k=g∨k=bb
theorem MkB.put {w w':World}{B g bb cb:Nat}{S:Sl}{m:Mk}(h:MkB w B g bb cb S m){l:List Int}(hl:l.length=m.b.length)(ho:Own w' B (some ⟨bb,0,none⟩) m.b.length cb l)(hp:Put8 bb w w'):MkB w' B g bb cb S {m with b:=l}:=
 ⟨by show Blk w' g (Mk.cells m {S with b:= .slice (some ⟨bb,0,none⟩) l.length cb}) _
     rw[hl];exact blk_keptF h.st hp.kept h.ne,by show Own w' B _ l.length cb l;rw[hl];exact ho,h.ne⟩
def LongB (w:World)(B g bb:Nat)(S:Sl)(m:Mk)(w':World):Prop:= ∃bb' cb',MkB w' B g bb' cb' S m∧(bb'=bb∨w.heap.size≤bb')∧KeptF (Two g bb) w w'
attribute [local irreducible] Mk.cells wpList Code.wp
theorem object_any (B g bb cb:Nat)(S:Sl)(m:Mk)(A2:Option Addr)(k c2:Nat)(ys:List Int)(w:World)(h:MkB w B g bb cb S m)(hb:Bytes w A2 ys)(hk:ys.length=k)(h0:0<m.b.length)(hn:m.b.length+k≤4000000)(h7:0≤m.h.N 7∧m.h.N 7≤1000000)(hg:B≤g):
 Calls Tryz.prog 113 #[.pointer (some ⟨g,0,none⟩),.slice A2 k c2] w fun e w'=>e= .returned (.int .u64 (m.b.length:Nat))∧LongB w B g bb S (m.object ys) w':=by
 obtain⟨hs,ho,hne⟩:=h
 generalize hN:m.b.length=n at*
 have HN:=Lib.hid hN
 have HB:=Lib.hid hs
 have HO:=Lib.hid ho
 have c3:=HB.out.cell (Mk.get_b _ _)
 have f3:=HB.out.frozen 143
 have hgl:=HB.out.lt
 clear hs ho hN
 go_enter Tryz.func113,Tryz.ntmps113
 go_upto_region 4 with(refine wpList_append_g rfl (.tmp 16) (.tmp 17) rfl B bb n cb m.b rfl HO.out h0 A2 k c2 ys rfl hb hk (by omega) ?_;intro b' c' w2 ho2 hgr hat;have HO2:=Lib.hid ho2;have HB2:=Lib.hid (blk_grown HB.out hgr hne);have HK2:=Lib.hid (KeptF.grow _ hgr);clear ho2 hgr;have e3:=HB2.out.cell (Mk.get_b _ _);have d3:w2.frozen? ⟨g,143,none⟩=false:=HB2.out.frozen 143;have HC2:=Lib.hid (HB2.out.set_ 143 (.slice (some ⟨b',0,none⟩) (n+k) c'));have e6:=HC2.out.cell (i:=125) ((List.getElem?_set_ne (by decide)).trans (Mk.get_Nk _ _ 6 125 (by decide) rfl));have d6:(w2.setCell ⟨g,143,none⟩ (.slice (some ⟨b',0,none⟩) (n+k) c')).frozen? ⟨g,125,none⟩=false:=HC2.out.frozen 125)
 have hgb:g≠b':=by
  rcases hat with h|h
  ·rw[h];exact hne
  ·omega
 obtain⟨W4,hW4⟩: ∃x,x=(w2.setCell ⟨g,143,none⟩ (.slice (some ⟨b',0,none⟩) (n+k) c')).setCell ⟨g,125,none⟩ (.int .u64 (n:Int)):=⟨_,rfl⟩
 have hd:=HC2.out.set_ 125 (.int .u64 (n:Int))
 rw[Mk.set_b,Mk.set_Nk _ _ 6 125 (by decide) rfl,←hW4]at hd
 have HD:=Lib.hid hd
 have d7:=HD.out.cell (Mk.get_Nk _ _ 7 126 (by decide) rfl)
 have g7:=HD.out.frozen 126
 rw[show(setN m.h 6 (n:Int)).N 7=m.h.N 7 from rfl]at d7
 have HO4:=Lib.hid (show Own W4 B (some ⟨b',0,none⟩) (n+k) c' (m.b++ys)by
  have h1:Own (w2.setCell ⟨g,143,none⟩ (.slice (some ⟨b',0,none⟩) (n+k) c')) B (some ⟨b',0,none⟩) (n+k) c' (m.b++ys):=Kf.Own.keptF HO2.out (KeptF.set1 w2 g 143 _) (fun j hj e=>hgb (by injection hj with hj;exact(e.symm.trans hj.symm)))
  rw[hW4]
  exact Kf.Own.keptF h1 (KeptF.set1 _ g 125 _) (fun j hj e=>hgb (by injection hj with hj;exact(e.symm.trans hj.symm))))
 have HK4:=Lib.hid (show KeptF (Two g bb) w W4 by
  rw[hW4]
  exact(KeptF.setCell (p:=⟨g,143,none⟩) (F:=Two g bb) (HK2.out.mono (fun i e=>Or.inr (Option.some.inj e).symm)) (fun _=>Or.inl rfl) _).setCell (p:=⟨g,125,none⟩) (fun _=>Or.inl rfl) _)
 clear hd
 rw[←hW4]
 clear hW4
 have hwr:IntKind.u64.wrap (m.h.N 7+1)=m.h.N 7+1:=by rw[IntKind.wrap_u64];omega
 go_region
 go_wp2
 go_ret
 refine⟨rfl,b',c',⟨?_,?_,hgb⟩,?_,?_⟩
 ·have h5:=HD.out.set_ 126 (.int .u64 (m.h.N 7+1))
  rw[Mk.set_Nk _ _ 7 126 (by decide) rfl]at h5
  have hl:(m.object ys).b.length=n+k:=by show(m.b++ys).length=_;rw[List.length_append,HN.out,hk]
  rw[hl]
  have e:=Mk.cells_same (m:={m with h:=setN (setN m.h 6 (n:Int)) 7 (m.h.N 7+1)}) (m':=m.object ys) rfl (by show _=setN (setN m.h 6 ((m.b.length:Nat):Int)) 7 (m.h.N 7+1);rw[HN.out]) rfl {S with b:= .slice (some ⟨b',0,none⟩) (n+k) c'}
  have h6:Blk (W4.setCell ⟨g,126,none⟩ (.int .u64 (m.h.N 7+1))) g (Mk.cells {m with h:=setN (setN m.h 6 (n:Int)) 7 (m.h.N 7+1)} {S with b:= .slice (some ⟨b',0,none⟩) (n+k) c'}) 167:=h5
  rw[e]at h6
  exact h6
 ·have hl:(m.object ys).b.length=n+k:=by show(m.b++ys).length=_;rw[List.length_append,HN.out,hk]
  rw[hl]
  exact Kf.Own.keptF HO4.out ((KeptF.set1 _ g 126 _).drew) (fun j hj e=>hgb (by injection hj with hj;exact(e.symm.trans hj.symm)))
 ·rcases hat with h|h
  ·exact .inl h
  ·exact .inr (by omega)
 ·exact(HK4.out.setCell (p:=⟨g,126,none⟩) (fun _=>Or.inl rfl) _).drew
end Md
namespace Me
open Bytes8 Blk8 Own8 OwnE Od Ga Ma Kf Mb Mc
def Kns (w:World)(A:Option Addr)(ks:List Kn):Prop:= ∀i (h:i<ks.length),∃b,A=some ⟨b,0,none⟩∧b<w.heap.size∧
 w.cell? ⟨b,i*5,none⟩=some (.string (Fa.T ks[i].text))∧w.cell? ⟨b,i*5+1,none⟩=some (.int .u64 (ks[i].at_:Int))∧w.cell? ⟨b,i*5+2,none⟩=some (.int .i64 (ks[i].slot:Int))∧w.cell? ⟨b,i*5+3,none⟩=some (.int .i64 (ks[i].count:Int))
theorem lastIn_mem {l:List Kn}{slot:Nat}(h:inSlot l slot≠0): ∃k∈l,lastIn l slot=k.at_:=by
 unfold inSlot at h
 unfold lastIn
 rcases hf:(l.filter fun k=>k.slot==slot).getLast? with _|k
 ·rw[List.getLast?_eq_none_iff]at hf
  rw[hf]at h
  exact absurd rfl h
 ·have:=List.mem_of_getLast? hf
  exact⟨k,(List.mem_filter.1 this).1,by rw[hf];rfl⟩
theorem inSlot_le (l:List Kn)(slot:Nat):inSlot l slot≤l.length:=List.length_filter_le _ _
attribute [local irreducible] Mk.cells wpList Code.wp
theorem hang_any (g bb cb n table a slot len cap:Nat)(cs:List Value)(T:TypeId)(l:List Int)(A:Option Addr)(ks:List Kn)(B:Nat)(w:World)(hs:Blk w g cs T)(h3:cs[143]? =some (.slice (some ⟨bb,0,none⟩) n cb))(hb:Own w B (some ⟨bb,0,none⟩) n cb l)(hne:g≠bb)(hn:n≤4000000)
 (hk:Kns w A ks)(hl:ks.length=len)(hlen:len≤1000000)(hsl:slot≤1000)(ht:table+16*slot+16≤n)(ha: ∀k∈ks,k.at_+32≤n):
 Calls Tryz.prog 162 #[.pointer (some ⟨g,0,none⟩),.slice A len cap,.int .u64 (table:Int),.int .u64 (a:Int),.int .i64 (slot:Int)] w fun e w'=>e= .returned (.int .u64 (inSlot ks slot:Nat))∧Own w' B (some ⟨bb,0,none⟩) n cb (hung l ks table a slot)∧Put8 bb w w':=by
 have HS:=Lib.hid hs
 have H3:=Lib.hid h3
 have HB:=Lib.hid hb
 have HK:=Lib.hid hk
 have HA:=Lib.hid ha
 have HL:=Lib.hid hl
 clear hs h3 hb hk ha hl
 go_enter Tryz.func162,Tryz.ntmps162
 go_wp2
 go_loopw [11,12,13] (fun x y i wr=> ∃k:Nat,k≤len∧i= .int .i64 (k:Int)∧x= .int .u64 (inSlot (ks.take k) slot:Nat)∧y= .int .u64 (lastIn (ks.take k) slot:Nat)∧wr=w) (fun _ _ i _=>len-(intOf i).toNat)
 case atStart=>exact⟨0,Nat.zero_le _,rfl,rfl,rfl,rfl⟩
 case round=>
  obtain⟨k,hkk,rfl,rfl,rfl,rfl⟩:=hrel
  by_cases hlt:k<len
  ·have hki:k<ks.length:=by rw[HL.out];exact hlt
   obtain⟨b,rfl,hbl,c0,c1,c2,c4⟩:=HK.out k hki
   have HT:=Lib.hid (take_snoc_kn ks k hki)
   have HI:=Lib.hid (inSlot_snoc (ks.take k) ks[k] slot)
   have HLa:=Lib.hid (lastIn_snoc (ks.take k) ks[k] slot)
   have hil:inSlot (ks.take k) slot≤k:=Nat.le_trans (inSlot_le _ _) (by simp;omega)
   clear c0 c4
   generalize ks[k]=q at*
   obtain⟨qs,hqs⟩: ∃x,x=q.slot:=⟨_,rfl⟩
   obtain⟨i0,hi0⟩: ∃x,x=inSlot (ks.take k) slot:=⟨_,rfl⟩
   obtain⟨l0,hl0⟩: ∃x,x=lastIn (ks.take k) slot:=⟨_,rfl⟩
   rw[←hqs]at c2
   rw[←hi0]at HI hil⊢
   rw[←hl0]at HLa⊢
   have hqs2:=Lib.hid hqs
   clear hqs hi0 hl0
   by_cases he:qs=slot
   ·have d1:((qs:Int)==(slot:Int))=true:=by simp[he]
    rw[if_pos (hqs2.out▸he)]at HI HLa
    clear he
    go_wp2
    go_roundw
    case rel=>exact⟨k+1,by omega,by go_num,by rw[HT.out,HI.out];go_num,by rw[HT.out,HLa.out],trivial⟩
    case measure=>simp[intOf];omega
   ·have d1:((qs:Int)==(slot:Int))=false:=by simp;omega
    rw[if_neg (fun e=>he (hqs2.out▸e))]at HI HLa
    clear he
    go_wp2
    go_roundw
    case rel=>exact⟨k+1,by omega,by go_num,by rw[HT.out,HI.out];rfl,by rw[HT.out,HLa.out],trivial⟩
    case measure=>simp[intOf];omega
  ·obtain rfl:k=len:=by omega
   rw[←HL.out,List.take_length]
   obtain⟨i0,hi0⟩: ∃x,x=inSlot ks slot:=⟨_,rfl⟩
   obtain⟨l0,hl0⟩: ∃x,x=lastIn ks slot:=⟨_,rfl⟩
   rw[←hi0,←hl0]
   have hin:l0+32≤n∨i0=0:=by
    rcases Nat.eq_zero_or_pos i0 with h|h
    ·exact .inr h
    ·left
     obtain⟨q,hq1,hq2⟩:=lastIn_mem (l:=ks) (slot:=slot) (by omega)
     rw[hl0,hq2]
     exact HA.out q hq1
   have hile:i0≤ks.length:=by rw[hi0];exact inSlot_le _ _
   rw[HL.out]at hile
   have HI:=Lib.hid hi0
   have HLa:=Lib.hid hl0
   clear hi0 hl0
   by_cases h0:i0=0
   ·have HE:=Lib.hid (show hung l ks table a slot=put8 (put8 l (table+16*slot) a) (table+16*slot+8) a by unfold hung;rw[←HI.out,if_pos h0])
    subst h0
    clear hin hile
    go_wp2_with(first|(go_at_call 117;(with_reducible refine Calls.mono (put_at g bb cb n (table+16*slot) _ (by omega) cs T l a B _ HS.out H3.out HB.out hne (by omega) hn) ?_);rintro e w1 ⟨rfl,ho1,hp1⟩;have HO1:=Lib.hid ho1;have HP1:=Lib.hid hp1;clear ho1 hp1)|(go_at_call 117;(refine Calls.mono (put_at g bb cb n (table+16*slot+8) _ (by omega) cs T _ a B _ (blk_keptF HS.out HP1.out.kept hne) H3.out HO1.out hne (by omega) hn) ?_);rintro e w2 ⟨rfl,ho2,hp2⟩;have HO2:=Lib.hid ho2;have HP2:=Lib.hid hp2;clear ho2 hp2)|fail)
    go_ret
    exact⟨by rw[←HI.out];rfl,by rw[HE.out];exact HO2.out,HP1.out.trans HP2.out⟩
   ·have d0:((i0:Int)==0)=false:=by simp;omega
    have hin2:l0+32≤n:=by omega
    have HE:=Lib.hid (show hung l ks table a slot=put8 (put8 l (l0+24) a) (table+16*slot+8) a by unfold hung;rw[←HI.out,if_neg h0,←HLa.out])
    clear hin h0
    go_wp2_with(first|(go_at_call 117;(with_reducible refine Calls.mono (put_at g bb cb n (l0+24) _ (by omega) cs T l a B _ HS.out H3.out HB.out hne (by omega) hn) ?_);rintro e w1 ⟨rfl,ho1,hp1⟩;have HO1:=Lib.hid ho1;have HP1:=Lib.hid hp1;clear ho1 hp1)|(go_at_call 117;(refine Calls.mono (put_at g bb cb n (table+16*slot+8) _ (by omega) cs T _ a B _ (blk_keptF HS.out HP1.out.kept hne) H3.out HO1.out hne (by omega) hn) ?_);rintro e w2 ⟨rfl,ho2,hp2⟩;have HO2:=Lib.hid ho2;have HP2:=Lib.hid hp2;clear ho2 hp2)|fail)
    go_ret
    exact⟨by rw[←HI.out];rfl,by rw[HE.out];exact HO2.out,HP1.out.trans HP2.out⟩
end Me
namespace Fb
open Bytes8 Blk8
def Grew (w w':World):Prop:= ∃q os,w'=Sort.grow (w.drewN q) os
theorem Grew.refl (w:World):Grew w w:=⟨0,#[],by rw[Sort.grow_empty];rfl⟩
theorem Grew.alloc {w w':World}(h:Grew w w')(o:Obj):Grew w (w'.alloc o):=by
 obtain⟨q,os,rfl⟩:=h
 exact⟨q,os++ #[o],by rw[Sort.alloc_eq_grow,Sort.grow_grow]⟩
theorem Grew.drew {w w':World}(h:Grew w w'):Grew w w'.drew:=by
 obtain⟨q,os,rfl⟩:=h
 exact⟨q+1,os,rfl⟩
theorem Grew.drewN {w w':World}(h:Grew w w')(n:Nat):Grew w (w'.drewN n):=by
 obtain⟨q,os,rfl⟩:=h
 refine⟨q+n,os,?_⟩
 simp only[Sort.grow,World.drewN,Nat.add_assoc]
theorem Grew.trans {a b c:World}(h:Grew a b)(k:Grew b c):Grew a c:=by
 obtain⟨q,os,rfl⟩:=h
 obtain⟨q',os',rfl⟩:=k
 refine⟨q+q',os++os',?_⟩
 simp only[Sort.grow,World.drewN,Nat.add_assoc,Array.append_assoc]
theorem Grew.below {w w':World}(h:Grew w w'):Below w.heap.size w w':=by
 obtain⟨q,os,rfl⟩:=h
 refine⟨rfl,rfl,rfl,by simp[Sort.grow,World.drewN],fun k hk=>?_⟩
 exact Sort.heap_grow_old (w.drewN q) os hk
theorem Grew.boxed (w:World)(o:Obj):Grew w (w.alloc o):=(Grew.refl w).alloc o
end Fb
namespace Fc
open Bytes8 Blk8 Fa Fb
theorem text_conv (l:List Int)(hA:AllB l): ∃(cf:World→Nat) (mk:World→World),∀w,
 (convert 9 23 (.string (T l))).run Tryz.prog w= .ok (.slice (some ⟨w.heap.size,0,none⟩) l.length (cf w)) (mk w)∧(∀g,w.heap.size=g→Bytes (mk w) (some ⟨g,0,none⟩) l)∧Grew w (mk w):=by
 refine⟨fun w=>grownCap w (T l).size 0 5,fun w=>w.drew.alloc (.cells (bytesRow (T l) (grownCap w (T l).size 0 5)) 5 ((bytesRow (T l) (grownCap w (T l).size 0 5)).size,(bytesRow (T l) (grownCap w (T l).size 0 5)).size+1)),fun w=>⟨?_,?_,?_⟩⟩
 ·rw[run_bytes_of_string w 9 23 5 (T l) Tryz.underlying9 Tryz.underlying23 Tryz.underlying5,T_size]
 ·rintro g rfl
  refine⟨hA,fun i hi=>⟨w.heap.size,0,rfl,by simp,?_⟩⟩
  rw[Nat.zero_add]
  show(w.drew.alloc (.cells _ _ _)).cell? ⟨w.drew.heap.size,i,none⟩=_
  rw[World.cell?_alloc_mark]
  have hd:i<(T l).data.size:=by
   have:=T_size l
   show i<(T l).size
   omega
  refine(bytesRow_at (T l) _ i hd).trans ?_
  have e1:(T l).data[i]=(T l).toList[i]'(by rw[ByteArray.toList_eq];simpa using hd):=by simp only[ByteArray.toList_eq];rfl
  rw[e1]
  simp only[T_toList,List.getElem_map]
  have hv:=hA l[i] (List.getElem_mem hi)
  have e3:l.getD i 0=l[i]:=by simp[List.getElem?_eq_getElem hi]
  rw[e3]
  have e4:(((l[i]).toNat.toUInt8.toNat:Nat):Int)=l[i]:=by simp;omega
  rw[e4]
 ·exact((Grew.refl w).drew).alloc _
end Fc
namespace Fb
open Bytes8 Fa
theorem rname_any (l:List Int)(hA:AllB l)(hmax:l.length≤9223372036854775807)(w:World):Calls Tryz.prog 197 #[.string (T l)] w fun e w'=>e= .returned (.bool (nmB l))∧w=w':=by
 have hsz:=T_size l
 have HI:=Lib.hid (index_at l hA)
 have HC:=Lib.hid fun j=>hA.at_ j
 have HN:=Lib.hid (fun j (hj:j<l.length) (h:okC (l.getD j 0)=false∨j=0∧isDig (l.getD j 0)=true)=>(by
  rcases h with h|⟨rfl,h⟩
  ·exact nmB_no hj h
  ·unfold nmB;rw[h];simp:nmB l=false))
 have HE:=Lib.hid (fun(h: ∀j,j<l.length→okC (l.getD j 0)=true∧(j=0→isDig (l.getD j 0)=false))=>(by
  rcases Nat.eq_zero_or_pos l.length with h0|h0
  ·obtain rfl:=List.eq_nil_of_length_eq_zero h0
   rfl
  ·unfold nmB
   rw[(h 0 h0).2 rfl,all_of fun j hj=>(h j hj).1]
   simp:nmB l=(decide (1≤l.length)&&decide (l.length≤64))))
 generalize hL:l.length=len at*
 have HL:=Lib.hid hL
 clear hL
 generalize T l=S at*
 go_enter Tryz.func197,Tryz.ntmps197
 go_wp2
 go_loop [3] (fun i=> ∃k:Nat,k≤len∧i= .int .i64 (k:Int)∧Hid (∀j,j<k→okC (l.getD j 0)=true∧(j=0→isDig (l.getD j 0)=false))) (fun i=>len-(intOf i).toNat)
 case atStart=>exact⟨0,by omega,rfl,Lib.hid fun j hj=>absurd hj (by omega)⟩
 case round=>
  obtain⟨k,hk,rfl,hall⟩:=hrel
  rcases Nat.lt_or_ge k len with hlt|hge
  ·have hidx:=HI.out k (by omega)
   have hin:(k:Int)<(len:Int):=by omega
   obtain⟨c1,c2⟩:=HC.out k
   have HNk:=Lib.hid (HN.out k (by omega))
   have HKk:=Lib.hid (fun(h:okC (l.getD k 0)=true∧(k=0→isDig (l.getD k 0)=false)) j (hj:j<k+1)=>(by
    rcases Nat.lt_or_ge j k with h1|h1
    ·exact hall.out j h1
    ·obtain rfl:j=k:=by omega
     exact h:okC (l.getD j 0)=true∧(j=0→isDig (l.getD j 0)=false)))
   clear hall
   generalize l.getD k 0=c at*
   have hgo:((48≤c∧c≤57∧0<k)∨(57<c∧65≤c∧c≤90)∨c=95)∧(okC c=true∧(k=0→isDig c=false))∨(c<48∨(48≤c∧c≤57∧k=0)∨(57<c∧c<65)∨(90<c∧c≠95))∧(okC c=false∨k=0∧isDig c=true):=by
    simp only[okC,isDig,isLet,Bool.or_eq_true,Bool.and_eq_true,decide_eq_true_eq,Bool.or_eq_false_iff,Bool.and_eq_false_iff,decide_eq_false_iff_not]
    omega
   rcases hgo with⟨hd,hok⟩|⟨hd,hok⟩
   ·have HK2:=Lib.hid (HKk.out hok)
    clear HNk HKk hok
    rcases hd with⟨d1,d2,d3⟩|⟨d1,d2,d3⟩|rfl
    all_goals
     go_wp2
     go_round
     case rel=>exact⟨k+1,by omega,by go_num,HK2⟩
     case measure=>simp[intOf];omega
   ·have HN2:=Lib.hid (HNk.out hok)
    clear HKk HNk hok
    rcases hd with d1|⟨d1,d2,d3⟩|⟨d1,d2⟩|⟨d1,d2⟩
    ·go_wp2
     go_ret
     exact⟨ret_bool HN2.out.symm,rfl⟩
    ·have hk0: ¬(0:Int)<(k:Int):=by omega
     have hk1: ¬0<k:=by omega
     clear d3
     go_wp2
     go_ret
     exact⟨ret_bool HN2.out.symm,rfl⟩
    ·go_wp2
     go_ret
     exact⟨ret_bool HN2.out.symm,rfl⟩
    ·have h95:(c==95)=false:=by simpa using d2
     clear d2
     go_wp2
     go_ret
     exact⟨ret_bool HN2.out.symm,rfl⟩
  ·obtain rfl:k=len:=by omega
   have HYk:=Lib.hid (HE.out (fun j hj=>hall.out j (by have:=HL.out;omega)))
   clear hall
   have h3:k=0∨(1≤k∧k≤64)∨64<k:=by omega
   rcases h3 with rfl|⟨h1,h2⟩|h1
   ·have HY2:=Lib.hid (HYk.out.trans (show(decide (1≤0)&&decide (0≤64))=false from rfl))
    clear HYk
    go_wp2
    go_ret
    exact⟨ret_bool HY2.out.symm,rfl⟩
   ·have HY2:=Lib.hid (HYk.out.trans (show(decide (1≤k)&&decide (k≤64))=true by rw[decide_eq_true h1,decide_eq_true h2];rfl))
    clear HYk
    have hdd:decide ((k:Int)≤64)=true:=by simp;omega
    go_wp2
    go_ret
    exact⟨ret_bool HY2.out.symm,rfl⟩
   ·have HY2:=Lib.hid (HYk.out.trans (show(decide (1≤k)&&decide (k≤64))=false by rw[decide_eq_false (show ¬k≤64 by omega)];simp))
    clear HYk
    have hdd:decide ((k:Int)≤64)=false:=by simp;omega
    go_wp2
    go_ret
    exact⟨ret_bool HY2.out.symm,rfl⟩
abbrev box (n v:List Int):Obj:= .cells #[.string (T n),.string (T v)] 58
end Fb
namespace Fb
open Bytes8 Fa
theorem isDigit_any (c:Int)(w:World):Calls Tryz.prog 230 #[.int .u8 c] w fun e w'=>e= .returned (.bool (isDig c))∧w=w':=by
 by_cases h1:48≤c<;>by_cases h2:c≤57
 all_goals
  go_enter Tryz.func230,Tryz.ntmps230
  go_wp2
  go_ret
  exact⟨by simp[isDig,h1,h2],rfl⟩
theorem isLetter_any (c:Int)(w:World):Calls Tryz.prog 231 #[.int .u8 c] w fun e w'=>e= .returned (.bool (isLet c))∧w=w':=by
 by_cases h1:65≤c<;>by_cases h2:c≤90
 all_goals
  go_enter Tryz.func231,Tryz.ntmps231
  go_wp2
  go_ret
  exact⟨by simp[isLet,h1,h2],rfl⟩
theorem name_any (l:List Int)(hA:AllB l)(w:World):Calls Tryz.prog 220 #[.string (T l)] w fun e w'=>e= .returned (.bool (nmB l))∧w=w':=by
 have hsz:=T_size l
 have HI:=Lib.hid (index_at l hA)
 have h0:(T l).toList.isEmpty=decide (l.length=0):=by
  rw[T_toList];cases l<;>rfl
 by_cases hlen:l.length=0
 ·have he:nmB l=false:=by
   obtain rfl:=List.eq_nil_of_length_eq_zero hlen
   rfl
  rw[he]
  rw[decide_eq_true hlen]at h0
  generalize T l=S at*
  clear HI
  go_enter Tryz.func220,Tryz.ntmps220
  go_wp2
  go_ret
  exact⟨rfl,rfl⟩
 rw[decide_eq_false hlen]at h0
 by_cases h64:64<l.length
 ·have he:nmB l=false:=by
   cases h:nmB l with
   |false=>rfl
   |true=>have:=nmB_len h;omega
  rw[he]
  generalize T l=S at*
  clear HI
  go_enter Tryz.func220,Tryz.ntmps220
  go_wp2
  go_ret
  exact⟨rfl,rfl⟩
 have HI0: ∀w,(Instr.index 9 (.string (T l)) (.int .i64 0)).run Tryz.prog w= .ok (.int .u8 (l.getD 0 0)) w:=HI.out 0 (by omega)
 have HD:=Lib.hid fun w=>isDigit_any (l.getD 0 0) w
 cases hd:isDig (l.getD 0 0)with
 |true=>
  have he:nmB l=false:=by unfold nmB;rw[hd];simp
  rw[he]
  rw[hd]at HD
  clear HI hd
  generalize l.getD 0 0=c0 at*
  generalize T l=S at*
  go_enter Tryz.func220,Tryz.ntmps220
  go_wp2_with(go_at_call 230;(with_reducible refine(HD.out _).mono ?_);rintro e w' ⟨rfl,rfl⟩)
  go_ret
  exact⟨rfl,rfl⟩
 |false=>
  have HY:=Lib.hid (fun h=>nmB_yes (l:=l) (by omega) (by omega) hd h)
  have HN:=Lib.hid (fun j hj h=>nmB_no (l:=l) (j:=j) hj h)
  rw[hd]at HD
  clear hd
  have HC:=Lib.hid fun j=>hA.at_ j
  generalize hL:l.length=len at*
  have HL:=Lib.hid hL
  clear hL
  generalize hc:l.getD 0 0=c0 at*
  clear hc
  generalize T l=S at*
  go_enter Tryz.func220,Tryz.ntmps220
  go_wp2_with(go_at_call 230;(with_reducible refine(HD.out _).mono ?_);rintro e w' ⟨rfl,rfl⟩)
  go_loop [18] (fun i=> ∃k:Nat,k≤len∧i= .int .i64 (k:Int)∧Hid (∀j,j<k→okC (l.getD j 0)=true)) (fun i=>len-(intOf i).toNat)
  case atStart=>exact⟨0,by omega,rfl,Lib.hid fun j hj=>absurd hj (by omega)⟩
  case round=>
   obtain⟨k,hk,rfl,hall⟩:=hrel
   rcases Nat.lt_or_ge k len with hlt|hge
   ·have hidx:=HI.out k (by omega)
    have hin:(k:Int)<(len:Int):=by omega
    have hk1:k≤64:=by omega
    have HDk:=Lib.hid fun w=>isDigit_any (l.getD k 0) w
    have HLk:=Lib.hid fun w=>isLetter_any (l.getD k 0) w
    obtain⟨c1,c2⟩:=HC.out k
    have HNk:=Lib.hid (HN.out k (by omega))
    have HKk:=Lib.hid (fun(h:okC (l.getD k 0)=true) j (hj:j<k+1)=>(by
     rcases Nat.lt_or_ge j k with h1|h1
     ·exact hall.out j h1
     ·obtain rfl:j=k:=by omega
      exact h:okC (l.getD j 0)=true))
    clear hall
    generalize l.getD k 0=c at*
    have hgo:okC c=true∧(isDig c=true∨isDig c=false∧isLet c=true∨isDig c=false∧isLet c=false∧c=95)∨okC c=false∧isDig c=false∧isLet c=false∧c≠95:=by
     unfold okC
     cases isDig c<;>cases isLet c<;>by_cases h3:c=95<;>simp[h3]
    rcases hgo with⟨hok,hd|⟨hd,hl⟩|⟨hd,hl,rfl⟩⟩|⟨hok,hd,hl,h95⟩
    ·rw[hd]at HDk
     clear hd
     have HKk:=Lib.hid (HKk.out hok)
     clear HNk hok
     go_wp2_with(go_at_call 230;(with_reducible refine(HDk.out _).mono ?_);rintro e w' ⟨rfl,rfl⟩)
     go_round
     case rel=>exact⟨k+1,by omega,by go_num,HKk⟩
     case measure=>simp[intOf];omega
    ·rw[hd]at HDk
     rw[hl]at HLk
     clear hd hl
     have HKk:=Lib.hid (HKk.out hok)
     clear HNk hok
     go_wp2_with(first|(go_at_call 230;(with_reducible refine(HDk.out _).mono ?_);rintro e w' ⟨rfl,rfl⟩)|(go_at_call 231;(with_reducible refine(HLk.out _).mono ?_);rintro e w' ⟨rfl,rfl⟩))
     go_round
     case rel=>exact⟨k+1,by omega,by go_num,HKk⟩
     case measure=>simp[intOf];omega
    ·rw[hd]at HDk
     rw[hl]at HLk
     clear hd hl
     have HKk:=Lib.hid (HKk.out hok)
     clear HNk hok
     go_wp2_with(first|(go_at_call 230;(with_reducible refine(HDk.out _).mono ?_);rintro e w' ⟨rfl,rfl⟩)|(go_at_call 231;(with_reducible refine(HLk.out _).mono ?_);rintro e w' ⟨rfl,rfl⟩))
     go_round
     case rel=>exact⟨k+1,by omega,by go_num,HKk⟩
     case measure=>simp[intOf];omega
    ·rw[hd]at HDk
     rw[hl]at HLk
     clear hd hl
     have HNk:=Lib.hid (HNk.out hok)
     clear HKk hok
     go_wp2_with(first|(go_at_call 230;(with_reducible refine(HDk.out _).mono ?_);rintro e w' ⟨rfl,rfl⟩)|(go_at_call 231;(with_reducible refine(HLk.out _).mono ?_);rintro e w' ⟨rfl,rfl⟩))
     go_ret
     exact⟨ret_bool HNk.out.symm,rfl⟩
   ·obtain rfl:k=len:=by omega
    have HYk:=Lib.hid (HY.out (fun j hj=>hall.out j (by have:=HL.out;omega)))
    clear hall
    go_wp2
    go_ret
    exact⟨ret_bool HYk.out.symm,rfl⟩
end Fb
namespace Fc
open Bytes8 Blk8 Fa Fb
theorem add_run (a b:List Int)(h:a.length+b.length≤1000000)(w:World):(Op.stringOp .add (T a) (T b)).run Tryz.prog w= .ok (.string (T (a++b))) w:=by
 rw[run_string_add_sum w _ _ (by rw[T_size,T_size];omega),T_app]
theorem rpayload_any (n v:List Int)(hmax:n.length+v.length≤900000)(w:World):
 Calls Tryz.prog 31 #[pv n v] w fun e w'=>e= .returned (.string (T (pay n v)))∧w.alloc (box n v)=w':=by
 have h1:=add_run n [61] (by simp;omega)
 have h2:=add_run (n++ [61]) v (by simp;omega)
 rw[←T_one]at h1
 have hp:pay n v=n++ [61]++v:=rfl
 rw[←hp]at h2
 dsimp only[pv,box]at*
 generalize T n=S at*
 generalize T v=V at*
 generalize T (n++ [61])=S1 at*
 generalize T (pay n v)=S2 at*
 clear hp
 go_enter Tryz.func31,Tryz.ntmps31
 go_wp2
 go_ret
 exact⟨rfl,rfl⟩
def joinL (n v:List Int):List Int:=if flawI n v=0 then pay n v else []
theorem flaw_len {n v:List Int}(h:flawI n v=0):n.length≤64∧v.length≤256:=by
 unfold flawI at h
 by_cases hn:nmB n=true
 ·rw[if_pos hn]at h
  have:=(nmB_len hn).2
  by_cases hv:256<v.length
  ·rw[if_pos hv]at h;cases h
  ·omega
 ·rw[if_neg hn]at h;cases h
def Joined (n v:List Int)(w:World)(e:Ending)(w':World):Prop:= ∃A c,e= .returned (.tuple #[.slice A (joinL n v).length c,.int .i64 (flawI n v)])∧Bytes w' A (joinL n v)∧Grew w w'
theorem rjoin_any (n v:List Int)(hn:AllB n)(hv:AllB v)(hmax:n.length≤9223372036854775807)(w:World):Calls Tryz.prog 159 #[pv n v] w (Joined n v w):=by
 have HN:=Lib.hid fun w=>rname_any n hn hmax w
 have hsz:=T_size v
 by_cases h:flawI n v=0
 ·have hL:joinL n v=pay n v:=if_pos h
  have hlen:=flaw_len h
  have hnm:nmB n=true:=by
   cases hnm:nmB n with
   |true=>rfl
   |false=>unfold flawI at h;rw[hnm]at h;cases h
  have HP:=Lib.hid fun w=>rpayload_any n v (by omega) w
  obtain⟨cf,mk,hmk⟩:=text_conv (pay n v) (pay_all hn hv)
  have hcv:=fun w=>(hmk w).1
  have HB:=Lib.hid fun w=>(hmk w).2
  clear hmk
  unfold Joined
  rw[hL,h]
  rw[hnm]at HN
  have hv256: ¬(256:Int)<(v.length:Int):=by omega
  dsimp only[pv,box]at*
  generalize T n=S at*
  generalize T v=V at*
  generalize T (pay n v)=P at*
  generalize pay n v=p at*
  generalize hpl:p.length=pl at*
  generalize v.length=vl at*
  clear h hL hlen hnm
  go_enter Tryz.func159,Tryz.ntmps159
  go_wp2_with(first|(go_at_call 197;(with_reducible refine(HN.out _).mono ?_);rintro e w' ⟨rfl,rfl⟩)|(go_at_call 31;(with_reducible refine(HP.out _).mono ?_);rintro e w' ⟨rfl,rfl⟩))
  go_ret2
  refine⟨_,_,rfl,(HB.out _).1 _ (by simp),?_⟩
  exact((Grew.refl w).alloc _).alloc _ |>.trans (HB.out _).2
 ·have hL:joinL n v=[]:=if_neg h
  have hG:=Grew.boxed w (box n v)
  unfold Joined
  rw[hL]
  cases hnm:nmB n with
  |false=>
   have hF:flawI n v=1:=by unfold flawI;rw[hnm];rfl
   rw[hF]
   rw[hnm]at HN
   dsimp only[pv,box]at*
   generalize T n=S at*
   generalize T v=V at*
   clear hL h hF hnm
   go_enter Tryz.func159,Tryz.ntmps159
   go_wp2_with(go_at_call 197;(with_reducible refine(HN.out _).mono ?_);rintro e w' ⟨rfl,rfl⟩)
   go_ret2
   exact⟨none,0,rfl,Bytes.nil _ _,hG⟩
  |true=>
   have h256:256<v.length:=by
    rcases Nat.lt_or_ge 256 v.length with h1|h1
    ·exact h1
    ·exact absurd (by unfold flawI;rw[if_pos hnm,if_neg (by omega)]) h
   have hF:flawI n v=21:=by unfold flawI;rw[if_pos hnm,if_pos h256]
   rw[hF]
   rw[hnm]at HN
   dsimp only[pv,box]at*
   generalize T n=S at*
   generalize T v=V at*
   generalize v.length=vl at*
   clear hL h hF hnm
   go_enter Tryz.func159,Tryz.ntmps159
   go_wp2_with(go_at_call 197;(with_reducible refine(HN.out _).mono ?_);rintro e w' ⟨rfl,rfl⟩)
   go_ret2
   exact⟨none,0,rfl,Bytes.nil _ _,hG⟩
end Fc
namespace Fc
end Fc
namespace Fo
open Bytes8 Fa Fb Fc
def lessP (n v m u:List Int):Bool:=ltL (pay n v) (pay m u)
theorem rpayload_grew (n v:List Int)(h:n.length+v.length≤900000)(w:World):
 Calls Tryz.prog 31 #[pv n v] w fun e w'=>e= .returned (.string (T (pay n v)))∧Grew w w':=
 (rpayload_any n v h w).mono (by rintro e w' ⟨rfl,rfl⟩;exact⟨rfl,Grew.boxed _ _⟩)
end Fo
namespace Seq8
open Bytes8 Blk8 Fa Fb Numb Rows2
def SeqIn (w:World)(gq:Nat)(a:Option Addr)(len cap:Nat)(f:Nat→Int)(k:Nat):Prop:=
 Blk w gq [.slice a len cap,.int .i64 (k:Int)] 55∧InInts .i64 w a len f∧(0<len→ ∀b off,a=some ⟨b,off,none⟩→b≠gq)∧k≤len∧len≤9223372036854775807
theorem SeqIn.below {w w':World}{gq:Nat}{a:Option Addr}{len cap:Nat}{f:Nat→Int}{k:Nat}(h:SeqIn w gq a len cap f k)(hb:Below w.heap.size w w'):SeqIn w' gq a len cap f k:=
 ⟨h.1.below hb h.1.lt,h.2.1.below hb,h.2.2⟩
theorem ints_keptB {kk:IntKind}{w w':World}{gq:Nat}{a:Option Addr}{len:Nat}{f:Nat→Int}(h:InInts kk w a len f)(hk:KeptB w.heap.size gq w w')(hne:0<len→ ∀b off,a=some ⟨b,off,none⟩→b≠gq):InInts kk w' a len f:=fun i hi=>by
 obtain⟨b,off,e,h1,h2,h3⟩:=h i hi
 exact⟨b,off,e,Nat.lt_of_lt_of_le h1 hk.size,(World.cell?_of_block (hk.block b h1 (hne (by omega) b off e))).trans h2,h3⟩
set_option maxRecDepth 100000 in
theorem seqN_any (gq:Nat)(a:Option Addr)(len cap:Nat)(f:Nat→Int)(k:Nat)(b:Int)(w:World)(hb:1≤b)(hb2:b≤1000000)(h:SeqIn w gq a len cap f k):
 Calls Tryz.prog 84 #[.pointer (some ⟨gq,0,none⟩),.int .i64 b] w fun e w'=> ∃(r k':Nat),e= .returned (.int .i64 (r:Int))∧(r:Int)<b∧SeqIn w' gq a len cap f k'∧KeptB w.heap.size gq w w':=by
 obtain⟨hB,hI,hne,hk,hl⟩:=h
 have HB:=Lib.hid hB
 have c0:=HB.out.cell (i:=0) rfl
 have c1:=HB.out.cell (i:=1) rfl
 have f1:=HB.out.frozen 1
 by_cases hlt:k<len
 ·obtain⟨bb,off,rfl,hbl,hc,hwf⟩:=hI k hlt
  have hbq:=hne (by omega) bb off rfl
  obtain⟨r,hr,hrb⟩:=below_nat (f k) b hb
  have HNum:=Lib.hid fun w=>number_nat (f k) b r w hb (by omega) hr.out
  have hkk: ¬(len:Int)≤(k:Int):=by omega
  have hset: ∀v,(w.setCell ⟨gq,1,none⟩ v).cell? ⟨bb,off+k,none⟩=some (.int .i64 (f k)):=fun v=>by
   rw[←hc];exact World.cell?_of_block (Below.heap_setCell _ _ _ _ hbq)
  have HI:=Lib.hid hI
  have HNe:=Lib.hid hne
  have hm:Tryz.prog.follows .mixedOrders=true:=by kernel_rfl
  clear hI hne hB hr hwf
  generalize f k=x at*
  go_enter Tryz.func84,Tryz.ntmps84
  go_wp2_with fail
  go_quiet (fail)
  obtain⟨nq_1,hnq⟩: ∃x,x=nq:=⟨_,rfl⟩
  rw[←hnq]
  clear hnq nq
  go_wp2_with fail
  go_quiet ((go_at_call 54;exact quiet_kept (HNum.out _)))
  have HK:=Lib.hid ((((KeptB.refl w.heap.size gq w).drewN nq_1).setCell (Or.inr rfl) (.int .i64 ((k:Int)+1)) (p:=⟨gq,1,none⟩)).drewN nq)
  go_wp2
  go_ret
  refine⟨r,k+1,rfl,hrb,⟨?_,ints_keptB HI.out HK.out HNe.out,HNe.out,by omega,hl⟩,HK.out⟩
  exact((HB.out.drewN _).set_ 1 _).drewN _
 ·have hkk:(len:Int)≤(k:Int):=by omega
  have HI:=Lib.hid hI
  have HNe:=Lib.hid hne
  clear hI hne hB
  go_enter Tryz.func84,Tryz.ntmps84
  go_wp2_with fail
  go_quiet (fail)
  go_wp2
  go_ret
  refine⟨0,k,rfl,by omega,⟨HB.out.drewN _,HI.out,HNe.out,hk,hl⟩,(KeptB.refl _ _ _).drewN _⟩
abbrev nameLs:List (List Int):=[[65],[66],[77,69,83,83,65,71,69],[95,80,73,68],[88,95,49],[80,82,73,79,82,73,84,89]]
abbrev valueLs:List (List Int):=[[],[48],[49],[50,50],[97,61,98],[111,110,101,10,116,119,111],[0,255],[116,97,98,9,104,101,114,101],[108,111,110,103,32,108,111,110,103,32,108,111,110,103,32,108,111,110,103,32,108,111,110,103,32,108,111,110,103,32,108,111,110,103],[126,127,128]]
def texts (ls:List (List Int)):List Value:=ls.map fun l=> .string (T l)
theorem names_ok: ∀n∈nameLs,AllB n∧nmB n=true:=by
 intro n hn
 have h:nameLs.all (fun n=>n.all (fun x=>decide (0≤x)&&decide (x<256))&&nmB n)=true:=by decide+kernel
 have:=List.all_eq_true.1 h n hn
 simp only[Bool.and_eq_true]at this
 exact⟨Ff.small_all this.1,this.2⟩
theorem values_ok: ∀v∈valueLs,AllB v∧v.length≤256:=by
 intro n hn
 have h:valueLs.all (fun n=>n.all (fun x=>decide (0≤x)&&decide (x<256))&&decide (n.length≤256))=true:=by decide+kernel
 have:=List.all_eq_true.1 h n hn
 simp only[Bool.and_eq_true,decide_eq_true_eq]at this
 exact⟨Ff.small_all this.1,this.2⟩
theorem flaw_ok {n v:List Int}(hn:nmB n=true)(hv:v.length≤256):flawI n v=0:=by
 unfold flawI;rw[if_pos hn,if_neg (by omega)]
theorem names_any (w:World):Calls Tryz.prog 20 #[] w fun e w'=>e= .returned (.slice (some ⟨w.heap.size,0,none⟩) 6 6)∧Blk w' w.heap.size (texts nameLs) 9∧Below w.heap.size w w'∧w'.heap.size=w.heap.size+1:=by
 have h:texts nameLs=[.string {data:= #[65]},.string {data:= #[66]},.string {data:= #[77,69,83,83,65,71,69]},.string {data:= #[95,80,73,68]},.string {data:= #[88,95,49]},.string {data:= #[80,82,73,79,82,73,84,89]}]:=rfl
 rw[h]
 go_enter Tryz.func20,Tryz.ntmps20
 go_wp2
 go_ret
 exact⟨rfl,Blk.new w _ _,(Below.refl _ _).alloc (Nat.le_refl _) _,by simp⟩
set_option maxRecDepth 10000 in
theorem values_any (w:World):Calls Tryz.prog 21 #[] w fun e w'=>e= .returned (.slice (some ⟨w.heap.size,0,none⟩) 10 10)∧Blk w' w.heap.size (texts valueLs) 9∧Below w.heap.size w w'∧w'.heap.size=w.heap.size+1:=by
 have h:texts valueLs=[.string {data:= #[]},.string {data:= #[48]},.string {data:= #[49]},.string {data:= #[50,50]},.string {data:= #[97,61,98]},.string {data:= #[111,110,101,10,116,119,111]},.string {data:= #[0,255]},.string {data:= #[116,97,98,9,104,101,114,101]},.string {data:= #[108,111,110,103,32,108,111,110,103,32,108,111,110,103,32,108,111,110,103,32,108,111,110,103,32,108,111,110,103,32,108,111,110,103]},.string {data:= #[126,127,128]}]:=rfl
 rw[h]
 go_enter Tryz.func21,Tryz.ntmps21
 go_wp2
 go_ret
 exact⟨rfl,Blk.new w _ _,(Below.refl _ _).alloc (Nat.le_refl _) _,by simp⟩
end Seq8
end Go.Proofs.YtjecmgkmcfkcjaaGreat
