/-
  Texts beneath the proof.
-/
import Derived.Test.YtiddkgcafpaekaaGreatJq22
set_option linter.unusedVariables false
set_option linter.unusedSimpArgs false
set_option maxRecDepth 100000
set_option maxHeartbeats 40000000
open Go.ChangeShapes Go.WideShapes Go.ChangeAt Go.RowKit
namespace Go.Proofs.YtiddkgcafpaekaaGreat
namespace Ni
open Bytes8 Blk8 Own8 OwnM OwnA OwnE Rows2 Ob Od Ga Ma Kf Mb Mc Md Mf Mg Mh Fa Fb Fc Sg Dc Yc Yd Yk Gb Na Nb Nc Nd Nee Nf Ng Nh Nk Nl Nm No Ya Pr8 Ps8 Pl8 Pr2
theorem codeL_all: ∀(l:List PR),codeL l=0→ ∀q∈l,flawI q.1 q.2=0
 | [],_,q,hq=>by cases hq
 |p::r,h,q,hq=>by
  unfold codeL at h
  split at h
  ·next h0=>
   rcases List.mem_cons.1 hq with rfl|hq
   ·exact h0
   ·exact codeL_all r h q hq
  ·next h0=>exact absurd h h0
theorem listL_ok {raw:List PR}(h:listE raw=0):(listL raw).length≤16∧ ∀q∈listL raw,q∈raw∧flawI q.1 q.2=0:=by
 have hL:listL raw=sortP (ded raw):=if_pos h
 unfold listE at h
 split at h
 ·cases h
 ·split at h
  ·next hc=>
   split at h
   ·next h16=>
    rw[hL,sortP_len]
    refine⟨h16,fun q hq=>?_⟩
    have hq2:=(ded_mem raw q).1 ((sortP_mem _ _).1 hq)
    exact⟨hq2,codeL_all _ hc q hq2⟩
   ·cases h
  ·next hc=>exact absurd h hc
theorem wpList_text2 {w:World}{ops:Array Oper}{rest:List Oper}{o:Oper}{a:Act}{Q:Exit→Act→World→Prop}(hgd:o.guard=none)(x:Operand)(hop:o.op= .convert 9 24 x)(l:List Int)(hA:AllB l)(n:Nat)(hn:l.length=n)(g:Nat)(hg:w.heap.size=g)(hx:a.eval x= .string (T l))
 (h: ∀c w',Bytes w' (some ⟨g,0,none⟩) l→Grew w w'→g<w'.heap.size→wpList Tryz.prog ops Q rest (a.put o.dst (.slice (some ⟨g,0,none⟩) n c)) w'):wpList Tryz.prog ops Q (o::rest) a w:=
 wpList_plain hgd fun K hK=>by
  subst hn
  subst hg
  have hu:=run_bytes_of_string w 9 24 5 (T l) Tryz.underlying9 Tryz.underlying24 Tryz.underlying5
  obtain⟨cf,mk,hmk⟩:=text_conv l hA
  obtain⟨h1,h2,h3⟩:=hmk w
  have hlt:w.heap.size<(mk w).heap.size:=by
   rw[h1]at hu
   injection hu with _ hu
   rw[hu]
   simp
  unfold Oper.wp execOp
  simp only[hop,resolve,Sem.run_bind,Sem.run_pure,Result.andThen_ok,hx,h1]
  exact hK _ _ (h _ _ (h2 _ rfl) h3 hlt)
abbrev idE (K:Nat→Int):List Value:=[.int .u8 (K 0),.int .u8 (K 1),.int .u8 (K 2),.int .u8 (K 3),.int .u8 (K 4),.int .u8 (K 5),.int .u8 (K 6),.int .u8 (K 7),.int .u8 (K 8),.int .u8 (K 9),.int .u8 (K 10),.int .u8 (K 11),.int .u8 (K 12),.int .u8 (K 13),.int .u8 (K 14),.int .u8 (K 15)]
theorem idE_range {w:World}{g:Nat}{T:TypeId}{K:Nat→Int}(h:Blk w g (idE K) T):w.rangeAt g 0 (idE K):=fun j v hj=>by rw[Nat.zero_add];exact h.cell hj
theorem own_there {w:World}{B n c bD:Nat}{l:List (Kn×Value)}(h:OwnK w B (some ⟨bD,0,none⟩) n c l)(x:Nat)(hx:x<n):w.there bD (x*5) 5:=fun j hj=>by
 have hl:=h.len
 obtain⟨b,e,_,_,hc⟩:=OwnE.cell h (i:=x*5+j) (by rw[hl];omega)
 injection e with e
 injection e with e
 subst e
 refine⟨?_,?_⟩
 ·rw[hc,List.getElem?_eq_getElem (by rw[hl];omega)]
  rfl
 ·rcases h.2.2 with⟨h1,h2⟩|⟨k,cap,cur,h1,h2,h3,h4⟩
  ·cases h1
  ·injection h1 with e1 e2 e3
   injection e1 with e1
   injection e1 with e1
   subst e1
   simp[World.frozen?,h3]
theorem blk_same {w w':World}{g:Nat}{l:List Value}{T:TypeId}(e:w'.heap[g]? =w.heap[g]?)(h:Blk w g l T):Blk w' g l T:=e.trans h
theorem idE_blk {w:World}{g:Nat}{K:Nat→Int}{T:TypeId}(h:Blk w g ((idL K).map (Value.int .u8)) T):Blk w g (idE K) T:=h
theorem mk_there {w:World}{g:Nat}{T:TypeId}{m:Mk}{S:Sl}(h:Blk w g (Mk.cells m S) T)(o n:Nat)(ho:o+n≤147):w.there g o n:=fun j hj=>⟨by rw[h.cell (Mk.get _ _ (o+j) (by omega))];rfl,h.frozen _⟩
theorem wpList_store_mid_as {w w2:World}{ops:Array Oper}{rest:List Oper}{op:Oper}{a:Act}{Q:Exit→Act→World→Prop}(hgd:op.guard=none)(ty:TypeId)(x y:Operand)(ho:op.op= .store ty x y)
 (b o:Nat)(cells:Array Value)(hx:a.eval x= .pointer (some ⟨b,o,none⟩))(hy:a.eval y= .agg cells)(ht:w.there b o cells.size)(hi:(Tryz.prog.info? ty).map (·.size)=some cells.size)(h1:cells.all (·.oneCell')=true)
 (e:w2=w.setCells b o cells.toList)(h:wpList Tryz.prog ops Q rest (a.put op.dst undef) w2):wpList Tryz.prog ops Q (op::rest) a w:=by
 subst e
 exact wpList_store_mid hgd ty x y ho b o cells hx hy ht hi h1 h
theorem idE_one (K:Nat→Int):(idE K).toArray.all (·.oneCell')=true:=by simp[Value.oneCell']
theorem knI:(Tryz.prog.info? 197).map (·.size)=some 5:=by kernel_rfl
theorem step_store_mid {w:World}{ops:Array Oper}{o:Oper}{a:Act}{K:Act→World→Prop}{Q:Exit→Act→World→Prop}{F:Prop}(hgd:o.guard=none)(ty:TypeId)(x y:Operand)(ho:o.op= .store ty x y)
 (b of:Nat)(cells:Array Value)(hx:a.eval x= .pointer (some ⟨b,of,none⟩))(hy:a.eval y= .agg cells)
 (ht:w.there b of cells.size)(hi:(Tryz.prog.info? ty).map (·.size)=some cells.size)(h1:cells.all (·.oneCell')=true)
 (h:K (a.put o.dst undef) (w.setCells b of cells.toList)):if Region.wanted o (yielded ops a.tmps)=true then Oper.wp Tryz.prog o a w K Q else F:=by
 have hw:Region.wanted o (yielded ops a.tmps)=true:=by simp[Region.wanted,hgd]
 rw[if_pos hw]
 exact wp_store_mid ty x y ho b of cells hx hy ht hi h1 h
theorem kn_at {l:List (Kn×Value)}{m:Mk}(e:l.map Prod.fst=m.datas)(i:Nat)(hi:i<l.length):l[i].1=Mk.kn m i:=by
 unfold Mk.kn
 rw[←e,List.getD_eq_getElem?_getD,List.getElem?_map,List.getElem?_eq_getElem hi]
 rfl
theorem dataOf_text (m:Mk)(nm s:List Int)(h:Inv m)(hn:AllB nm)(hnl:nm.length≤64)(hs:AllB s)(hsl:s.length≤400):(Mk.kn (Mk.dataOf m nm s).2 (Mk.dataOf m nm s).1).text=s:=by
 unfold Mk.dataOf
 cases e:idxK m.datas s with
 |some i=>
  dsimp only
  unfold idxK at e
  obtain⟨hi,h1,_⟩:=List.findIdx?_eq_some_iff_getElem.1 e
  unfold Mk.kn
  rw[List.getD_eq_getElem?_getD,List.getElem?_eq_getElem hi]
  simpa using h1
 |none=>
  dsimp only
  obtain⟨_,_,_,h4,_⟩:=inv_dataNew h nm s hn hnl hs hsl
  unfold Mk.kn
  rw[h4,List.getD_eq_getElem?_getD,List.getElem?_append_right (yR _),Nat.sub_self]
  rfl
structure L1 (B g b2:Nat)(p:Pl)(m:Mk)(L:List PR)(k:Nat)(w2 wr:World)(q:Pl)(A2:Option Addr)(c2:Nat)(A3:Option Addr)(c3:Nat)(xs:List Value):Prop where
 at_:At wr B g q (Mk.dataAll m (L.take k)).1
 low:Low wr b2 q (Mk.dataAll m (L.take k)).1
 path:Path g p w2 q wr
 who:Side 3 1 wr g q b2 A2 k c2 (iv (Mk.dataAll m (L.take k)).2)
 pay_:Side 24 1 wr g q b2 A3 k c3 xs
 pays:Pays wr g q A3 xs ((L.take k).map fun q=>pay q.1 q.2)
 apart: ∀j,ownB A2=some j→ownB A3≠some j
attribute [local irreducible] Mk.cells wpList Code.wp
variable {B g : Nat} {p : Pl} {m : Mk}
def Appended (B g:Nat)(p:Pl)(m:Mk)(raw:List PR)(real mono:Int)(K:Nat→Int)(w:World)(e:Ending)(w':World):Prop:=
 e= .returned (.tuple #[.int .u64 (if Mk.acode m raw real mono K=0 then m.h.N 9+1 else 0),.int .i64 (Mk.acode m raw real mono K)])∧Stp B g p (Mk.after m raw real mono K) w w'
theorem appended_no {raw:List PR}{real mono x:Int}{K:Nat→Int}{w w':World}(hx:Mk.acode m raw real mono K=x)(h0:x≠0)(h:Stp B g p m w w'):Appended B g p m raw real mono K w (.returned (.tuple #[.int .u64 0,.int .i64 x])) w':=by
 unfold Appended Mk.after
 rw[hx,if_neg h0,if_neg h0]
 exact⟨rfl,h⟩
theorem append_any (Ar:Option Addr)(raw:List PR)(nr cr:Nat)(real mono:Int)(K:Nat→Int)(w:World)(h:At w B g p m)(I:Inv m)(hP:Prs w Ar raw)(hL:raw.length=nr)(hn:nr≤100000)(hb:m.b.length≤32768)(hmost:m.C.most≤1000000)(hK:IdOk K)(hr:0≤real∧real≤18446744073709551615)(hm:0≤mono∧mono≤18446744073709551615)(h9:0≤m.h.N 9∧m.h.N 9≤18446744073709551615):
 Calls Tryz.prog 47 #[.pointer (some ⟨g,0,none⟩),.slice Ar nr cr,.int .u64 real,.int .u64 mono,idV K] w (Appended B g p m raw real mono K w):=by
 have HA:=yH h
 have HI:=yH I
 have HK:=yH hK
 have b0:=yH ((Below.refl w.heap.size w).alloc (yR _) (idC 37 K))
 have R0:=yH (show Blk (w.alloc (idC 37 K)) w.heap.size ((idL K).map (Value.int .u8)) 37 from Blk.new w _ _)
 have HPr:=yH (hP.below b0.out)
 have HAll:=yH hP.1
 clear h I hP
 go_enter Tryz.func47,Tryz.ntmps47
 go_upto_region 1 with fail
 generalize w.alloc (idC 37 K)=w0 at*
 have HLi:=yH (rlist_new Ar raw nr cr w0 HPr.out hL hn)
 unfold ListedN at HLi
 obtain⟨n1,hn1⟩: ∃x,(listL raw).length=x:=⟨_,rfl⟩
 have HN1:=yH hn1
 obtain⟨lx,hlx⟩: ∃x,listE raw=x:=⟨_,rfl⟩
 have HLX:=yH hlx
 rw[hn1,hlx]at HLi
 clear hn1 hlx
 go_upto_region 2 with(first|(go_at_call 96;(refine HLi.out.mono ?_);rintro e w1 ⟨A1,c1,rfl,hp1,hb1,hq1⟩;have HP1:=yH hp1;have HQ1:=yH hq1;have HB1:=yH (b0.out.trans (hb1.mono b0.out.size));have HA1:=yH (At.below HA.out HB1.out);have R1:=yH (R0.out.below hb1 R0.out.lt);clear hp1 hb1 hq1)|fail)
 by_cases hx0:lx=0
 ·subst hx0
  obtain⟨hn16,hok⟩:=listL_ok HLX.out
  rw[HN1.out]at hn16
  by_cases ht:m.h.N 9=18446744073709551615
  ·have HTl:=yH (tail_any B g p.bb p.cb p.S m w1 HA1.out.st)
   rw[ht]at HTl
   go_wp2_with(first|(go_at_call 79;(refine HTl.out.mono ?_);rintro e w2 ⟨rfl,rfl⟩)|fail)
   go_ret2
   exact appended_no (by unfold Mk.acode;rw[HLX.out,if_neg (by simp),if_pos ht]) (by decide) ⟨p,HA1.out,Path.of_below HB1.out⟩
  ·have HTl:=yH (tail_any B g p.bb p.cb p.S m w1 HA1.out.st)
   have d9:(m.h.N 9==18446744073709551615)=false:=by simpa using ht
   have HCp:=yH (copy_any w1 HA1.out HI.out (by omega))
   unfold Copied at HCp
   obtain⟨s9,hs9⟩: ∃x,m.h.N 9=x:=⟨_,rfl⟩
   rw[hs9]at HTl d9 ht h9
   have HS9:=yH hs9
   clear hs9
   have HT:=yH ht
   clear ht
   go_upto_region 10 with(first
    |(go_at_call 79;(refine HTl.out.mono ?_);rintro e w2 ⟨rfl,rfl⟩)
    |(go_at_call 97;(refine HCp.out.mono ?_);rintro e w2 ⟨po,rfl,hao,hbo⟩;have HAo:=yH hao;have HBo:=yH hbo;clear hao hbo)
    |fail)
   have hbase:=HB1.out.size
   have hfl: ∀k,p.foot g k→k<w.heap.size:=fun k hk=>(At.lt HA.out k hk).2
   obtain⟨L,hLd⟩: ∃x,x=listL raw:=⟨_,rfl⟩
   rw[←hLd]at HN1 hok HP1
   have HLd:=yH hLd
   have HLraw:=yH hLd.symm
   clear hLd HCp HTl HLi
   have HOk:=yH fun(q:PR) (hq:q∈L)=>show AllB q.1∧AllB q.2∧q.1.length≤64∧q.2.length≤256 from by
    obtain⟨h1,h2⟩:=hok q hq
    have h3:=HAll.out q h1
    have h4:=flaw_len h2
    exact⟨h3.1,h3.2.1,h4.1,h4.2⟩
   clear hok
   have HPf:=yH fun(wr:World) (q:Pl) (hq:Path g p w2 q wr)=>show Prs wr A1 L from by
    by_cases h0:0<n1
    ·exact HP1.out.keptB (Nat.le_trans HBo.out.size hq.kept.size) fun b off e hb=>(hq.kept.block b (yL hb HBo.out.size) (fun hf=>by have:=hfl b hf;have:=HQ1.out b off e h0;have:=b0.out.size;omega)).trans (HBo.out.block b hb)
    ·rw[List.eq_nil_of_length_eq_zero (show L.length=0 by rw[HN1.out];omega)]
     exact Prs.nil _ _
   have HA2:=yH (At.below HA1.out HBo.out)
   go_wp2
   go_loopw [16,17,18] (fun a16 a17 a18 wr=> ∃(k:Nat) (q:Pl) (A2:Option Addr) (c2:Nat) (A3:Option Addr) (c3:Nat) (xs:List Value),k≤n1∧a18= .int .i64 (k:Int)∧a16= .slice A2 k c2∧a17= .slice A3 k c3∧Hid (L1 B g w2.heap.size p m L k w2 wr q A2 c2 A3 c3 xs)) (fun _ _ i _=>n1-(intOf i).toNat)
   case atStart=>exact⟨0,p,none,0,none,0,[],Nat.zero_le _,rfl,rfl,rfl,yH ⟨HA2.out,At.low HA2.out (yR _),Path.refl _ _ _,⟨OwnE.nil _ _ (yR _),fun _ h=>by cases h⟩,⟨OwnE.nil _ _ (yR _),fun _ h=>by cases h⟩,⟨rfl,fun r hr=>absurd hr (by simp)⟩,fun _ h=>by cases h⟩⟩
   case round=>
    obtain⟨k,q,A2,c2,A3,c3,xs,hk,rfl,rfl,rfl,hL1⟩:=hrel
    by_cases hlt:k<n1
    ·have hkL:k<L.length:=by rw[HN1.out];exact hlt
     have hk16:k<16:=by omega
     have hD:=dataAll_step m L k hkL
     obtain⟨i1,i2,i3,i4,i5⟩:=inv_dataAll HI.out L HOk.out k (Nat.le_of_lt hkL)
     obtain⟨q1,q2,q3,q4⟩:=HOk.out L[k] (List.getElem_mem hkL)
     obtain⟨b,off,hAb,hbl,p0,p1⟩:=(HPf.out wr q hL1.out.path).2 k hkL
     have hmt:(L.take (k+1)).map (fun q=>pay q.1 q.2)=(L.take k).map (fun q=>pay q.1 q.2)++ [pay L[k].1 L[k].2]:=by rw[List.take_succ_eq_append_getElem hkL,List.map_append];rfl
     obtain⟨at1,low1,path1,who1,pay1,pays1,ap1⟩:=hL1.out
     rw[show L.getD k nil2=L[k]by rw[List.getD_eq_getElem?_getD,List.getElem?_eq_getElem hkL];rfl]at p0 p1
     subst hAb
     generalize L[k]=pq at*
     obtain⟨nm,v⟩:=pq
     dsimp only at q1 q2 q3 q4 p0 p1 hmt
     rcases hdk:Mk.dataAll m (L.take k)with⟨dk,who⟩
     rw[hdk]at hD i1 i2 i3 i4 i5 at1 low1 who1
     dsimp only at i1 i2 i3 i4 i5 at1 low1 who1
     have HDt:=yH (data_any nm v wr at1 i1 q1 q2 ⟨q3,q4⟩ (by omega))
     have hsl:(pay nm v).length≤400:=by rw[Fa.pay_len];omega
     have hsA:=pay_all q1 q2
     obtain⟨j1,j2,j3,j4⟩:=inv_dataOf i1 nm (pay nm v) q1 q3 hsA hsl
     have hjt:=dataOf_text dk nm (pay nm v) i1 q1 q3 hsA hsl
     unfold dataStep at hD
     dsimp only at hD
     generalize pay nm v=s at*
     rcases hdo:Mk.dataOf dk nm s with⟨j,m3⟩
     rw[hdo]at hD j1 j2 j3 j4 hjt HDt
     dsimp only at hD j1 j2 j3 j4 hjt HDt
     have HD:=yH hD
     have HMt:=yH hmt
     have HAt1:=yH at1
     have HLow1:=yH low1
     have HPath1:=yH path1
     have HWho1:=yH who1
     have HPay1:=yH pay1
     have HPays1:=yH pays1
     have HAp1:=yH ap1
     have HJt:=yH hjt
     have HI5:=yH i5
     have HJ4:=yH j4
     have HI3:=yH i3
     clear hD hmt at1 low1 path1 who1 pay1 pays1 ap1 hdo hdk hjt i5 j4 i3
     go_upto_region 14 with(first
      |(go_at_call 98;(refine HDt.out.mono ?_);rintro e w3 ⟨rfl,q3,ha3,hp3,hd3,hm3⟩;have HA3:=yH ha3;have HP3:=yH hp3;have HD3:=yH hd3;have HM3:=yH hm3;clear ha3 hp3 hd3 hm3)
      |fail)
     have HWho3:=yH (HWho1.out.path HP3.out)
     have HPay3:=yH (HPay1.out.path HP3.out)
     have HPays3:=yH (HPays1.out.path HP3.out)
     have HLow3:=yH (Low.path HLow1.out HAt1.out HP3.out HD3.out HM3.out HJ4.out.main)
     have HPath3:=yH (HPath1.out.trans HP3.out)
     have hjl:j<q3.dl.length:=by have e:=congrArg List.length HA3.out.dm;rw[List.length_map]at e;omega
     obtain⟨bD,hDb,hbl3,d0,_,_,_,_⟩:=ownK_at HA3.out.dr j hjl
     have c144:=At.cd HA3.out
     obtain⟨nd3,hnd⟩: ∃x,q3.nd=x:=⟨_,rfl⟩
     have HNd:=yH hnd
     rw[hDb,hnd]at c144
     clear hnd
     rw[kn_at HA3.out.dm j hjl,HJt.out]at d0
     have hnd3:j<nd3:=by rw[←HNd.out,←ownK_len HA3.out.dr];exact hjl
     have hnd4:nd3≤100000:=by
      have e:=congrArg List.length HA3.out.dm
      rw[List.length_map,ownK_len HA3.out.dr,HNd.out]at e
      have:=j1.dn
      omega
     obtain⟨ns,hns⟩: ∃x,s.length=x:=⟨_,rfl⟩
     have HNs:=yH hns
     have hsz3:=HPath3.out.kept.size
     clear hns
     go_upto_region 15 with(first
      |(refine wpList_text2 rfl (.tmp 62) rfl s hsA ns HNs.out w3.heap.size rfl rfl ?_;intro c4 w4 hby4 hgr4 hlt4;have HLt4:=yH hlt4;have HBy4:=yH hby4;have HB4:=yH hgr4.below;clear hby4 hgr4 hlt4)
      |(at_builtin;(refine wpList_append_elt_at rowE rfl (.tmp 54) (.tmp 64) rfl w2.heap.size A3 k c3 xs rfl (OwnE.alloc ((HPay3.out.below HB4.out).own) _) ⟨w4.heap.size,0,none⟩ 1 1 [.slice (some ⟨w3.heap.size,0,none⟩) ns c4] rfl rfl (Blk.news (Blk.new w4 _ _)) (by simp[Value.oneCell']) (by omega) (by omega) (by unfold maxLen;omega) ?_);intro A5 c5 w5 ho5 hgr5 hat5;have HO5:=yH ho5;have HG5:=yH hgr5;have HT5:=yH hat5;clear ho5 hgr5 hat5)
      |fail)
     have bo:=(Below.refl w4.heap.size w4).alloc (yR _) (.cells #[.slice (some ⟨w3.heap.size,0,none⟩) ns c4] 24)
     have b34:=HB4.out.trans (bo.mono HB4.out.size)
     have hz4:=b34.size
     have HA4:=At.below HA3.out b34
     have HLow4:=Low.path HLow3.out HA3.out (Path.of_below b34) (fun x hx=> .inl hx) rfl rfl
     have HWho4:=HWho3.out.below b34
     have HPay4:=HPay3.out.below b34
     have HPays4:=HPays3.out.below b34
     have hfo3:=At.lt HA3.out
     have hGp: ∀k',ownB A3=some k'→w2.heap.size≤k'∧ ¬q3.foot g k':=fun k' h1=>⟨(OwnE.ltB HPay4.own k' h1).1,HPay4.off k' h1⟩
     obtain⟨HA5',HLow5'⟩:=At.offA HA4 HLow4 (KeptF.grow _ HG5.out) hGp
     have HA5:=yH HA5'
     have HLow5:=yH HLow5'
     have HPath5:=yH (Path.side (HPath3.out.below b34) (KeptF.grow _ HG5.out) fun k' h1=>(hGp k' h1).1)
     have HWho5:=yH (show Side 3 1 w5 g q3 w2.heap.size A2 k c2 (iv who)from⟨OwnE.keptG HWho4.own HG5.out (HAp1.out),HWho4.off⟩)
     have HPay5:=yH (show Side 24 1 w5 g q3 w2.heap.size A5 (k+1) c5 (xs++ [.slice (some ⟨w3.heap.size,0,none⟩) ns c4])from⟨HO5.out,fun k' h1 h2=>by
      rcases HT5.out with h3|h3
      ·exact HPay4.off k' (h3▸h1) h2
      ·rw[h3]at h1
       injection h1 with h1
       have:=(hfo3 k' h2).2
       omega⟩)
     have HPays5:=yH (Pays.push HPays4 HG5.out HT5.out w3.heap.size c4 s ((bytes_block HBy4.out bo.size (bo.block _ HLt4.out))) (by have:=HLt4.out;have:=bo.size;omega) (fun h2=>by have:=(hfo3 _ h2).2;omega) (fun h2=>by have:=(OwnE.ltB HPay3.out.own _ h2).2;omega))
     rw[HNs.out]at HPays5
     have HAp5:=yH (show ∀j',ownB A2=some j'→ownB A5≠some j' from fun j' h1 h2=>by
      rcases HT5.out with h3|h3
      ·exact HAp1.out j' h1 (h3▸h2)
      ·rw[h3]at h2
       injection h2 with h2
       have:=(OwnE.ltB HWho4.own j' h1).2
       omega)
     have hz5:=HG5.out.size
     clear HA5' HLow5' HA4 HLow4 HWho4 HPay4 HPays4 HO5 HT5 HG5 hGp bo c144 d0 hDb
     obtain⟨f,hf⟩: ∃f:Nat→Nat,f=fun i=>(Mk.kn m3 i).at_:=⟨_,rfl⟩
     rw[←hf]at HD
     have HF:=yH fun i=>congrFun hf i
     clear hf
     have hwl:who.length=k:=i2
     have HFb:=yH fun(i:Nat) (hi:i<m3.datas.length)=>show f i≤100000 from by
      rw[HF.out]
      have hk:Mk.kn m3 i=m3.datas[i]:=by unfold Mk.kn;rw[List.getD_eq_getElem?_getD,List.getElem?_eq_getElem hi];rfl
      have:=(j1.dat _ (List.getElem_mem hi)).1
      rw[hk]
      omega
     have HRow:=yH fun(wr':World) (hb':Below w5.heap.size w5 wr') (i:Nat) (hi:i<q3.dl.length)=>show ∃b,q3.D=some ⟨b,0,none⟩∧wr'.cell? ⟨b,i*5+1,none⟩=some (.int .u64 (f i:Int))from by
      obtain⟨b',e',_,_,h1,_⟩:=ownK_at (At.below HA5.out hb').dr i hi
      rw[kn_at HA5.out.dm i hi,←HF.out]at h1
      exact⟨b',e',h1⟩
     have hdl3:q3.dl.length=m3.datas.length:=by rw[←HA5.out.dm,List.length_map]
     have HNd5:=yH (show nd3=m3.datas.length by rw[←HNd.out,←ownK_len HA5.out.dr,hdl3])
     go_wp2
     go_loopw [20] (fun a20 wr'=> ∃a:Nat,a≤k∧a20= .int .i64 (a:Int)∧Hid (posW f (f j) who who.length=posW f (f j) who a)∧Hid (Below w5.heap.size w5 wr')) (fun i _=>(intOf i).toNat)
     case atStart=>exact⟨k,yR _,rfl,yH (by rw[hwl]),yH (Below.refl _ _)⟩
     case round=>
      obtain⟨a,hak,rfl,hpos,hbw⟩:=hrel
      obtain⟨cnd,hcnd⟩: ∃c:Bool,c=(decide (0<a)&&decide (f j<f (who.getD (a-1) 0))):=⟨_,rfl⟩
      go_upto_region 16 with fail
      go_cut [20,92]from 68 to 92 (fun i z wx=>i= .int .i64 (a:Int)∧z= .bool cnd∧Hid (Below w5.heap.size w5 wx))
      case first=>
       rcases Nat.eq_zero_or_pos a with h0|h0
       ·subst h0
        have hc0:cnd=false:=by rw[hcnd];simp
        subst hc0
        clear hcnd
        go_region
        go_wp2
        go_meet
        case rel=>exact⟨by go_num,rfl,yH (hbw.out.drew)⟩
       ·obtain⟨a',rfl⟩: ∃a',a=a'+1:=⟨a-1,by omega⟩
        have hHA:=At.below HA5.out hbw.out
        have x144:wr.cell? ⟨g,144,none⟩=some (.slice q3.D nd3 q3.cd):=HNd.out▸At.cd hHA
        obtain⟨bw,hAw,hxc⟩:=own_int (HWho5.out.below hbw.out).own a' (by omega)
        have hxm:who.getD a' 0<m3.datas.length:=by
         rw[List.getD_eq_getElem?_getD,List.getElem?_eq_getElem (by omega:a'<who.length)]
         exact yL (HI3.out _ (List.getElem_mem _)) HJ4.out.datas
        obtain⟨b1,hDb,r1⟩:=HRow.out wr hbw.out (who.getD a' 0) (by omega)
        obtain⟨b2,hDb2,r2⟩:=HRow.out wr hbw.out j (by omega)
        rw[hDb]at hDb2 x144
        injection hDb2 with hDb2
        injection hDb2 with hDb2
        subst hDb2
        have hfx:=HFb.out _ hxm
        have hfj:=HFb.out j (by omega)
        have hcd:cnd=decide ((f j:Int)<(f (who.getD a' 0):Int)):=by rw[hcnd];simp
        clear hcnd hHA
        have hx9:who.getD a' 0<nd3:=by have:=HNd5.out;omega
        have HC:=yH hcd
        clear hcd hDb
        subst hAw
        generalize who.getD a' 0=x at*
        generalize f x=fx at*
        generalize f j=fj at*
        by_cases hls:fj<fx
        ·have d1:decide ((fj:Int)<(fx:Int))=true:=by simp;omega
         have hc0:cnd=true:=by rw[HC.out];exact d1
         subst hc0
         go_region
         go_wp2
         go_meet
         case rel=>exact⟨by go_num,rfl,yH (hbw.out.drew)⟩
        ·have d1:decide ((fj:Int)<(fx:Int))=false:=by simp;omega
         have hc0:cnd=false:=by rw[HC.out];exact d1
         subst hc0
         go_region
         go_wp2
         go_meet
         case rel=>exact⟨by go_num,rfl,yH (hbw.out.drew)⟩
      case rest=>
       obtain⟨rfl,rfl,hbc⟩:=hcut
       cases hcv:cnd with
       |true=>
        have hc2:=hcv▸hcnd
        have ha0:0<a:=by
         rcases Nat.eq_zero_or_pos a with h|h
         ·rw[h]at hc2;simp at hc2
         ·exact h
        have hls:f j<f (who.getD (a-1) 0):=by simpa [ha0]using hc2.symm
        have hps:posW f (f j) who a=posW f (f j) who (a-1):=by
         obtain⟨a',rfl⟩: ∃a',a=a'+1:=⟨a-1,by omega⟩
         exact if_pos (show f j<f (who.getD a' 0)from hls)
        have HPs:=yH (hpos.out.trans hps)
        clear hcnd hcv hc2 hls hps
        go_wp2
        go_roundw
        case rel=>exact⟨a-1,by omega,by go_num,HPs,hbc⟩
        case measure=>simp[intOf];omega
       |false=>
        have hc2:=hcv▸hcnd
        have hps:posW f (f j) who a=a:=by
         rcases Nat.eq_zero_or_pos a with h|h
         ·rw[h];rfl
         ·obtain⟨a',rfl⟩: ∃a',a=a'+1:=⟨a-1,by omega⟩
          have h2: ¬f j<f (who.getD a' 0):=by
           intro h3
           have:(decide (0<a'+1)&&decide (f j<f (who.getD (a'+1-1) 0)))=true:=by rw[Nat.add_sub_cancel,decide_eq_true h3];simp
           rw[←hc2]at this
           cases this
          rw[posW,if_neg h2]
        have HPs:=yH (show insW f who j=who.take a++j::who.drop a by unfold insW;rw[hpos.out,hps])
        clear hcnd hcv hc2 hps hpos
        go_upto_region 18 with fail
        rename World=>wd
        have hwlt:who.length=k:=hwl
        have HWo:=yH (HWho5.out.below hbc.out).own
        have HN8:=yH (show a+1+(k-a)=k+1 by omega)
        have HFin:=yH fun(A8:Option Addr) (c8:Nat) (w8:World) (HO8:OwnE 3 1 w8 wd.heap.size A8 (k+1) c8 (iv (insW f who j))) (HB8:Below wd.heap.size wd w8)=>show L1 B g w2.heap.size p m L (k+1) w2 w8 q3 A8 c8 A5 c5 (xs++ [.slice (some ⟨w3.heap.size,0,none⟩) ns c4])from by
         have hb58:=hbc.out.trans (HB8.mono hbc.out.size)
         have hz58:=hbc.out.size
         exact
          {at_:=by rw[HD.out];exact At.below HA5.out hb58
           low:=by rw[HD.out];exact Low.path HLow5.out HA5.out (Path.of_below hb58) (fun x hx=> .inl hx) rfl rfl
           path:=HPath5.out.below hb58
           who:=by
            rw[HD.out]
            refine⟨ownE_base HO8 (by omega),fun k' h1 h2=>?_⟩
            have h3:=(OwnE.ltB HO8 k' h1).1
            have h4:=(At.lt HA5.out k' h2).2
            omega
           pay_:=HPay5.out.below hb58
           pays:=by rw[HMt.out];exact HPays5.out.below hb58
           apart:=fun j' h1 h2=>by
            have h3:=(OwnE.ltB HO8 j' h1).1
            have h4:=(OwnE.ltB HPay5.out.own j' h2).2
            omega}
        have hcapW:=ownE_cap HWo.out
        have hc1:=fun W=>icut_h A2 k c2 a (by omega) W
        have hc2':=fun W=>icut_l A2 k c2 a hak W
        have HNt:=yH fun(W:World) (hb:Below wd.heap.size wd W)=>take_news (HWo.out.kept hb (yR _)) hak
        have HNd':=yH fun(W:World) (hb:Below wd.heap.size wd W)=>drop_news (HWo.out.kept hb (yR _)) hak
        have hL8: []++iv (List.take a who)++iv [j]++iv (List.drop a who)=iv (insW f who j):=by rw[HPs.out];simp[iv]
        have HL8:=yH hL8
        try clear hL8
        try clear hwlt
        try clear HWo
        try clear hcapW
        try clear HA5
        try clear HLow5
        try clear HPath5
        try clear HWho5
        try clear HPay5
        try clear HPays5
        try clear HAp5
        try clear HRow
        try clear HFb
        try clear HF
        try clear HI3
        try clear HJ4
        try clear HJt
        try clear HI5
        try clear HD
        try clear HMt
        try clear HAt1
        try clear HLow1
        try clear HPath1
        try clear HWho1
        try clear HPay1
        try clear HPays1
        try clear HAp1
        try clear HDt
        try clear HPf
        try clear HA
        try clear HI
        try clear HK
        try clear b0
        try clear R0
        try clear HPr
        try clear HAll
        try clear HLi
        try clear HB1
        try clear HA1
        try clear R1
        try clear HLX
        try clear HOk
        try clear HLd
        try clear HA2
        try clear HQ1
        try clear HP1
        try clear hfl
        try clear hbase
        try clear HAo
        try clear HBo
        have B1:=yH (show Below wd.heap.size wd (wd.drew.alloc (.cells #[] 3))from(Below.refl _ _).drew.alloc (yR _) _)
        have B2:=yH (B1.out.alloc B1.out.size (.cells #[.int .i64 (j:Int)] 3))
        have B3':=(show Below wd.heap.size wd (wd.drew.alloc (.cells #[.int .i64 (j:Int)] 3))from(Below.refl _ _).drew.alloc (yR _) _)
        have B3:=yH (B3'.alloc B3'.size (.cells #[] 3))
        have E1:=yH (empty_int wd.drew wd.heap.size (yR _))
        have E2:=yH (OwnE.alloc E1.out (.cells #[.int .i64 (j:Int)] 3))
        have E3:=yH (show OwnE 3 1 ((wd.drew.alloc (.cells #[.int .i64 (j:Int)] 3)).alloc (.cells #[] 3)) wd.heap.size (some ⟨wd.heap.size+1,0,none⟩) 0 0 []from by
         have:=empty_int (wd.drew.alloc (.cells #[.int .i64 (j:Int)] 3)) wd.heap.size B3'.size
         simpa using this)
        have J2:=yH (show Blk ((wd.drew.alloc (.cells #[] 3)).alloc (.cells #[.int .i64 (j:Int)] 3)) (wd.heap.size+1) (iv [j]) 3 from Blk.new_at _ _ _ _ (by simp))
        have J3:=yH (show Blk ((wd.drew.alloc (.cells #[.int .i64 (j:Int)] 3)).alloc (.cells #[] 3)) wd.heap.size (iv [j]) 3 from(Blk.new wd.drew (iv [j]) _).alloc _)
        clear B3'
        refine wp_region_noPanic ?_
        refine wp_region_held_drew (S:=fun _:World=>True) (by kernel_rfl) trivial (fun hHeld=>?_)
        refine tk (i:=1) (oi:=⟨some 96,_,_,_,_,_⟩) (v:=?_) rfl (Or.inl ⟨by rfl,?_⟩) ?_
        rotate_left
        ·intro W hSw;go_simp;try (with_reducible rfl)
        try simp only[Act.put,sA,sZ,sS]
        refine tk (i:=2) (oi:=⟨some 97,_,_,_,_,_⟩) (v:=?_) rfl (Or.inl ⟨by rfl,?_⟩) ?_
        rotate_left
        ·intro W hSw;go_simp;try (with_reducible rfl)
        try simp only[Act.put,sA,sZ,sS]
        refine tk (i:=3) (oi:=⟨some 98,_,_,_,_,_⟩) (v:=?_) rfl (Or.inl ⟨by rfl,?_⟩) ?_
        rotate_left
        ·intro W hSw;go_simp;try (with_reducible rfl)
        try simp only[Act.put,sA,sZ,sS]
        refine tk (i:=5) (oi:=⟨some 100,_,_,_,_,_⟩) (v:=?_) rfl (Or.inl ⟨by rfl,?_⟩) ?_
        rotate_left
        ·intro W hSw;go_simp;try (with_reducible rfl)
        try simp only[Act.put,sA,sZ,sS]
        refine tk (i:=8) (oi:=⟨some 103,_,_,_,_,_⟩) (v:=?_) rfl (Or.inl ⟨by rfl,?_⟩) ?_
        rotate_left
        ·intro W hSw;go_simp;try (with_reducible rfl)
        try simp only[Act.put,sA,sZ,sS]
        refine tk (i:=9) (oi:=⟨some 104,_,_,_,_,_⟩) (v:=?_) rfl (Or.inl ⟨by rfl,?_⟩) ?_
        rotate_left
        ·intro W hSw;go_simp;try (with_reducible rfl)
        try simp only[Act.put,sA,sZ,sS]
        refine tk (i:=10) (oi:=⟨some 105,_,_,_,_,_⟩) (v:=?_) rfl (Or.inl ⟨by rfl,?_⟩) ?_
        rotate_left
        ·intro W hSw;go_simp;try (with_reducible rfl)
        try simp only[Act.put,sA,sZ,sS]
        refine wpAnyH_ready (rs:=[0,6]) (by kernel_rfl) (by simp) ?_
        refine AllReadyH.cons (o:=⟨some 95,_,_,_,_,_⟩) rfl (fun K hK=>?_) (AllReadyH.cons (o:=⟨some 101,_,_,_,_,_⟩) rfl (fun K hK=>?_) AllReadyH.nil)
        ·go_simp
         try go_wp2_with fail
         refine hK.out _ _ trivial (fun hHeld=>?_)
         clear hK K
         try simp only[Act.put,sA,sZ,sS]
         refine wpAnyH_ready (rs:=[4,6]) (by kernel_rfl) (by simp) ?_
         refine AllReadyH.cons (o:=⟨some 99,_,_,_,_,_⟩) rfl (fun K hK=>?_) (AllReadyH.cons (o:=⟨some 101,_,_,_,_,_⟩) rfl (fun K hK=>?_) AllReadyH.nil)
         ·refine step_append_rN (o:=⟨some 99,_,_,_,_,_⟩) intE rfl (.tmp 95) (.tmp 98) rfl wd.heap.size (some ⟨wd.heap.size,0,none⟩) 0 0 [] rfl E1.out A2 a c2 (iv (who.take a)) rfl a (Nat.zero_add _) (HNt.out _ B1.out).1 (HNt.out _ B1.out).2 (iv_one _) (by omega) (by omega) (by unfold maxLen;omega) ?_
          intro A6 c6 w6 ho6 hgr6 hat6
          have HO6:=yH ho6
          have HB6:=yH (B1.out.trans (below_grown hgr6 B1.out.size (fun q hq=>(OwnE.ltB E1.out q hq).1)))
          clear ho6 hgr6 hat6
          refine hK.out _ _ trivial (fun hHeld=>?_)
          clear hK K
          try simp only[Act.put,sA,sZ,sS]
          refine wpAnyH_ready (rs:=[6]) (by kernel_rfl) (by simp) ?_
          refine AllReadyH.cons (o:=⟨some 101,_,_,_,_,_⟩) rfl (fun K hK=>?_) AllReadyH.nil
          go_simp
          try go_wp2_with fail
          refine hK.out _ _ trivial (fun hHeld=>?_)
          clear hK K
          try simp only[Act.put,sA,sZ,sS]
          refine wpAnyH_ready (rs:=[7]) (by kernel_rfl) (by simp) ?_
          refine AllReadyH.cons (o:=⟨some 102,_,_,_,_,_⟩) rfl (fun K hK=>?_) AllReadyH.nil
          refine step_append_rN (o:=⟨some 102,_,_,_,_,_⟩) intE rfl (.tmp 99) (.tmp 101) rfl wd.heap.size A6 a c6 _ rfl (OwnE.alloc HO6.out _) (some ⟨w6.heap.size,0,none⟩) 1 1 (iv [j]) rfl (a+1) rfl rfl (fun q u hq=>⟨_,rfl,Blk.news (Blk.new w6 (iv [j]) _) q u hq⟩) (iv_one _) (by omega) (by omega) (by unfold maxLen;omega) ?_
          intro A7 c7 w7 ho7 hgr7 hat7
          have HO7:=yH ho7
          have HB7:=yH ((HB6.out.alloc HB6.out.size _).trans (below_grown hgr7 (by have:=HB6.out.size;simp;omega) (fun q hq=>(OwnE.ltB HO6.out q hq).1)))
          clear ho7 hgr7 hat7
          refine hK.out _ _ trivial (fun hHeld=>?_)
          clear hK K
          try simp only[Act.put,sA,sZ,sS]
          refine wpAnyH_ready (rs:=[11]) (by kernel_rfl) (by simp) ?_
          refine AllReadyH.cons (o:=⟨some 106,_,_,_,_,_⟩) rfl (fun K hK=>?_) AllReadyH.nil
          refine step_append_rN (o:=⟨some 106,_,_,_,_,_⟩) intE rfl (.tmp 102) (.tmp 105) rfl wd.heap.size A7 (a+1) c7 _ rfl HO7.out (cutA A2 c2 a) (k-a) (c2-a) (iv (who.drop a)) rfl (k+1) HN8.out (HNd'.out _ HB7.out).1 (HNd'.out _ HB7.out).2 (iv_one _) (by omega) (by omega) (by unfold maxLen;omega) ?_
          intro A8 c8 w8 ho8 hgr8 hat8
          have HO8:=yH (HL8.out▸ho8)
          have HB8:=yH (HB7.out.trans (below_grown hgr8 HB7.out.size (fun q hq=>(OwnE.ltB HO7.out q hq).1)))
          clear ho8 hgr8 hat8
          refine hK.out _ _ trivial (fun hHeld=>?_)
          clear hK K
          try simp only[Act.put,sA,sZ,sS]
          refine tk (i:=12) (oi:=⟨some 16,_,_,_,_,_⟩) (v:=?_) rfl (Or.inl ⟨by rfl,?_⟩) ?_
          rotate_left
          ·intro W hSw;go_simp;try (with_reducible rfl)
          try simp only[Act.put,sA,sZ,sS]
          refine wpAnyH_done (by kernel_rfl) ?_ _
          refine NoPanic.normal ?_
          try go_wp2_with fail
          go_roundw
          case measure=>simp[intOf];omega
          case rel=>exact⟨k+1,q3,A8,c8,A5,c5,_,by omega,by go_num,rfl,rfl,yH (HFin.out A8 c8 _ HO8.out HB8.out)⟩
         ·go_simp
          try go_wp2_with fail
          refine hK.out _ _ trivial (fun hHeld=>?_)
          clear hK K
          try simp only[Act.put,sA,sZ,sS]
          refine wpAnyH_ready (rs:=[4]) (by kernel_rfl) (by simp) ?_
          refine AllReadyH.cons (o:=⟨some 99,_,_,_,_,_⟩) rfl (fun K hK=>?_) AllReadyH.nil
          refine step_append_rN (o:=⟨some 99,_,_,_,_,_⟩) intE rfl (.tmp 95) (.tmp 98) rfl wd.heap.size (some ⟨wd.heap.size,0,none⟩) 0 0 [] rfl E2.out A2 a c2 (iv (who.take a)) rfl a (Nat.zero_add _) (HNt.out _ B2.out).1 (HNt.out _ B2.out).2 (iv_one _) (by omega) (by omega) (by unfold maxLen;omega) ?_
          intro A6 c6 w6 ho6 hgr6 hat6
          have HO6:=yH ho6
          have HB6:=yH (B2.out.trans (below_grown hgr6 B2.out.size (fun q hq=>(OwnE.ltB E2.out q hq).1)))
          have J6:=yH (blk_grown (g:=wd.heap.size) J2.out hgr6 (by omega))
          clear ho6 hgr6 hat6
          refine hK.out _ _ trivial (fun hHeld=>?_)
          clear hK K
          try simp only[Act.put,sA,sZ,sS]
          refine wpAnyH_ready (rs:=[7]) (by kernel_rfl) (by simp) ?_
          refine AllReadyH.cons (o:=⟨some 102,_,_,_,_,_⟩) rfl (fun K hK=>?_) AllReadyH.nil
          refine step_append_rN (o:=⟨some 102,_,_,_,_,_⟩) intE rfl (.tmp 99) (.tmp 101) rfl wd.heap.size A6 a c6 _ rfl HO6.out (some ⟨wd.heap.size+1,0,none⟩) 1 1 (iv [j]) rfl (a+1) rfl rfl (fun q u hq=>⟨_,rfl,Blk.news J6.out q u hq⟩) (iv_one _) (by omega) (by omega) (by unfold maxLen;omega) ?_
          intro A7 c7 w7 ho7 hgr7 hat7
          have HO7:=yH ho7
          have HB7:=yH (HB6.out.trans (below_grown hgr7 HB6.out.size (fun q hq=>(OwnE.ltB HO6.out q hq).1)))
          clear ho7 hgr7 hat7
          refine hK.out _ _ trivial (fun hHeld=>?_)
          clear hK K
          try simp only[Act.put,sA,sZ,sS]
          refine wpAnyH_ready (rs:=[11]) (by kernel_rfl) (by simp) ?_
          refine AllReadyH.cons (o:=⟨some 106,_,_,_,_,_⟩) rfl (fun K hK=>?_) AllReadyH.nil
          refine step_append_rN (o:=⟨some 106,_,_,_,_,_⟩) intE rfl (.tmp 102) (.tmp 105) rfl wd.heap.size A7 (a+1) c7 _ rfl HO7.out (cutA A2 c2 a) (k-a) (c2-a) (iv (who.drop a)) rfl (k+1) HN8.out (HNd'.out _ HB7.out).1 (HNd'.out _ HB7.out).2 (iv_one _) (by omega) (by omega) (by unfold maxLen;omega) ?_
          intro A8 c8 w8 ho8 hgr8 hat8
          have HO8:=yH (HL8.out▸ho8)
          have HB8:=yH (HB7.out.trans (below_grown hgr8 HB7.out.size (fun q hq=>(OwnE.ltB HO7.out q hq).1)))
          clear ho8 hgr8 hat8
          refine hK.out _ _ trivial (fun hHeld=>?_)
          clear hK K
          try simp only[Act.put,sA,sZ,sS]
          refine tk (i:=12) (oi:=⟨some 16,_,_,_,_,_⟩) (v:=?_) rfl (Or.inl ⟨by rfl,?_⟩) ?_
          rotate_left
          ·intro W hSw;go_simp;try (with_reducible rfl)
          try simp only[Act.put,sA,sZ,sS]
          refine wpAnyH_done (by kernel_rfl) ?_ _
          refine NoPanic.normal ?_
          try go_wp2_with fail
          go_roundw
          case measure=>simp[intOf];omega
          case rel=>exact⟨k+1,q3,A8,c8,A5,c5,_,by omega,by go_num,rfl,rfl,yH (HFin.out A8 c8 _ HO8.out HB8.out)⟩
        ·go_simp
         try go_wp2_with fail
         refine hK.out _ _ trivial (fun hHeld=>?_)
         clear hK K
         try simp only[Act.put,sA,sZ,sS]
         refine wpAnyH_ready (rs:=[0]) (by kernel_rfl) (by simp) ?_
         refine AllReadyH.cons (o:=⟨some 95,_,_,_,_,_⟩) rfl (fun K hK=>?_) AllReadyH.nil
         go_simp
         try go_wp2_with fail
         refine hK.out _ _ trivial (fun hHeld=>?_)
         clear hK K
         try simp only[Act.put,sA,sZ,sS]
         refine wpAnyH_ready (rs:=[4]) (by kernel_rfl) (by simp) ?_
         refine AllReadyH.cons (o:=⟨some 99,_,_,_,_,_⟩) rfl (fun K hK=>?_) AllReadyH.nil
         refine step_append_rN (o:=⟨some 99,_,_,_,_,_⟩) intE rfl (.tmp 95) (.tmp 98) rfl wd.heap.size (some ⟨wd.heap.size+1,0,none⟩) 0 0 [] rfl E3.out A2 a c2 (iv (who.take a)) rfl a (Nat.zero_add _) (HNt.out _ B3.out).1 (HNt.out _ B3.out).2 (iv_one _) (by omega) (by omega) (by unfold maxLen;omega) ?_
         intro A6 c6 w6 ho6 hgr6 hat6
         have HO6:=yH ho6
         have HB6:=yH (B3.out.trans (below_grown hgr6 B3.out.size (fun q hq=>(OwnE.ltB E3.out q hq).1)))
         have J6:=yH (blk_grown (g:=wd.heap.size+1) J3.out hgr6 (by omega))
         clear ho6 hgr6 hat6
         refine hK.out _ _ trivial (fun hHeld=>?_)
         clear hK K
         try simp only[Act.put,sA,sZ,sS]
         refine wpAnyH_ready (rs:=[7]) (by kernel_rfl) (by simp) ?_
         refine AllReadyH.cons (o:=⟨some 102,_,_,_,_,_⟩) rfl (fun K hK=>?_) AllReadyH.nil
         refine step_append_rN (o:=⟨some 102,_,_,_,_,_⟩) intE rfl (.tmp 99) (.tmp 101) rfl wd.heap.size A6 a c6 _ rfl HO6.out (some ⟨wd.heap.size,0,none⟩) 1 1 (iv [j]) rfl (a+1) rfl rfl (fun q u hq=>⟨_,rfl,Blk.news J6.out q u hq⟩) (iv_one _) (by omega) (by omega) (by unfold maxLen;omega) ?_
         intro A7 c7 w7 ho7 hgr7 hat7
         have HO7:=yH ho7
         have HB7:=yH (HB6.out.trans (below_grown hgr7 HB6.out.size (fun q hq=>(OwnE.ltB HO6.out q hq).1)))
         clear ho7 hgr7 hat7
         refine hK.out _ _ trivial (fun hHeld=>?_)
         clear hK K
         try simp only[Act.put,sA,sZ,sS]
         refine wpAnyH_ready (rs:=[11]) (by kernel_rfl) (by simp) ?_
         refine AllReadyH.cons (o:=⟨some 106,_,_,_,_,_⟩) rfl (fun K hK=>?_) AllReadyH.nil
         refine step_append_rN (o:=⟨some 106,_,_,_,_,_⟩) intE rfl (.tmp 102) (.tmp 105) rfl wd.heap.size A7 (a+1) c7 _ rfl HO7.out (cutA A2 c2 a) (k-a) (c2-a) (iv (who.drop a)) rfl (k+1) HN8.out (HNd'.out _ HB7.out).1 (HNd'.out _ HB7.out).2 (iv_one _) (by omega) (by omega) (by unfold maxLen;omega) ?_
         intro A8 c8 w8 ho8 hgr8 hat8
         have HO8:=yH (HL8.out▸ho8)
         have HB8:=yH (HB7.out.trans (below_grown hgr8 HB7.out.size (fun q hq=>(OwnE.ltB HO7.out q hq).1)))
         clear ho8 hgr8 hat8
         refine hK.out _ _ trivial (fun hHeld=>?_)
         clear hK K
         try simp only[Act.put,sA,sZ,sS]
         refine tk (i:=12) (oi:=⟨some 16,_,_,_,_,_⟩) (v:=?_) rfl (Or.inl ⟨by rfl,?_⟩) ?_
         rotate_left
         ·intro W hSw;go_simp;try (with_reducible rfl)
         try simp only[Act.put,sA,sZ,sS]
         refine wpAnyH_done (by kernel_rfl) ?_ _
         refine NoPanic.normal ?_
         try go_wp2_with fail
         go_roundw
         case measure=>simp[intOf];omega
         case rel=>exact⟨k+1,q3,A8,c8,A5,c5,_,by omega,by go_num,rfl,rfl,yH (HFin.out A8 c8 _ HO8.out HB8.out)⟩
    ·obtain rfl:k=n1:=by omega
     obtain⟨i1,i2,i3,i4,i5⟩:=inv_dataAll HI.out L HOk.out k (by rw[HN1.out];exact yR _)
     obtain⟨at1,low1,path1,who1,pay1,pays1,ap1⟩:=hL1.out
     have htk:L.take k=L:=List.take_of_length_le (by rw[HN1.out];exact yR _)
     rw[htk]at i1 i2 i3 i4 i5 at1 low1 who1 pays1
     rcases hdk:Mk.dataAll m L with⟨md,who⟩
     rw[hdk]at i1 i2 i3 i4 i5 at1 low1 who1
     dsimp only at i1 i2 i3 i4 i5 at1 low1 who1
     have HDk:=yH hdk
     have HAt:=yH at1
     have HLow:=yH low1
     have HPath:=yH path1
     have HWho:=yH who1
     have HPay:=yH pay1
     have HPays:=yH pays1
     have HI1:=yH i1
     have HI3:=yH i3
     have HI5:=yH i5
     have HI5B:=yH i4
     have HWl:=yH i2
     have hk16:k≤16:=hn16
     clear hdk at1 low1 path1 who1 pay1 pays1 ap1 i1 i2 i3 i5 hL1 htk HPf
     rename World=>wA
     obtain⟨fA,hfA⟩: ∃f:Nat→Nat,∀i,f i=(Mk.kn md (who.getD i 0)).at_:=⟨_,fun i=>rfl⟩
     obtain⟨hA,hhA⟩: ∃f:Nat→Int,∀i,f i=Mk.sum md (Mk.kn md (who.getD i 0)).text:=⟨_,fun i=>rfl⟩
     have HfA:=yH hfA
     have HhA:=yH hhA
     clear hfA hhA
     have HKn:=yH fun(x:Nat) (hx:x<md.datas.length)=>show Mk.kn md x∈md.datas from by
      unfold Mk.kn
      rw[List.getD_eq_getElem?_getD,List.getElem?_eq_getElem hx]
      exact List.getElem_mem hx
     have HWx:=yH fun(i:Nat) (hi:i<k)=>show who.getD i 0<md.datas.length from by
      rw[List.getD_eq_getElem?_getD,List.getElem?_eq_getElem (by rw[HWl.out];exact hi:i<who.length)]
      exact HI3.out _ (List.getElem_mem _)
     have hdlm:q.dl.length=md.datas.length:=by rw[←HAt.out.dm,List.length_map]
     obtain⟨nd,hnd⟩: ∃x,q.nd=x:=⟨_,rfl⟩
     have HNd:=yH hnd
     have HNd5:=yH (show nd=md.datas.length by rw[←hnd,←ownK_len HAt.out.dr,hdlm])
     have HDlm:=yH hdlm
     clear hnd hdlm
     have hnd9:nd≤100000:=by have:=HI1.out.dn;have:=HNd5.out;omega
     go_wp2
     go_loopw [15,21] (fun a15 a21 wr=> ∃(i:Nat) (A9:Option Addr) (c9:Nat),i≤k∧a21= .int .i64 (i:Int)∧a15= .slice A9 i c9∧Hid (OwnE 199 2 wr wA.heap.size A9 i c9 (itv (fun i=>(fA i:Int)) hA i))∧Hid (Below wA.heap.size wA wr)) (fun _ i _=>k-(intOf i).toNat)
     case atStart=>exact⟨0,none,0,Nat.zero_le _,rfl,rfl,yH (OwnE.nil _ _ (yR _)),yH (Below.refl _ _)⟩
     case round=>
      obtain⟨i,A9,c9,hik,rfl,rfl,hO9,hB9⟩:=hrel
      by_cases hlt:i<k
      ·have hx:=HWx.out i hlt
       have hA9:=At.below HAt.out hB9.out
       have t144:wr.drew.cell? ⟨g,144,none⟩=some (.slice q.D nd q.cd):=HNd.out▸At.cd (At.drew hA9)
       obtain⟨bw,hAw,hwc⟩:=own_int (HWho.out.below hB9.out).own i (by rw[HWl.out];exact hlt)
       subst hAw
       obtain⟨bD,hDb,hbl,d0,d1,d2,d3,d4⟩:=ownK_at hA9.dr (who.getD i 0) (by rw[HDlm.out];exact hx)
       rw[hDb]at t144
       rw[kn_at hA9.dm _ (by rw[HDlm.out];exact hx)]at d0 d1 d2 d3
       rw[←HfA.out]at d1
       have hxd:who.getD i 0<nd:=by rw[HNd5.out];exact hx
       have hdat:=HI1.out.dat _ (HKn.out _ hx)
       have hhs:=HhA.out i
       have htA:=hdat.2.1
       have htl:=hdat.2.2.1
       have hfb:fA i≤100000:=by rw[HfA.out];omega
       generalize hkn:Mk.kn md (who.getD i 0)=kx at*
       obtain⟨tx,ax,sx,nx,rx⟩:=kx
       dsimp only at d0 d2 d3 hhs htA htl
       have HHs:=yH hhs
       obtain⟨Av,nv,cv,ev,_,_⟩:=hA9.da _ (List.getElem_mem (by rw[HDlm.out];exact hx:who.getD i 0<q.dl.length))
       rw[ev]at d4
       clear ev
       generalize who.getD i 0=x at*
       clear hkn hdat hhs hDb
       have e0:wr.drew.cell? ⟨bD,x*5,none⟩=some (.string (T tx)):=d0
       have e1:wr.drew.cell? ⟨bD,x*5+1,none⟩=some (.int .u64 (fA i:Int)):=d1
       have e2:wr.drew.cell? ⟨bD,x*5+2,none⟩=some (.int .i64 (sx:Int)):=d2
       have e3:wr.drew.cell? ⟨bD,x*5+3,none⟩=some (.int .i64 (nx:Int)):=d3
       have e4:wr.drew.cell? ⟨bD,x*5+4,none⟩=some (.slice Av nv cv):=d4
       have e5:wr.drew.cell? ⟨bw,i,none⟩=some (.int .i64 (x:Int)):=hwc
       have HSk:=yH fun(W:World) (hW:Below wr.heap.size wr W)=>show W.cell? ⟨g,144,none⟩=some (.slice (some ⟨bD,0,none⟩) nd q.cd)∧W.cell? ⟨bD,x*5,none⟩=some (.string (T tx))∧W.cell? ⟨bD,x*5+1,none⟩=some (.int .u64 (fA i:Int))∧W.cell? ⟨bD,x*5+2,none⟩=some (.int .i64 (sx:Int))∧W.cell? ⟨bD,x*5+3,none⟩=some (.int .i64 (nx:Int))∧W.cell? ⟨bD,x*5+4,none⟩=some (.slice Av nv cv)∧W.cell? ⟨bw,i,none⟩=some (.int .i64 (x:Int))from
        ⟨(hW.cell (p:=⟨g,144,none⟩) hA9.st.st.lt).trans t144,(hW.cell (p:=⟨bD,x*5,none⟩) hbl).trans d0,(hW.cell (p:=⟨bD,x*5+1,none⟩) hbl).trans d1,(hW.cell (p:=⟨bD,x*5+2,none⟩) hbl).trans d2,(hW.cell (p:=⟨bD,x*5+3,none⟩) hbl).trans d3,(hW.cell (p:=⟨bD,x*5+4,none⟩) hbl).trans d4,(hW.cell (p:=⟨bw,i,none⟩) (bounds_of_cell hwc)).trans hwc⟩
       have b22:=yH (show Below wr.heap.size wr (wr.alloc (.cells #[.string {data:= #[]},.int .u64 0,.int .i64 0,.int .i64 0,.slice none 0 0] 197)).drew from((Below.refl _ _).alloc (yR _) _).drew)
       have bk:=yH (show Below wr.heap.size wr (wr.alloc (.cells #[.string (T tx),.int .u64 (fA i:Int),.int .i64 (sx:Int),.int .i64 (nx:Int),.slice Av nv cv] 197)).drew from((Below.refl _ _).alloc (yR _) _).drew)
       go_upto_region 22 with fail
       go_region_held3 (fun W=>W.cell? ⟨g,144,none⟩=some (.slice (some ⟨bD,0,none⟩) nd q.cd)∧W.cell? ⟨bD,x*5,none⟩=some (.string (T tx))∧W.cell? ⟨bD,x*5+1,none⟩=some (.int .u64 (fA i:Int))∧W.cell? ⟨bD,x*5+2,none⟩=some (.int .i64 (sx:Int))∧W.cell? ⟨bD,x*5+3,none⟩=some (.int .i64 (nx:Int))∧W.cell? ⟨bD,x*5+4,none⟩=some (.slice Av nv cv)∧W.cell? ⟨bw,i,none⟩=some (.int .i64 (x:Int))) (first|(with_reducible exact⟨t144,e0,e1,e2,e3,e4,e5⟩)|(exact HSk.out _ b22.out)|(exact HSk.out _ bk.out)|go_keep) (fail)
       have RK:=yH (Blk.drew (Blk.new wr [.string (T tx),.int .u64 (fA i:Int),.int .i64 (sx:Int),.int .i64 (nx:Int),.slice Av nv cv] 197))
       generalize (wr.alloc (.cells #[.string (T tx),.int .u64 (fA i:Int),.int .i64 (sx:Int),.int .i64 (nx:Int),.slice Av nv cv] 197)).drew=wk at*
       clear t144 e0 e1 e2 e3 e4 e5 d0 d1 d2 d3 d4 hwc HSk b22
       have hbw:=bk.out.size
       have HAk:=yH (At.below hA9 bk.out)
       have HSd:=yH fun(W:World) (hW:Below wk.heap.size wk W)=>show(fun W:World=>W.cell? ⟨g,51,none⟩=some (.bool md.C.keyed)∧W.rangeAt g 0 (fileV md.C)∧W.cell? ⟨wr.heap.size,1,none⟩=some (.int .u64 (fA i:Int))∧W.cell? ⟨wr.heap.size,0,none⟩=some (.string (T tx))) W from
        ⟨(At.below HAk.out hW).st.st.cell (Mk.get_keyed _ _),Mk.file_range (At.below HAk.out hW).st.st,(RK.out.below hW RK.out.lt).cell (i:=1) rfl,(RK.out.below hW RK.out.lt).cell (i:=0) rfl⟩
       have hz9:=hB9.out.size
       have HSg:=yH fun(W W0:World) (hW:Below wk.heap.size wk W0) (hg:W0.grownBy W (ownB A9))=>show(fun W:World=>W.cell? ⟨g,51,none⟩=some (.bool md.C.keyed)∧W.rangeAt g 0 (fileV md.C)∧W.cell? ⟨wr.heap.size,1,none⟩=some (.int .u64 (fA i:Int))∧W.cell? ⟨wr.heap.size,0,none⟩=some (.string (T tx))) W from by
        have hoff: ∀j',ownB A9=some j'→wA.heap.size≤j'∧j'<wr.heap.size:=OwnE.ltB hO9.out
        have hst:=(At.below HAk.out hW).st.st
        have hgw:g<wA.heap.size:=(At.lt HAt.out g (.inl rfl)).2
        have h1:Blk W g _ 168:=(hg.block g hst.lt (fun e=>by have:=(hoff g e.symm).1;omega)).trans hst
        have hrk:=RK.out.below hW RK.out.lt
        have h2:Blk W wr.heap.size _ 197:=(hg.block wr.heap.size hrk.lt (fun e=>by have:=(hoff _ e.symm).2;omega)).trans hrk
        exact⟨h1.cell (Mk.get_keyed _ _),Mk.file_range h1,h2.cell (i:=1) rfl,h2.cell (i:=0) rfl⟩
       obtain⟨ns,hns⟩: ∃ns,tx.length=ns:=⟨_,rfl⟩
       have HS:=yH hns
       clear hns
       have HO:=yH fun(W:World) (c:Nat) (h:Bytes W (some ⟨wk.heap.size,0,none⟩) tx)=>rof_any md.C.keyed md.C.F _ tx ns c W HI1.out.F h HS.out (by rw[←HS.out];omega)
       rw[show ofS md.C.keyed (idL md.C.F) tx=hA i from HHs.out.symm]at HO
       obtain⟨cv',mk,hmk⟩:=text_conv tx htA
       have hcv:=fun w=>(hmk w).1
       simp only[HS.out]at hcv
       have HB1:=yH ((hmk wk.drew).2.1 wk.heap.size rfl)
       have HG1:=yH (((Below.refl wk.heap.size wk).drew).trans (hmk wk.drew).2.2.below)
       clear hmk
       have idU:=Tryz.underlying37
       have idI:(Tryz.prog.info? 37).map (·.size)=some (fileV md.C).length:=by kernel_rfl
       go_upto_region 23 with fail
       refine wp_region_noPanic ?_
       refine wp_region_held_drew (S:=fun W:World=>W.cell? ⟨g,51,none⟩=some (.bool md.C.keyed)∧W.rangeAt g 0 (fileV md.C)∧W.cell? ⟨wr.heap.size,1,none⟩=some (.int .u64 (fA i:Int))∧W.cell? ⟨wr.heap.size,0,none⟩=some (.string (T tx))) (by kernel_rfl) (by exact HSd.out _ (Below.refl _ _).drew) (fun hHeld=>?_)
       refine tk (i:=0) (oi:=⟨some 123,_,_,_,_,_⟩) (v:=?_) rfl (Or.inl ⟨by rfl,?_⟩) ?_
       rotate_left
       ·intro W hSw;go_simp;try (with_reducible rfl)
       try simp only[Act.put,sA,sZ,sS]
       refine tk (i:=1) (oi:=⟨some 124,_,_,_,_,_⟩) (v:=?_) rfl (Or.inl ⟨by rfl,?_⟩) ?_
       rotate_left
       ·intro W hSw;go_simp;try (with_reducible rfl)
       try simp only[Act.put,sA,sZ,sS]
       refine tk (i:=2) (oi:=⟨some 125,_,_,_,_,_⟩) (v:=?_) rfl (Or.inl ⟨by rfl,?_⟩) ?_
       rotate_left
       ·intro W hSw;have hSx:=hSw.2.2.1;go_simp;try (with_reducible rfl)
       try simp only[Act.put,sA,sZ,sS]
       refine tk (i:=3) (oi:=⟨some 126,_,_,_,_,_⟩) (v:=?_) rfl (Or.inl ⟨by rfl,?_⟩) ?_
       rotate_left
       ·intro W hSw;go_simp;try (with_reducible rfl)
       try simp only[Act.put,sA,sZ,sS]
       refine tk (i:=4) (oi:=⟨some 127,_,_,_,_,_⟩) (v:=?_) rfl (Or.inl ⟨by rfl,?_⟩) ?_
       rotate_left
       ·intro W hSw;go_simp;try (with_reducible rfl)
       try simp only[Act.put,sA,sZ,sS]
       refine tk (i:=5) (oi:=⟨some 128,_,_,_,_,_⟩) (v:=?_) rfl (Or.inl ⟨by rfl,?_⟩) ?_
       rotate_left
       ·intro W hSw;go_simp;try (with_reducible rfl)
       try simp only[Act.put,sA,sZ,sS]
       refine tk (i:=6) (oi:=⟨some 129,_,_,_,_,_⟩) (v:=?_) rfl (Or.inl ⟨by rfl,?_⟩) ?_
       rotate_left
       ·intro W hSw;go_simp;try (with_reducible rfl)
       try simp only[Act.put,sA,sZ,sS]
       refine tk (i:=7) (oi:=⟨some 130,_,_,_,_,_⟩) (v:=?_) rfl (Or.inl ⟨by rfl,?_⟩) ?_
       rotate_left
       ·intro W hSw;have hSx:=hSw.1;go_simp;try (with_reducible rfl)
       try simp only[Act.put,sA,sZ,sS]
       refine tk (i:=8) (oi:=⟨some 131,_,_,_,_,_⟩) (v:=?_) rfl (Or.inl ⟨by rfl,?_⟩) ?_
       rotate_left
       ·intro W hSw;go_simp;try (with_reducible rfl)
       try simp only[Act.put,sA,sZ,sS]
       refine tk (i:=9) (oi:=⟨some 132,_,_,_,_,_⟩) (v:=?_) rfl (Or.inl ⟨by rfl,?_⟩) ?_
       rotate_left
       ·intro W hSw;go_simp;try (with_reducible rfl)
       try simp only[Act.put,sA,sZ,sS]
       refine tk (i:=10) (oi:=⟨some 133,_,_,_,_,_⟩) (v:=?_) rfl (Or.inl ⟨by rfl,?_⟩) ?_
       rotate_left
       ·intro W hSw;go_simp;try (with_reducible rfl)
       try simp only[Act.put,sA,sZ,sS]
       refine tk (i:=11) (oi:=⟨some 134,_,_,_,_,_⟩) (v:=?_) rfl (Or.inl ⟨by rfl,?_⟩) ?_
       rotate_left
       ·intro W hSw;go_simp;try (with_reducible rfl)
       try simp only[Act.put,sA,sZ,sS]
       refine tk (i:=12) (oi:=⟨some 135,_,_,_,_,_⟩) rfl (yieldsIf_load_mid (by rfl) _ _ rfl _ _ rfl _ _ (fun _ h=>h.2.1) idU rfl idI) ?_
       try simp only[Act.put,sA,sZ,sS]
       refine tk (i:=13) (oi:=⟨some 136,_,_,_,_,_⟩) (v:=?_) rfl (Or.inl ⟨by rfl,?_⟩) ?_
       rotate_left
       ·intro W hSw;go_simp;try (with_reducible rfl)
       try simp only[Act.put,sA,sZ,sS]
       refine tk (i:=14) (oi:=⟨some 137,_,_,_,_,_⟩) (v:=?_) rfl (Or.inl ⟨by rfl,?_⟩) ?_
       rotate_left
       ·intro W hSw;have hSx:=hSw.2.2.2;go_simp;try (with_reducible rfl)
       try simp only[Act.put,sA,sZ,sS]
       refine wpAnyH_ready (rs:=[15]) (by kernel_rfl) (by simp) ?_
       refine AllReadyH.cons (o:=⟨some 138,_,_,_,_,_⟩) rfl (fun K hK=>?_) AllReadyH.nil
       go_simp
       skip
       try go_wp2_with fail
       refine hK.out _ _ (by exact HSd.out _ HG1.out) (fun hHeld=>?_)
       clear hK K
       try simp only[Act.put,sA,sZ,sS]
       refine wpAnyH_ready (rs:=[16]) (by kernel_rfl) (by simp) ?_
       refine AllReadyH.cons (o:=⟨some 139,_,_,_,_,_⟩) rfl (fun K hK=>?_) AllReadyH.nil
       go_simp
       (refine(HO.out _ _ HB1.out).mono ?_);rintro e wO ⟨rfl,hbO⟩;have HGO:=yH (HG1.out.trans (hbO.mono HG1.out.size));clear hbO
       try go_wp2_with fail
       refine hK.out _ _ (by exact HSd.out _ HGO.out) (fun hHeld=>?_)
       clear hK K
       try simp only[Act.put,sA,sZ,sS]
       refine tk (i:=17) (oi:=⟨some 140,_,_,_,_,_⟩) (v:=?_) rfl (Or.inl ⟨by rfl,?_⟩) ?_
       rotate_left
       ·intro W hSw;go_simp;try (with_reducible rfl)
       try simp only[Act.put,sA,sZ,sS]
       refine wpAnyH_ready (rs:=[18]) (by kernel_rfl) (by simp) ?_
       refine AllReadyH.cons (o:=⟨some 141,_,_,_,_,_⟩) rfl (fun K hK=>?_) AllReadyH.nil
       go_simp
       skip
       try go_wp2_with fail
       refine hK.out _ _ (by exact HSd.out _ (HGO.out.alloc HGO.out.size _)) (fun hHeld=>?_)
       clear hK K
       try simp only[Act.put,sA,sZ,sS]
       refine wpAnyH_ready (rs:=[19]) (by kernel_rfl) (by simp) ?_
       refine AllReadyH.cons (o:=⟨some 142,_,_,_,_,_⟩) rfl (fun K hK=>?_) AllReadyH.nil
       have bO:=HGO.out.alloc HGO.out.size (.cells #[.int .u64 (fA i:Int),.int .u64 (hA i)] 199)
       refine step_append_rN (o:=⟨some 142,_,_,_,_,_⟩) itemE rfl (.tmp 123) (.tmp 141) rfl wA.heap.size A9 i c9 (itv (fun i=>(fA i:Int)) hA i) rfl (hO9.out.kept (bk.out.trans (bO.mono bk.out.size)) (yR _)) (some ⟨wO.heap.size,0,none⟩) 1 1 [.int .u64 (fA i:Int),.int .u64 (hA i)] rfl (i+1) rfl rfl (fun q' u hq'=>⟨_,rfl,Blk.news (Blk.new wO _ 199) q' u hq'⟩) (by simp[Value.oneCell']) (by omega) (by omega) (by unfold maxLen;omega) ?_
       intro A10 c10 w10 ho10 hgr10 hat10
       have HO10:=yH (show OwnE 199 2 w10 wA.heap.size A10 (i+1) c10 (itv (fun i=>(fA i:Int)) hA (i+1))from by rw[itv_succ];exact ho10)
       have HB10:=yH (show Below wA.heap.size wA w10 from(hB9.out.trans ((bk.out.trans (bO.mono bk.out.size)).mono hB9.out.size)).trans (below_grown hgr10 (by have:=hB9.out.size;have:=bk.out.size;have:=bO.size;omega) (fun q' hq'=>(OwnE.ltB hO9.out q' hq').1)))
       have HK10:=HSg.out w10 _ bO hgr10
       clear ho10 hgr10 hat10 bO
       refine hK.out _ _ HK10 (fun hHeld=>?_)
       clear hK K
       try simp only[Act.put,sA,sZ,sS]
       refine tk (i:=20) (oi:=⟨some 15,_,_,_,_,_⟩) (v:=?_) rfl (Or.inl ⟨by rfl,?_⟩) ?_
       rotate_left
       ·intro W hSw;go_simp;try (with_reducible rfl)
       try simp only[Act.put,sA,sZ,sS]
       refine wpAnyH_done (by kernel_rfl) ?_ _
       refine NoPanic.normal ?_
       try go_wp2_with fail
       go_roundw
       case rel=>exact⟨i+1,A10,c10,by omega,by go_num,rfl,HO10,HB10⟩
       case measure=>simp[intOf];omega
      ·obtain rfl:i=k:=by omega
       rename World=>wB
       have HAB:=yH (At.below HAt.out hB9.out)
       have HPathB:=yH (HPath.out.below hB9.out)
       have HWhoB:=yH (HWho.out.below hB9.out)
       have HPayB:=yH (HPay.out.below hB9.out)
       have HPaysB:=yH (HPays.out.below hB9.out)
       have HHb:=yH fun(j:Nat)=>show 0≤hA j∧hA j≤18446744073709551615 from by rw[HhA.out];exact ofS_bd _ _ _
       have HIn:=yH (own_in2 hO9.out (fun j hj=>⟨by omega,by
        have h1:=HWx.out j hj
        have h2:=(HI1.out.dat _ (HKn.out _ h1)).1
        rw[HfA.out]
        omega⟩) (fun j _=>HHb.out j))
       have HAo2:=HAo.out
       have HRB:=yH (show Blk wB w.heap.size (idE K) 37 from(HPathB.out.kept.block _ (yL R1.out.lt HBo.out.size) (fun hf=>absurd (hfl _ hf) (Nat.lt_irrefl _))).trans ((HBo.out.block _ R1.out.lt).trans R1.out))
       have hn9:md.h.N 9=s9:=HI5.out.n9.trans HS9.out
       have HTlB:=yH (tail_any B g q.bb q.cb q.S md wB HAB.out.st)
       rw[hn9]at HTlB
       have hs9:s9+1≤18446744073709551615:=by have:=HT.out;omega
       have hsw:IntKind.u64.wrap (s9+1)=s9+1:=by rw[IntKind.wrap_u64];omega
       obtain⟨sq,hsq⟩: ∃x,s9+1=x:=⟨_,rfl⟩
       have HSq:=yH hsq
       go_upto_region 25 with(first|(go_at_call 79;(refine HTlB.out.mono ?_);rintro e w' ⟨rfl,rfl⟩)|fail)
       have hsq0:0≤sq∧sq≤18446744073709551615:=by omega
       clear hsw hn9
       obtain⟨xs9,hxs9⟩: ∃x,x=xr (L.map fun q=>pay q.1 q.2):=⟨_,rfl⟩
       have HXo:=yH (rxor_any w2.heap.size i c3 g q A3 xs _ wB.drew (OwnE.drew HPayB.out.own) (HPaysB.out.below (Below.refl _ _).drew) (by omega) (fun l hl=>by
        obtain⟨q',hq',rfl⟩:=List.mem_map.1 hl
        have h1:=HOk.out q' hq'
        rw[Fa.pay_len]
        omega))
       rw[←hxs9]at HXo
       have hxl:(0:Int)≤(xs9:Nat)∧((xs9:Nat):Int)≤18446744073709551615:=by have:=xr_lt (L.map fun q=>pay q.1 q.2);rw[←hxs9]at this;omega
       have HXs:=yH hxs9
       clear hxs9
       have HPe:=yH (rputEntry_any sq real mono K (xs9:Int) A9 i c9 (fun j=>(fA j:Int)) hA wB.drew (HIn.out.keep (Below.refl _ _).drew) (by omega) HK.out hsq0 hr hm hxl)
       have heobj:objB 3 (entB sq real mono K (xs9:Int) (prs (fun j=>(fA j:Int)) hA i))=Mk.eobj md who (L.map fun q=>pay q.1 q.2) sq real mono K:=by
        unfold Mk.eobj
        rw[←HXs.out,show(fun i=>((Mk.kn md (who.getD i 0)).at_:Int))=(fun j=>(fA j:Int))from funext fun j=>by rw[HfA.out],show(fun i=>Mk.sum md (Mk.kn md (who.getD i 0)).text)=hA from funext fun j=>(HhA.out j).symm,HWl.out]
       have hel:(Mk.eobj md who (L.map fun q=>pay q.1 q.2) sq real mono K).length=16+(48+16*i):=by
        rw[←heobj,objB_len,entB_len,show padN (48+16*i)=0 by unfold padN;omega]
        omega
       rw[heobj,show padN (48+16*i)=0 by unfold padN;omega]at HPe
       unfold Owned at HPe
       obtain⟨eo,heo⟩: ∃x,x=Mk.eobj md who (L.map fun q=>pay q.1 q.2) sq real mono K:=⟨_,rfl⟩
       rw[←heo]at HPe hel
       have HEo:=yH heo
       clear heobj heo
       have hmdb:md.b.length≤42400:=by have:=HI5B.out;omega
       have hfq: ∀j,q.foot g j→j≠w.heap.size:=fun j hj e=>by
        rcases HPathB.out.foot j hj with h1|h1
        ·have:=hfl j h1;omega
        ·have:=HBo.out.size;have:=R1.out.lt;omega
       have HSr:=yH fun(W:World) (hW:Below wB.heap.size wB W)=>show W.rangeAt w.heap.size 0 (idE K)from idE_range (HRB.out.below hW HRB.out.lt)
       have HSr5:=yH fun(W W':World) (hW:Below wB.drew.heap.size wB.drew W) (p':Pl) (hP:Path g q W p' W')=>show W'.rangeAt w.heap.size 0 (idE K)from by
        have h1:=HRB.out.below ((Below.refl wB.heap.size wB).drew.trans hW) HRB.out.lt
        exact idE_range (show Blk W' w.heap.size (idE K) 37 from(hP.kept.block _ h1.lt (fun hf=>hfq _ hf rfl)).trans h1)
       have idU:=Tryz.underlying37
       have idJ:(Tryz.prog.info? 37).map (·.size)=some (idE K).length:=by kernel_rfl
       refine wp_region_noPanic ?_
       refine wp_region_held_drew (S:=fun W:World=>W.rangeAt w.heap.size 0 (idE K)) (by kernel_rfl) (by exact HSr.out _ (Below.refl _ _).drew) (fun hHeld=>?_)
       refine tk (i:=0) (oi:=⟨some 146,_,_,_,_,_⟩) (v:=?_) rfl (Or.inl ⟨by rfl,?_⟩) ?_
       rotate_left
       ·intro W hSw;go_simp;try (with_reducible rfl)
       try simp only[Act.put,sA,sZ,sS]
       refine tk (i:=1) (oi:=⟨some 147,_,_,_,_,_⟩) (v:=?_) rfl (Or.inl ⟨by rfl,?_⟩) ?_
       rotate_left
       ·intro W hSw;go_simp;try (with_reducible rfl)
       try simp only[Act.put,sA,sZ,sS]
       refine tk (i:=2) (oi:=⟨some 148,_,_,_,_,_⟩) (v:=?_) rfl (Or.inl ⟨by rfl,?_⟩) ?_
       rotate_left
       ·intro W hSw;go_simp;try (with_reducible rfl)
       try simp only[Act.put,sA,sZ,sS]
       refine tk (i:=3) (oi:=⟨some 149,_,_,_,_,_⟩) (v:=?_) rfl (Or.inl ⟨by rfl,?_⟩) ?_
       rotate_left
       ·intro W hSw;go_simp;try (with_reducible rfl)
       try simp only[Act.put,sA,sZ,sS]
       refine tk (i:=4) (oi:=⟨some 150,_,_,_,_,_⟩) rfl (yieldsIf_load_mid (by rfl) _ _ rfl _ _ rfl _ _ (fun _ h=>h) idU rfl idJ) ?_
       try simp only[Act.put,sA,sZ,sS]
       refine tk (i:=5) (oi:=⟨some 151,_,_,_,_,_⟩) (v:=?_) rfl (Or.inl ⟨by rfl,?_⟩) ?_
       rotate_left
       ·intro W hSw;go_simp;try (with_reducible rfl)
       try simp only[Act.put,sA,sZ,sS]
       refine tk (i:=7) (oi:=⟨some 153,_,_,_,_,_⟩) (v:=?_) rfl (Or.inl ⟨by rfl,?_⟩) ?_
       rotate_left
       ·intro W hSw;go_simp;try (with_reducible rfl)
       try simp only[Act.put,sA,sZ,sS]
       refine wpAnyH_ready (rs:=[6]) (by kernel_rfl) (by simp) ?_
       refine AllReadyH.cons (o:=⟨some 152,_,_,_,_,_⟩) rfl (fun K hK=>?_) AllReadyH.nil
       go_simp
       (refine(HXo.out).mono ?_);rintro e wX ⟨rfl,rfl⟩
       try go_wp2_with fail
       refine hK.out _ _ (by exact HSr.out _ (Below.refl _ _).drew) (fun hHeld=>?_)
       clear hK K
       try simp only[Act.put,sA,sZ,sS]
       refine tk (i:=8) (oi:=⟨some 154,_,_,_,_,_⟩) (v:=?_) rfl (Or.inl ⟨by rfl,?_⟩) ?_
       rotate_left
       ·intro W hSw;go_simp;try (with_reducible rfl)
       try simp only[Act.put,sA,sZ,sS]
       refine wpAnyH_ready (rs:=[9]) (by kernel_rfl) (by simp) ?_
       refine AllReadyH.cons (o:=⟨some 155,_,_,_,_,_⟩) rfl (fun K hK=>?_) AllReadyH.nil
       go_simp
       (refine(HPe.out).mono ?_);rintro e w4 ⟨A4,c4,rfl,ho4,hb4⟩;have HO4:=yH ho4;have HB4:=yH hb4;have HA4:=yH (At.below (At.drew HAB.out) hb4);clear ho4 hb4
       try go_wp2_with fail
       refine hK.out _ _ (by exact HSr.out _ ((Below.refl _ _).drew.trans HB4.out)) (fun hHeld=>?_)
       clear hK K
       try simp only[Act.put,sA,sZ,sS]
       refine wpAnyH_ready (rs:=[10]) (by kernel_rfl) (by simp) ?_
       refine AllReadyH.cons (o:=⟨some 156,_,_,_,_,_⟩) rfl (fun K hK=>?_) AllReadyH.nil
       go_simp
       (refine(objectS_any A4 _ c4 _ w4 HA4.out HO4.out.bytes HO4.out.2.1 (by have:=HI1.out.len;omega) (by omega) (by have:=HI1.out.n7;omega)).mono ?_);rintro e w5 ⟨rfl,b5,cb5,ha5,hp5⟩;have HA5:=yH ha5;have HP5:=yH hp5;have HS5:=HSr5.out w4 w5 HB4.out _ hp5;clear ha5 hp5
       try go_wp2_with fail
       refine hK.out _ _ (by exact HS5) (fun hHeld=>?_)
       clear hK K
       try simp only[Act.put,sA,sZ,sS]
       refine tk (i:=11) (oi:=⟨some 24,_,_,_,_,_⟩) (v:=?_) rfl (Or.inl ⟨by rfl,?_⟩) ?_
       rotate_left
       ·intro W hSw;go_simp;try (with_reducible rfl)
       try simp only[Act.put,sA,sZ,sS]
       refine wpAnyH_done (by kernel_rfl) ?_ _
       refine NoPanic.normal ?_
       obtain⟨n8,hn8,hch8,hn8b⟩:=HI1.out.mn
       have y127:w5.cell? ⟨g,127,none⟩=some (.int .u64 (n8:Int)):=(At.cN HA5.out 8 127 (by decide) rfl).trans (congrArg (fun x=>some (Value.int .u64 x)) hn8)
       have hn81:n8≤42400:=by omega
       have I2:=inv_object HI1.out eo (by omega) (by omega)
       have hol:=object_len md eo
       obtain⟨Am,nm,cm,eM,hlm,_⟩:=id HA5.out.ma
       have eM:q.M= .slice Am nm cm:=eM
       have y146:w5.cell? ⟨g,146,none⟩=some (.slice Am nm cm):=eM▸At.cm (p:={q with bb:=b5,cb:=cb5}) HA5.out
       have HAr5:=yH (show Arr w5 (Pl.away {q with bb:=b5,cb:=cb5} B g) (.slice Am nm cm) md.main from eM▸HA5.out.ma)
       have HCh:=yH (hch8.mono (show md.b.length≤(md.object eo).b.length by omega))
       have HLk:=yH (link_any Am nm cm md.main n8 176 md.b.length w5 HA5.out (by have:=I2.len;omega) (by have:=I2.n7;omega) (by have:=I2.n18;omega) HAr5.out HCh.out (by have:=HI1.out.len;omega) (by omega) (by omega) (by omega))
       obtain⟨k1,k2,k3,k4,k5,k6,k7,k8,k9,k10,k11,k12⟩:=inv_link I2 (fr:=176) md.b.length HCh.out (by have:=HI1.out.len;omega)
       have HLd:=yH (show Mk.linked (md.object eo) md.b.length n8={(Mk.link (md.object eo) md.main n8 176 md.b.length).1 with main:=(Mk.link (md.object eo) md.main n8 176 md.b.length).2.1,h:={setN (Mk.link (md.object eo) md.main n8 176 md.b.length).1.h 11 (((Mk.link (md.object eo) md.main n8 176 md.b.length).2.1.getD 0 0:Nat):Int)with ta:=(((Mk.link (md.object eo) md.main n8 176 md.b.length).2.1.getLastD 0:Nat):Int),ti:=(((Mk.link (md.object eo) md.main n8 176 md.b.length).2.2:Nat):Int)}}from rfl)
       have HN8:=yH hn8
       clear hn8 hch8 eM hlm
       rcases hr6:Mk.link (md.object eo) md.main n8 176 md.b.length with⟨m6,arr6,used6⟩
       rw[hr6]at k1 k2 k3 k4 k5 k6 k7 k8 k9 k10 k11 k12 HLk HLd
       dsimp only at k1 k2 k3 k4 k5 k6 k7 k8 k9 k10 k11 k12 HLd
       have HK1:=yH k1
       have HK2:=yH k2
       have HK5:=yH k5
       have HK8:=yH k8
       have HK10:=yH k10
       have HPath5:=yH ((HPathB.out.drew.below HB4.out).trans HP5.out)
       have HQ5:=yH (((Path.refl g q wB).drew.below HB4.out).trans HP5.out)
       unfold Linked at HLk
       clear k1 k2 k5 k6 k7 k8 k9 k10 k11 hr6
       go_upto_region 28 with fail
       go_upto_region 29 with(first
        |(go_at_call 103;(refine HLk.out.mono ?_;rintro e w6 ⟨_,p6,rfl,⟨A6,n6,c6,rfl,hl6,hq6⟩,ha6,hp6⟩;have HAr6:=yH (show Arr w6 (Pl.away p6 B g) (.slice A6 n6 c6) arr6 from⟨A6,n6,c6,rfl,hl6,hq6⟩);have HA6:=yH ha6;have HP6:=yH hp6;have x146:=At.cm ha6;have z146:=At.fz ha6 146;clear ha6 hp6 hq6))
        |fail)
       have HX7:=At.setM HA6.out (.slice A6 n6 c6) arr6 HAr6.out
       have HA7:=yH HX7.1
       have HP7:=yH (HPath5.out.trans (HP6.out.trans HX7.2))
       have HQ7:=yH (HQ5.out.trans (HP6.out.trans HX7.2))
       clear HX7 x146 z146 y127 y146
       generalize w6.setCell ⟨g,146,none⟩ (.slice A6 n6 c6)=w7 at*
       have ha0:0<arr6.length:=by
        rcases Nat.eq_zero_or_pos arr6.length with h|h
        ·have h1:=HK2.out.le
         rw[h]at h1
         rw[show rooms 0=0 from rfl]at h1
         omega
        ·exact h
       have HAr7:=HA7.out.ma
       obtain⟨bA,hbA,hcA⟩:=arr_at HAr7 0 (by omega) (arr6.getD 0 0) rfl
       obtain⟨n6',rfl⟩: ∃n',n6=n'+1:=⟨n6-1,by omega⟩
       obtain⟨bA2,hbA2,hcL⟩:=arr_at HAr7 n6' (by omega) (arr6.getLastD 0) (last_getD arr6 n6' hl6)
       rw[hbA]at hbA2
       injection hbA2 with hbA2
       injection hbA2 with hbA2
       subst hbA2
       subst hbA
       have hla:arr6.getLastD 0≤100000:=by
        have h1:=chain_last HK2.out (List.ne_nil_of_length_pos ha0)
        omega
       have HL6:=yH hl6
       obtain⟨f6,hf6⟩: ∃x,x=arr6.getD 0 0:=⟨_,rfl⟩
       obtain⟨l6,hl6'⟩: ∃x,x=arr6.getLastD 0:=⟨_,rfl⟩
       rw[←hf6]at hcA
       rw[←hl6']at hcL hla
       have HF6:=yH hf6
       have HLL6:=yH hl6'
       clear hf6 hl6' hl6 HAr7
       have y146:w7.cell? ⟨g,146,none⟩=some (.slice (some ⟨bA,0,none⟩) (n6'+1) c6):=At.cm HA7.out
       have y130:=At.cN HA7.out 11 130 (by decide) rfl
       have z130:=At.fz HA7.out 130
       go_region
       have HA8:=yH (At.drew (At.setN HA7.out 11 130 (by decide) rfl (f6:Int)))
       have HP8:=yH ((HP7.out.set 130 (.int .u64 (f6:Int))).drew)
       have HQ8:=yH ((HQ7.out.set 130 (.int .u64 (f6:Int))).drew)
       generalize (w7.setCell ⟨g,130,none⟩ (.int .u64 (f6:Int))).drew=w8 at*
       clear y146 y130 z130 hcA hcL
       have HL6l:arr6.length=n6'+1:=HL6.out
       obtain⟨bA',hbA',hcL⟩:=arr_at HA8.out.ma n6' (by omega) (arr6.getLastD 0) (last_getD arr6 n6' HL6l)
       injection hbA' with hbA'
       injection hbA' with hbA'
       subst hbA'
       rw[←HLL6.out]at hcL
       clear HL6l
       have y146:w8.cell? ⟨g,146,none⟩=some (.slice (some ⟨bA,0,none⟩) (n6'+1) c6):=At.cm HA8.out
       have y139:=At.cta HA8.out
       have z139:=At.fz HA8.out 139
       have y140:=At.cti HA8.out
       have z140:=At.fz HA8.out 140
       have hu6:used6≤256:=k12
       have hn6:n6'≤25001:=by have h1:=chain_len HK2.out (by omega);have h2:=HL6.out;omega
       have hwn:IntKind.i64.wrap (n6':Int)=(n6':Int):=by rw[IntKind.wrap_i64];omega
       have hwl:IntKind.u32.wrap (l6:Int)=(l6:Int):=by rw[IntKind.wrap_u32];omega
       have hwu:IntKind.u32.wrap (used6:Int)=(used6:Int):=by rw[IntKind.wrap_u32];omega
       go_wp2_with fail
       go_region
       have HA9:=yH (show At (((w8.setCell ⟨g,139,none⟩ (.int .u32 (l6:Int))).setCell ⟨g,140,none⟩ (.int .u32 (used6:Int))).drew) B g {p6 with M:= .slice (some ⟨bA,0,none⟩) (n6'+1) c6} (Mk.linked (md.object eo) md.b.length n8)from by
        have h1:=At.drew (At.setTi (At.setTa HA8.out (l6:Int)) (used6:Int))
        rw[HLd.out,←HF6.out,←HLL6.out]
        exact h1)
       have HP9:=yH (((HP8.out.set 139 (.int .u32 (l6:Int))).set 140 (.int .u32 (used6:Int))).drew)
       have HQ9:=yH (((HQ8.out.set 139 (.int .u32 (l6:Int))).set 140 (.int .u32 (used6:Int))).drew)
       generalize ((w8.setCell ⟨g,139,none⟩ (.int .u32 (l6:Int))).setCell ⟨g,140,none⟩ (.int .u32 (used6:Int))).drew=w9 at*
       clear y146 y139 y140 z139 z140 hcL hwn hwl hwu
       obtain⟨g1,g2,g3,g4,g5,g6,g7⟩:=inv_linked I2 md.b.length n8 HN8.out HCh.out (by omega) (by have:=HI1.out.len;omega)
       obtain⟨q9,hq9⟩: ∃y,y=({p6 with M:= .slice (some ⟨bA,0,none⟩) (n6'+1) c6}:Pl):=⟨_,rfl⟩
       rw[←hq9]at HA9 HP9 HQ9
       clear hq9
       generalize hmL:Mk.linked (md.object eo) md.b.length n8=mL at*
       have HmL:=yH hmL
       clear hmL
       have hM0:InvM md.b.length 0 mL:=⟨g1,fun k' hk'=>by rw[g4]at hk';exact(HI1.out.dat k' hk').2.2.2.2,by omega⟩
       have HMA:=yH (inv_markAll hM0 md.b.length who (fun y hy=>by rw[g4];exact HI3.out y hy) (by rw[HWl.out];exact hk16))
       have HG4:=yH g4
       have HG5:=yH g5
       have HG7:=yH g7
       have hmLb:mL.b.length≤45100:=by omega
       have HWho9:=yH (HWhoB.out.path HQ9.out)
       clear g1 g4 g5 g6 g7 I2
       go_wp2
       go_loopw [27] (fun a27 wr=> ∃(j:Nat) (q4:Pl),j≤i∧a27= .int .i64 (j:Int)∧Hid (At wr B g q4 (Mk.markAll md.b.length mL (who.take j)))∧Hid (Path g p w2 q4 wr)∧Hid (Side 3 1 wr g q4 w2.heap.size A2 i c2 (iv who))) (fun a _=>i-(intOf a).toNat)
       case atStart=>exact⟨0,q9,Nat.zero_le _,rfl,yH (by rw[List.take_zero];exact HA9.out),HP9,HWho9⟩
       case round=>
        obtain⟨j,q4,hji,rfl,hAj,HPathJ,HWhoJ0⟩:=hrel
        by_cases hlt:j<i
        ·have hwj:j<who.length:=by rw[HWl.out];exact hlt
         try clear HAll
         try clear HPr
         try clear HLow
         try clear HPath
         try clear HWho
         try clear HPay
         try clear HPays
         try clear HI5B
         try clear HfA
         try clear HhA
         try clear HKn
         try clear HWx
         try clear HNd
         try clear HNd5
         try clear HDlm
         try clear hO9
         try clear hB9
         try clear HAB
         try clear HPathB
         try clear HWhoB
         try clear HPayB
         try clear HPaysB
         try clear HHb
         try clear HIn
         try clear HAo2
         try clear HRB
         try clear HTlB
         try clear HXo
         try clear HXs
         try clear HPe
         try clear HSr
         try clear HSr5
         try clear HO4
         try clear HB4
         try clear HA4
         try clear HA5
         try clear HP5
         try clear HS5
         try clear HAr5
         try clear HCh
         try clear HLk
         try clear HK1
         try clear HK2
         try clear HK5
         try clear HK8
         try clear HK10
         try clear HPath5
         try clear HQ5
         try clear HAr6
         try clear HA6
         try clear HP6
         try clear HA7
         try clear HP7
         try clear HQ7
         try clear HL6
         try clear HF6
         try clear HLL6
         try clear HA8
         try clear HP8
         try clear HQ8
         try clear HA9
         try clear HP9
         try clear HQ9
         try clear HWho9
         try clear HAt
         try clear HOk
         try clear HLraw
         try clear HLd
         try clear HDk
         try clear HEo
         try clear HmL
         try clear HSq
         try clear HS9
         try clear HT
         try clear HLX
         try clear HN8
         try clear HAo
         try clear HP1
         try clear HQ1
         try clear HA2
         try clear HA1
         try clear HI
         try clear hfq
         obtain⟨u1,u2,u3,u4,u5,u6,u7⟩:=HMA.out j (Nat.le_of_lt hwj)
         have HStep:=yH (markAll_step md.b.length mL who j hwj)
         have hgd:who.getD j 0=who[j]:=by rw[List.getD_eq_getElem?_getD,List.getElem?_eq_getElem hwj];rfl
         have hxm:who[j]<(Mk.markAll md.b.length mL (who.take j)).datas.length:=by rw[u4,HG4.out];exact HI3.out _ (List.getElem_mem _)
         have hlen4:(Mk.markAll md.b.length mL (who.take j)).b.length≤80000:=by omega
         clear u2 u3 u4 u5 u6 u7
         have hAw0:=own_int HWhoJ0.out.own j hwj
         obtain⟨bw,hAw,hwc⟩:=hAw0
         subst hAw
         rw[hgd]at hwc
         obtain⟨x,hxe⟩: ∃y,y=who[j]:=⟨_,rfl⟩
         have HXe:=yH (hgd.trans hxe.symm)
         rw[←hxe]at hwc hxm HStep
         clear hxe hgd
         generalize Mk.markAll md.b.length mL (who.take j)=mj at*
         have HXm:=yH hxm
         obtain⟨h1,h2,h3,h4,h5,h6,h7,h8⟩:=inv_hitched u1 md.b.length x hxm
         obtain⟨e1,e2,e3,e4,e5⟩:=u1.inv.dat _ (show Mk.kn mj x∈(Mk.bump mj).datas from kn_mem hxm)
         have e1:(Mk.kn mj x).at_+64≤mj.b.length:=e1
         have e4:Chain mj.b.length (Mk.kn mj x).arrays ((Mk.kn mj x).count-1):=e4
         have ecnt:=u1.cnt _ (kn_mem hxm)
         have hdl4:q4.dl.length=mj.datas.length:=by rw[←hAj.out.dm,List.length_map]
         obtain⟨bD4,hDb4,hbl4,d0,d1,d2,d3,d4⟩:=ownK_at hAj.out.dr x (by rw[hdl4];exact hxm)
         have hda:=hAj.out.da _ (List.getElem_mem (by rw[hdl4];exact hxm:x<q4.dl.length))
         rw[kn_at hAj.out.dm _ (by rw[hdl4];exact hxm)]at d0 d1 d2 d3 hda
         obtain⟨Av,nv,cv,ev,_,_⟩:=id hda
         rw[ev]at d4 hda
         have HDa:=yH hda
         obtain⟨nd3,hnd3⟩: ∃y,q4.nd=y:=⟨_,rfl⟩
         have t144:wr.drew.cell? ⟨g,144,none⟩=some (.slice (some ⟨bD4,0,none⟩) nd3 q4.cd):=by rw[←hDb4,←hnd3];exact At.cd (At.drew hAj.out)
         have hx3:x<nd3:=by rw[←hnd3,←ownK_len hAj.out.dr,hdl4];exact hxm
         have hnd9':nd3≤200000:=by
          have h9:=u1.inv.dn
          have h9:mj.datas.length≤mj.b.length:=h9
          rw[←hnd3,←ownK_len hAj.out.dr,hdl4]
          omega
         clear hnd3 hdl4 hda ev hDb4
         have hkx:Mk.kn mj x=⟨(Mk.kn mj x).text,(Mk.kn mj x).at_,(Mk.kn mj x).slot,(Mk.kn mj x).count,(Mk.kn mj x).arrays⟩:=rfl
         have HKx:=yH hkx
         have hhi:Mk.hitched md.b.length mj x=if(Mk.kn mj x).count=0 then({mj with b:=put8 mj.b ((Mk.kn mj x).at_+40) (md.b.length:Nat)},(Mk.kn mj x).arrays)else((Mk.link mj (Mk.kn mj x).arrays ((Mk.kn mj x).count-1) ((Mk.kn mj x).at_+48) md.b.length).1,(Mk.link mj (Mk.kn mj x).arrays ((Mk.kn mj x).count-1) ((Mk.kn mj x).at_+48) md.b.length).2.1):=rfl
         clear hkx
         generalize (Mk.kn mj x).text=tx at*
         generalize (Mk.kn mj x).at_=ax at*
         generalize (Mk.kn mj x).slot=sx at*
         generalize (Mk.kn mj x).count=nx at*
         generalize (Mk.kn mj x).arrays=rx at*
         generalize hhit:Mk.hitched md.b.length mj x=hit at*
         obtain⟨m6h,rr6⟩:=hit
         have HHit:=yH hhit
         clear hhit
         dsimp only at h1 h2 h3 h4 h5 h6 h7 h8
         obtain⟨X,hX⟩: ∃X,T tx=X:=⟨_,rfl⟩
         have HTx:=yH hX
         rw[hX]at d0
         clear hX
         have HNxb:=yH (show nx≤200000 by omega)
         have f0:wr.drew.cell? ⟨bD4,x*5,none⟩=some (.string X):=d0
         have f1:wr.drew.cell? ⟨bD4,x*5+1,none⟩=some (.int .u64 (ax:Int)):=d1
         have f2:wr.drew.cell? ⟨bD4,x*5+2,none⟩=some (.int .i64 (sx:Int)):=d2
         have f3:wr.drew.cell? ⟨bD4,x*5+3,none⟩=some (.int .i64 (nx:Int)):=d3
         have f4:wr.drew.cell? ⟨bD4,x*5+4,none⟩=some (.slice Av nv cv):=d4
         have f5:wr.drew.cell? ⟨bw,j,none⟩=some (.int .i64 (x:Int)):=hwc
         have HSk:=yH fun(W:World) (hW:Below wr.heap.size wr W)=>show W.cell? ⟨g,144,none⟩=some (.slice (some ⟨bD4,0,none⟩) nd3 q4.cd)∧W.cell? ⟨bD4,x*5,none⟩=some (.string X)∧W.cell? ⟨bD4,x*5+1,none⟩=some (.int .u64 (ax:Int))∧W.cell? ⟨bD4,x*5+2,none⟩=some (.int .i64 (sx:Int))∧W.cell? ⟨bD4,x*5+3,none⟩=some (.int .i64 (nx:Int))∧W.cell? ⟨bD4,x*5+4,none⟩=some (.slice Av nv cv)∧W.cell? ⟨bw,j,none⟩=some (.int .i64 (x:Int))from
          ⟨(hW.cell (p:=⟨g,144,none⟩) hAj.out.st.st.lt).trans t144,(hW.cell (p:=⟨bD4,x*5,none⟩) hbl4).trans d0,(hW.cell (p:=⟨bD4,x*5+1,none⟩) hbl4).trans d1,(hW.cell (p:=⟨bD4,x*5+2,none⟩) hbl4).trans d2,(hW.cell (p:=⟨bD4,x*5+3,none⟩) hbl4).trans d3,(hW.cell (p:=⟨bD4,x*5+4,none⟩) hbl4).trans d4,(hW.cell (p:=⟨bw,j,none⟩) (bounds_of_cell hwc)).trans hwc⟩
         have b22:=yH (show Below wr.heap.size wr (wr.alloc (.cells #[.string {data:= #[]},.int .u64 0,.int .i64 0,.int .i64 0,.slice none 0 0] 197)).drew from((Below.refl _ _).alloc (yR _) _).drew)
         have bk:=yH (show Below wr.heap.size wr (wr.alloc (.cells #[.string X,.int .u64 (ax:Int),.int .i64 (sx:Int),.int .i64 (nx:Int),.slice Av nv cv] 197)).drew from((Below.refl _ _).alloc (yR _) _).drew)
         go_upto_region 34 with fail
         go_region_held3 (fun W=>W.cell? ⟨g,144,none⟩=some (.slice (some ⟨bD4,0,none⟩) nd3 q4.cd)∧W.cell? ⟨bD4,x*5,none⟩=some (.string X)∧W.cell? ⟨bD4,x*5+1,none⟩=some (.int .u64 (ax:Int))∧W.cell? ⟨bD4,x*5+2,none⟩=some (.int .i64 (sx:Int))∧W.cell? ⟨bD4,x*5+3,none⟩=some (.int .i64 (nx:Int))∧W.cell? ⟨bD4,x*5+4,none⟩=some (.slice Av nv cv)∧W.cell? ⟨bw,j,none⟩=some (.int .i64 (x:Int))) (first|(with_reducible exact⟨t144,f0,f1,f2,f3,f4,f5⟩)|(exact HSk.out _ b22.out)|(exact HSk.out _ bk.out)|go_keep) (fail)
         have RK:=yH (Blk.drew (Blk.new wr [.string X,.int .u64 (ax:Int),.int .i64 (sx:Int),.int .i64 (nx:Int),.slice Av nv cv] 197))
         generalize (wr.alloc (.cells #[.string X,.int .u64 (ax:Int),.int .i64 (sx:Int),.int .i64 (nx:Int),.slice Av nv cv] 197)).drew=wk at*
         obtain⟨KK,hKK⟩: ∃y,y=wr.heap.size:=⟨_,rfl⟩
         rw[←hKK]at RK⊢
         have HKf0:=yH (show ∀k',q4.foot g k'→k'≠KK from fun k' h e=>by have:=(At.lt hAj.out k' h).2;omega)
         have HKw:=yH (show w2.heap.size≤KK by rw[hKK];exact HPathJ.out.kept.size)
         have HKK:=yH hKK
         have HAk:=yH (At.below hAj.out bk.out)
         have HPk:=yH (HPathJ.out.below bk.out)
         have HArrk:=yH (arr_path HDa.out (Path.of_below (g:=g) (p:=q4) bk.out))
         have HWhoJ:=yH (HWhoJ0.out.below bk.out)
         clear t144 f0 f1 f2 f3 f4 f5 d0 d1 d2 d3 d4 hwc HSk b22 hKK
         have k3:=RK.out.cell (i:=3) rfl
         have k1':=RK.out.cell (i:=1) rfl
         have k4:=RK.out.cell (i:=4) rfl
         have z4:=RK.out.frozen 4
         have hnx2:=HNxb.out
         have hax:ax≤100000:=by omega
         rcases Nat.eq_zero_or_pos nx with hn0|hn0
         ·have hd0:((nx:Int)==0)=true:=by simp[hn0]
          have hh:=hhi
          rw[if_pos hn0]at hh
          obtain⟨hm6,hr6⟩:=Prod.mk.inj hh
          have HM6:=yH hm6
          have HR6:=yH hr6
          clear hh hhi hn0 hm6 hr6
          go_upto_region 38 with(first
           |(go_at_call 104;(refine(putS_any (ax+40) _ (by omega) _ _ HAk.out (by omega) (by omega)).mono ?_);rintro e w6h ⟨rfl,ha6,hp6⟩;have HA6x:=yH ha6;have HP6x:=yH hp6;clear ha6 hp6)
           |fail)
          have HA6h:=yH (show At w6h B g q4 m6h from by rw[HM6.out];exact HA6x.out)
          have HP6h:=yH (Path.trans (Path.of_below (g:=g) (p:=q4) bk.out) HP6x.out)
          have HKf:=yH (show ¬q4.foot g KK from fun h=>HKf0.out KK h rfl)
          have RK6:=yH (show Blk w6h KK [.string X,.int .u64 (ax:Int),.int .i64 (sx:Int),.int .i64 (nx:Int),.slice Av nv cv] 197 from(HP6x.out.kept.block KK RK.out.lt HKf.out).trans RK.out)
          have HArr6:=yH (show Arr w6h (q4.away B g) (.slice Av nv cv) rr6 from by rw[HR6.out];exact arr_path HArrk.out HP6x.out)
          have HDl6:=yH (show m6h.datas.length=mj.datas.length from congrArg List.length h5)
          clear k3 k1' k4 z4
          have RK6s:=yH (RK6.out.set_ 3 (.int .i64 ((nx:Int)+1)))
          have HA7s:=yH (At.setK HA6h.out RK6.out (HKf.out) 3 (.int .i64 ((nx:Int)+1)))
          have HP7s:=yH (Path.side HP6h.out (KeptF.set1 w6h KK 3 (.int .i64 ((nx:Int)+1))) (fun k' h1=>by rw[show k'=KK from h1,HKK.out];exact yR _))
          have HArr7s:=yH ((arr_text HArr6.out RK6.out).kept (KeptF.set1 w6h KK 3 (.int .i64 ((nx:Int)+1))) (fun b _ h1 h2=>h1 (.inr h2)) (fun b _ h1 h2=>h1 (.inl h2)))
          have r3:=RK6.out.cell (i:=3) rfl
          have rz3:=RK6.out.frozen 3
          have r1:=RK6.out.cell (i:=1) rfl
          have v1:=RK6s.out.cell (i:=1) rfl
          have v3:=RK6s.out.cell (i:=3) rfl
          have hnxb:nx≤200000:=HNxb.out
          have hl6h:ax+64≤m6h.b.length∧m6h.b.length≤90000:=⟨by omega,by omega⟩
          go_upto_region 40 with(first
           |(go_at_call 104;(refine(putS_any (ax+56) _ (by omega) _ _ HA7s.out (by omega) (by omega)).mono ?_);rintro e w8h ⟨rfl,ha8,hp8⟩;have HA8h:=yH ha8;have HP8h:=yH hp8;clear ha8 hp8)
           |fail)
          have RK8:=yH (show Blk w8h KK [.string X,.int .u64 (ax:Int),.int .i64 (sx:Int),.int .i64 ((nx:Int)+1),.slice Av nv cv] 197 from(HP8h.out.kept.block KK RK6s.out.lt HKf.out).trans RK6s.out)
          have HArr8:=yH (arr_path HArr7s.out HP8h.out)
          have HP8w:=yH (HP7s.out.trans HP8h.out)
          have hdl8:x<q4.dl.length:=by
           have e:=congrArg List.length HA8h.out.dm
           rw[List.length_map]at e
           have e:q4.dl.length=m6h.datas.length:=e
           rw[e,HDl6.out]
           exact HXm.out
          obtain⟨bD,hDb,hbl8,_,_,_,_,_⟩:=ownK_at (At.drew HA8h.out).dr x hdl8
          obtain⟨nd4,hnd4⟩: ∃y,q4.nd=y:=⟨_,rfl⟩
          have s0:w8h.drew.cell? ⟨g,144,none⟩=some (.slice (some ⟨bD,0,none⟩) nd4 q4.cd):=by rw[←hDb,←hnd4];exact At.cd (At.drew HA8h.out)
          have hx4:x<nd4:=by rw[←hnd4,←ownK_len HA8h.out.dr];exact hdl8
          clear hnd4
          obtain⟨bw',hbw',s1'⟩:=own_int (HWhoJ0.out.path HP8w.out).own j (by rw[HWl.out];exact hlt)
          injection hbw' with hbw'
          injection hbw' with hbw'
          subst hbw'
          rw[HXe.out]at s1'
          have s1:w8h.drew.cell? ⟨bw,j,none⟩=some (.int .i64 (x:Int)):=s1'
          have s2:w8h.drew.cell? ⟨KK,0,none⟩=some (.string X):=RK8.out.cell (i:=0) rfl
          have s3:w8h.drew.cell? ⟨KK,1,none⟩=some (.int .u64 (ax:Int)):=RK8.out.cell (i:=1) rfl
          have s4:w8h.drew.cell? ⟨KK,2,none⟩=some (.int .i64 (sx:Int)):=RK8.out.cell (i:=2) rfl
          have s5:w8h.drew.cell? ⟨KK,3,none⟩=some (.int .i64 ((nx:Int)+1)):=RK8.out.cell (i:=3) rfl
          have s6:w8h.drew.cell? ⟨KK,4,none⟩=some (.slice Av nv cv):=RK8.out.cell (i:=4) rfl
          have HTh:=yH (own_there (hDb▸(At.drew HA8h.out).dr) x (by rw[ownK_len HA8h.out.dr]at hdl8;exact hdl8))
          have hknc:knC ⟨tx,ax,sx,nx+1,rr6⟩ (.slice Av nv cv)=[.string X,.int .u64 (ax:Int),.int .i64 (sx:Int),.int .i64 ((nx:Int)+1),.slice Av nv cv]:=by unfold knC;rw[HTx.out];rfl
          have HX9:=At.setD (At.drew HA8h.out) x hdl8 bD hDb ⟨tx,ax,sx,nx+1,rr6⟩ (.slice Av nv cv) (show Arr w8h.drew (Pl.away q4 B g) _ rr6 from HArr8.out)
          rw[hknc]at HX9
          have HA9h:=yH HX9.1
          have HP9h:=yH (HP8w.out.drew.trans HX9.2)
          have hbDf:q4.foot g bD:= .inr (.inr (.inl (by rw[hDb];rfl)))
          have HS9:=yH (show(fun W:World=>W.cell? ⟨g,144,none⟩=some (.slice (some ⟨bD,0,none⟩) nd4 q4.cd)∧W.cell? ⟨bw,j,none⟩=some (.int .i64 (x:Int))∧W.cell? ⟨KK,0,none⟩=some (.string X)∧W.cell? ⟨KK,1,none⟩=some (.int .u64 (ax:Int))∧W.cell? ⟨KK,2,none⟩=some (.int .i64 (sx:Int))∧W.cell? ⟨KK,3,none⟩=some (.int .i64 ((nx:Int)+1))∧W.cell? ⟨KK,4,none⟩=some (.slice Av nv cv)) (w8h.drew.setCells bD (x*5) [.string X,.int .u64 (ax:Int),.int .i64 (sx:Int),.int .i64 ((nx:Int)+1),.slice Av nv cv])from by
           have hb9: ∀k',k'<w8h.heap.size→k'≠bD→ ∀o,(w8h.drew.setCells bD (x*5) [.string X,.int .u64 (ax:Int),.int .i64 (sx:Int),.int .i64 ((nx:Int)+1),.slice Av nv cv]).cell? ⟨k',o,none⟩=w8h.drew.cell? ⟨k',o,none⟩:=fun k' h1 h2 o=>World.cell?_setCells_out bD _ _ _ _ (fun h3=>absurd h3 h2)
           have hKb:KK≠bD:=fun e=>HKf.out (e▸hbDf)
           have hgb:g≠bD:=fun e=>(HA8h.out.dg bD (by rw[hDb];rfl)).1 e.symm
           have hwb:bw≠bD:=fun e=>(HWhoJ0.out.path HP8w.out).off bw rfl (e▸hbDf)
           have hKl:=RK8.out.lt
           have hgl:=HA8h.out.st.st.lt
           have hwl:=bounds_of_cell s1'
           exact⟨(hb9 g hgl hgb _).trans s0,(hb9 bw hwl hwb _).trans s1,(hb9 KK hKl hKb _).trans s2,(hb9 KK hKl hKb _).trans s3,(hb9 KK hKl hKb _).trans s4,(hb9 KK hKl hKb _).trans s5,(hb9 KK hKl hKb _).trans s6⟩)
          clear HX9 s1' r1 r3 rz3 v1 v3
          refine wp_region_noPanic ?_
          refine wp_region_held_drew (S:=fun W:World=>W.cell? ⟨g,144,none⟩=some (.slice (some ⟨bD,0,none⟩) nd4 q4.cd)∧W.cell? ⟨bw,j,none⟩=some (.int .i64 (x:Int))∧W.cell? ⟨KK,0,none⟩=some (.string X)∧W.cell? ⟨KK,1,none⟩=some (.int .u64 (ax:Int))∧W.cell? ⟨KK,2,none⟩=some (.int .i64 (sx:Int))∧W.cell? ⟨KK,3,none⟩=some (.int .i64 ((nx:Int)+1))∧W.cell? ⟨KK,4,none⟩=some (.slice Av nv cv)) (by kernel_rfl) (by exact⟨s0,s1,s2,s3,s4,s5,s6⟩) (fun hHeld=>?_)
          refine tk (i:=0) (oi:=⟨some 264,_,_,_,_,_⟩) (v:=?_) rfl (Or.inl ⟨by rfl,?_⟩) ?_
          rotate_left
          ·intro W hSw;go_simp;try (with_reducible rfl)
          try simp only[Act.put,sA,sZ,sS]
          refine tk (i:=1) (oi:=⟨some 265,_,_,_,_,_⟩) (v:=?_) rfl (Or.inl ⟨by rfl,?_⟩) ?_
          rotate_left
          ·intro W hSw;go_simp;try (with_reducible rfl)
          try simp only[Act.put,sA,sZ,sS]
          refine tk (i:=2) (oi:=⟨some 266,_,_,_,_,_⟩) (v:=?_) rfl (Or.inl ⟨by rfl,?_⟩) ?_
          rotate_left
          ·intro W hSw;go_simp;try (with_reducible rfl)
          try simp only[Act.put,sA,sZ,sS]
          refine tk (i:=3) (oi:=⟨some 267,_,_,_,_,_⟩) (v:=?_) rfl (Or.inl ⟨by rfl,?_⟩) ?_
          rotate_left
          ·intro W hSw;have hSx:=hSw.1;go_simp;try (with_reducible rfl)
          try simp only[Act.put,sA,sZ,sS]
          refine tk (i:=4) (oi:=⟨some 268,_,_,_,_,_⟩) (v:=?_) rfl (Or.inl ⟨by rfl,?_⟩) ?_
          rotate_left
          ·intro W hSw;go_simp;try (with_reducible rfl)
          try simp only[Act.put,sA,sZ,sS]
          refine tk (i:=5) (oi:=⟨some 269,_,_,_,_,_⟩) (v:=?_) rfl (Or.inl ⟨by rfl,?_⟩) ?_
          rotate_left
          ·intro W hSw;go_simp;try (with_reducible rfl)
          try simp only[Act.put,sA,sZ,sS]
          refine tk (i:=6) (oi:=⟨some 270,_,_,_,_,_⟩) (v:=?_) rfl (Or.inl ⟨by rfl,?_⟩) ?_
          rotate_left
          ·intro W hSw;go_simp;try (with_reducible rfl)
          try simp only[Act.put,sA,sZ,sS]
          refine tk (i:=7) (oi:=⟨some 271,_,_,_,_,_⟩) (v:=?_) rfl (Or.inl ⟨by rfl,?_⟩) ?_
          rotate_left
          ·intro W hSw;have hSx:=hSw.2.1;go_simp;try (with_reducible rfl)
          try simp only[Act.put,sA,sZ,sS]
          refine tk (i:=8) (oi:=⟨some 272,_,_,_,_,_⟩) (v:=?_) rfl (Or.inl ⟨by rfl,?_⟩) ?_
          rotate_left
          ·intro W hSw;have hSx:=hSw;go_simp;try (with_reducible rfl)
          try simp only[Act.put,sA,sZ,sS]
          refine tk (i:=9) (oi:=⟨some 273,_,_,_,_,_⟩) (v:=?_) rfl (Or.inl ⟨by rfl,?_⟩) ?_
          rotate_left
          ·intro W hSw;go_simp;try (with_reducible rfl)
          try simp only[Act.put,sA,sZ,sS]
          refine wpAnyH_ready (rs:=[10]) (by kernel_rfl) (by simp) ?_
          refine AllReadyH.cons (o:=⟨none,_,_,_,_,_⟩) rfl (fun K hK=>?_) AllReadyH.nil
          refine step_store_mid (o:=⟨none,_,_,_,_,_⟩) rfl 197 (.tmp 273) (.tmp 272) rfl bD (x*5) #[.string X,.int .u64 (ax:Int),.int .i64 (sx:Int),.int .i64 ((nx:Int)+1),.slice Av nv cv] rfl rfl HTh.out knI (by simp[Value.oneCell']) ?_
          refine hK.out _ _ (by exact HS9.out) (fun hHeld=>?_)
          clear hK K
          try simp only[Act.put,sA,sZ,sS]
          refine wpAnyH_done (by kernel_rfl) ?_ _
          refine NoPanic.normal ?_
          try go_wp2_with fail
          go_roundw
          case measure=>simp[intOf];omega
          case rel=>
           refine⟨j+1,{q4 with dl:=q4.dl.set x (⟨tx,ax,sx,nx+1,rr6⟩,.slice Av nv cv)},by omega,by go_num,yH ?_,yH (HPathJ.out.trans HP9h.out),yH ?_⟩
           ·rw[HStep.out,mark_is,HHit.out,HKx.out]
            exact HA9h.out
           ·exact HWhoJ0.out.path HP9h.out
         ·have hd0:((nx:Int)==0)=false:=by simp;omega
          have hh:=hhi
          rw[if_neg (by omega)]at hh
          obtain⟨hm6,hr6⟩:=Prod.mk.inj hh
          have HM6:=yH hm6
          have HR6:=yH hr6
          have HLkA:=yH fun(z:Int) (hz:z=((nx-1:Nat):Int))=>show Calls Tryz.prog 103 #[.pointer (some ⟨g,0,none⟩),.slice Av nv cv,.int .i64 z,.int .u64 ((ax+48:Nat):Int),.int .u64 (md.b.length:Int)] wk (Linked B g q4 (Mk.link mj rx (nx-1) (ax+48) md.b.length) wk)from by
           subst hz
           exact link_any Av nv cv rx (nx-1) (ax+48) md.b.length wk HAk.out (by omega) (show 0≤mj.h.N 7∧mj.h.N 7≤1000000 by have h:=u1.inv.n7;have h:0≤mj.h.N 7∧mj.h.N 7≤(mj.b.length:Int):=h;omega) (show 0≤mj.h.N 18∧mj.h.N 18≤1000000 by have h:=u1.inv.n18;have h:0≤mj.h.N 18∧mj.h.N 18≤(mj.b.length:Int):=h;omega) HArrk.out e4 (by omega) (by omega) (by omega) (by omega)
          unfold Linked at HLkA
          clear hh hhi hm6 hr6
          go_upto_region 38 with(first
           |(go_at_call 103;(refine(HLkA.out _ (by omega)).mono ?_);rintro e wl ⟨_,q8,rfl,⟨A7,n7,c7,rfl,hl7,hq7⟩,hal,hpl⟩;have HArl:=yH (show Arr wl (Pl.away q8 B g) (.slice A7 n7 c7) rr6 from HR6.out▸⟨A7,n7,c7,rfl,hl7,hq7⟩);have HAl:=yH (show At wl B g q8 m6h from HM6.out▸hal);have HPl:=yH hpl;have HKf:=yH (show ¬q8.foot g KK from fun h=>(hpl.foot KK h).elim (fun h=>HKf0.out KK h rfl) (fun h=>absurd RK.out.lt (by omega)));have RKl:=yH (show Blk wl KK [.string X,.int .u64 (ax:Int),.int .i64 (sx:Int),.int .i64 (nx:Int),.slice Av nv cv] 197 from(hpl.kept.block KK RK.out.lt (fun h=>HKf0.out KK h rfl)).trans RK.out);have l4:=RKl.out.cell (i:=4) rfl;have lz4:=RKl.out.frozen 4;clear hl7 hq7 hal hpl)
           |fail)
          have RK6:=yH (show Blk (wl.setCell ⟨KK,4,none⟩ (.slice A7 n7 c7)) KK [.string X,.int .u64 (ax:Int),.int .i64 (sx:Int),.int .i64 (nx:Int),.slice A7 n7 c7] 197 from RKl.out.set_ 4 (.slice A7 n7 c7))
          have HA6h:=yH (At.setK HAl.out RKl.out HKf.out 4 (.slice A7 n7 c7))
          have HP6h:=yH (Path.side (Path.trans (Path.of_below (g:=g) (p:=q4) bk.out) HPl.out) (KeptF.set1 wl KK 4 (.slice A7 n7 c7)) (fun k' h1=>by rw[show k'=KK from h1,HKK.out];exact yR _))
          have HArr6:=yH ((arr_text HArl.out RKl.out).kept (KeptF.set1 wl KK 4 (.slice A7 n7 c7)) (fun b _ h1 h2=>h1 (.inr h2)) (fun b _ h1 h2=>h1 (.inl h2)))
          have HDl6:=yH (show m6h.datas.length=mj.datas.length from congrArg List.length h5)
          generalize wl.setCell ⟨KK,4,none⟩ (.slice A7 n7 c7)=w6h at*
          clear k3 k1' k4 z4 l4 lz4
          have RK6s:=yH (RK6.out.set_ 3 (.int .i64 ((nx:Int)+1)))
          have HA7s:=yH (At.setK HA6h.out RK6.out (HKf.out) 3 (.int .i64 ((nx:Int)+1)))
          have HP7s:=yH (Path.side HP6h.out (KeptF.set1 w6h KK 3 (.int .i64 ((nx:Int)+1))) (fun k' h1=>by rw[show k'=KK from h1,HKK.out];exact yR _))
          have HArr7s:=yH ((arr_text HArr6.out RK6.out).kept (KeptF.set1 w6h KK 3 (.int .i64 ((nx:Int)+1))) (fun b _ h1 h2=>h1 (.inr h2)) (fun b _ h1 h2=>h1 (.inl h2)))
          have r3:=RK6.out.cell (i:=3) rfl
          have rz3:=RK6.out.frozen 3
          have r1:=RK6.out.cell (i:=1) rfl
          have v1:=RK6s.out.cell (i:=1) rfl
          have v3:=RK6s.out.cell (i:=3) rfl
          have hnxb:nx≤200000:=HNxb.out
          have hl6h:ax+64≤m6h.b.length∧m6h.b.length≤90000:=⟨by omega,by omega⟩
          go_upto_region 40 with(first
           |(go_at_call 104;(refine(putS_any (ax+56) _ (by omega) _ _ HA7s.out (by omega) (by omega)).mono ?_);rintro e w8h ⟨rfl,ha8,hp8⟩;have HA8h:=yH ha8;have HP8h:=yH hp8;clear ha8 hp8)
           |fail)
          have RK8:=yH (show Blk w8h KK [.string X,.int .u64 (ax:Int),.int .i64 (sx:Int),.int .i64 ((nx:Int)+1),.slice A7 n7 c7] 197 from(HP8h.out.kept.block KK RK6s.out.lt HKf.out).trans RK6s.out)
          have HArr8:=yH (arr_path HArr7s.out HP8h.out)
          have HP8w:=yH (HP7s.out.trans HP8h.out)
          have hdl8:x<q8.dl.length:=by
           have e:=congrArg List.length HA8h.out.dm
           rw[List.length_map]at e
           have e:q8.dl.length=m6h.datas.length:=e
           rw[e,HDl6.out]
           exact HXm.out
          obtain⟨bD,hDb,hbl8,_,_,_,_,_⟩:=ownK_at (At.drew HA8h.out).dr x hdl8
          obtain⟨nd4,hnd4⟩: ∃y,q8.nd=y:=⟨_,rfl⟩
          have s0:w8h.drew.cell? ⟨g,144,none⟩=some (.slice (some ⟨bD,0,none⟩) nd4 q8.cd):=by rw[←hDb,←hnd4];exact At.cd (At.drew HA8h.out)
          have hx4:x<nd4:=by rw[←hnd4,←ownK_len HA8h.out.dr];exact hdl8
          clear hnd4
          obtain⟨bw',hbw',s1'⟩:=own_int (HWhoJ0.out.path HP8w.out).own j (by rw[HWl.out];exact hlt)
          injection hbw' with hbw'
          injection hbw' with hbw'
          subst hbw'
          rw[HXe.out]at s1'
          have s1:w8h.drew.cell? ⟨bw,j,none⟩=some (.int .i64 (x:Int)):=s1'
          have s2:w8h.drew.cell? ⟨KK,0,none⟩=some (.string X):=RK8.out.cell (i:=0) rfl
          have s3:w8h.drew.cell? ⟨KK,1,none⟩=some (.int .u64 (ax:Int)):=RK8.out.cell (i:=1) rfl
          have s4:w8h.drew.cell? ⟨KK,2,none⟩=some (.int .i64 (sx:Int)):=RK8.out.cell (i:=2) rfl
          have s5:w8h.drew.cell? ⟨KK,3,none⟩=some (.int .i64 ((nx:Int)+1)):=RK8.out.cell (i:=3) rfl
          have s6:w8h.drew.cell? ⟨KK,4,none⟩=some (.slice A7 n7 c7):=RK8.out.cell (i:=4) rfl
          have HTh:=yH (own_there (hDb▸(At.drew HA8h.out).dr) x (by rw[ownK_len HA8h.out.dr]at hdl8;exact hdl8))
          have hknc:knC ⟨tx,ax,sx,nx+1,rr6⟩ (.slice A7 n7 c7)=[.string X,.int .u64 (ax:Int),.int .i64 (sx:Int),.int .i64 ((nx:Int)+1),.slice A7 n7 c7]:=by unfold knC;rw[HTx.out];rfl
          have HX9:=At.setD (At.drew HA8h.out) x hdl8 bD hDb ⟨tx,ax,sx,nx+1,rr6⟩ (.slice A7 n7 c7) (show Arr w8h.drew (Pl.away q8 B g) _ rr6 from HArr8.out)
          rw[hknc]at HX9
          have HA9h:=yH HX9.1
          have HP9h:=yH (HP8w.out.drew.trans HX9.2)
          have hbDf:q8.foot g bD:= .inr (.inr (.inl (by rw[hDb];rfl)))
          have HS9:=yH (show(fun W:World=>W.cell? ⟨g,144,none⟩=some (.slice (some ⟨bD,0,none⟩) nd4 q8.cd)∧W.cell? ⟨bw,j,none⟩=some (.int .i64 (x:Int))∧W.cell? ⟨KK,0,none⟩=some (.string X)∧W.cell? ⟨KK,1,none⟩=some (.int .u64 (ax:Int))∧W.cell? ⟨KK,2,none⟩=some (.int .i64 (sx:Int))∧W.cell? ⟨KK,3,none⟩=some (.int .i64 ((nx:Int)+1))∧W.cell? ⟨KK,4,none⟩=some (.slice A7 n7 c7)) (w8h.drew.setCells bD (x*5) [.string X,.int .u64 (ax:Int),.int .i64 (sx:Int),.int .i64 ((nx:Int)+1),.slice A7 n7 c7])from by
           have hb9: ∀k',k'<w8h.heap.size→k'≠bD→ ∀o,(w8h.drew.setCells bD (x*5) [.string X,.int .u64 (ax:Int),.int .i64 (sx:Int),.int .i64 ((nx:Int)+1),.slice A7 n7 c7]).cell? ⟨k',o,none⟩=w8h.drew.cell? ⟨k',o,none⟩:=fun k' h1 h2 o=>World.cell?_setCells_out bD _ _ _ _ (fun h3=>absurd h3 h2)
           have hKb:KK≠bD:=fun e=>HKf.out (e▸hbDf)
           have hgb:g≠bD:=fun e=>(HA8h.out.dg bD (by rw[hDb];rfl)).1 e.symm
           have hwb:bw≠bD:=fun e=>(HWhoJ0.out.path HP8w.out).off bw rfl (e▸hbDf)
           have hKl:=RK8.out.lt
           have hgl:=HA8h.out.st.st.lt
           have hwl:=bounds_of_cell s1'
           exact⟨(hb9 g hgl hgb _).trans s0,(hb9 bw hwl hwb _).trans s1,(hb9 KK hKl hKb _).trans s2,(hb9 KK hKl hKb _).trans s3,(hb9 KK hKl hKb _).trans s4,(hb9 KK hKl hKb _).trans s5,(hb9 KK hKl hKb _).trans s6⟩)
          clear HX9 s1' r1 r3 rz3 v1 v3
          refine wp_region_noPanic ?_
          refine wp_region_held_drew (S:=fun W:World=>W.cell? ⟨g,144,none⟩=some (.slice (some ⟨bD,0,none⟩) nd4 q8.cd)∧W.cell? ⟨bw,j,none⟩=some (.int .i64 (x:Int))∧W.cell? ⟨KK,0,none⟩=some (.string X)∧W.cell? ⟨KK,1,none⟩=some (.int .u64 (ax:Int))∧W.cell? ⟨KK,2,none⟩=some (.int .i64 (sx:Int))∧W.cell? ⟨KK,3,none⟩=some (.int .i64 ((nx:Int)+1))∧W.cell? ⟨KK,4,none⟩=some (.slice A7 n7 c7)) (by kernel_rfl) (by exact⟨s0,s1,s2,s3,s4,s5,s6⟩) (fun hHeld=>?_)
          refine tk (i:=0) (oi:=⟨some 264,_,_,_,_,_⟩) (v:=?_) rfl (Or.inl ⟨by rfl,?_⟩) ?_
          rotate_left
          ·intro W hSw;go_simp;try (with_reducible rfl)
          try simp only[Act.put,sA,sZ,sS]
          refine tk (i:=1) (oi:=⟨some 265,_,_,_,_,_⟩) (v:=?_) rfl (Or.inl ⟨by rfl,?_⟩) ?_
          rotate_left
          ·intro W hSw;go_simp;try (with_reducible rfl)
          try simp only[Act.put,sA,sZ,sS]
          refine tk (i:=2) (oi:=⟨some 266,_,_,_,_,_⟩) (v:=?_) rfl (Or.inl ⟨by rfl,?_⟩) ?_
          rotate_left
          ·intro W hSw;go_simp;try (with_reducible rfl)
          try simp only[Act.put,sA,sZ,sS]
          refine tk (i:=3) (oi:=⟨some 267,_,_,_,_,_⟩) (v:=?_) rfl (Or.inl ⟨by rfl,?_⟩) ?_
          rotate_left
          ·intro W hSw;have hSx:=hSw.1;go_simp;try (with_reducible rfl)
          try simp only[Act.put,sA,sZ,sS]
          refine tk (i:=4) (oi:=⟨some 268,_,_,_,_,_⟩) (v:=?_) rfl (Or.inl ⟨by rfl,?_⟩) ?_
          rotate_left
          ·intro W hSw;go_simp;try (with_reducible rfl)
          try simp only[Act.put,sA,sZ,sS]
          refine tk (i:=5) (oi:=⟨some 269,_,_,_,_,_⟩) (v:=?_) rfl (Or.inl ⟨by rfl,?_⟩) ?_
          rotate_left
          ·intro W hSw;go_simp;try (with_reducible rfl)
          try simp only[Act.put,sA,sZ,sS]
          refine tk (i:=6) (oi:=⟨some 270,_,_,_,_,_⟩) (v:=?_) rfl (Or.inl ⟨by rfl,?_⟩) ?_
          rotate_left
          ·intro W hSw;go_simp;try (with_reducible rfl)
          try simp only[Act.put,sA,sZ,sS]
          refine tk (i:=7) (oi:=⟨some 271,_,_,_,_,_⟩) (v:=?_) rfl (Or.inl ⟨by rfl,?_⟩) ?_
          rotate_left
          ·intro W hSw;have hSx:=hSw.2.1;go_simp;try (with_reducible rfl)
          try simp only[Act.put,sA,sZ,sS]
          refine tk (i:=8) (oi:=⟨some 272,_,_,_,_,_⟩) (v:=?_) rfl (Or.inl ⟨by rfl,?_⟩) ?_
          rotate_left
          ·intro W hSw;have hSx:=hSw;go_simp;try (with_reducible rfl)
          try simp only[Act.put,sA,sZ,sS]
          refine tk (i:=9) (oi:=⟨some 273,_,_,_,_,_⟩) (v:=?_) rfl (Or.inl ⟨by rfl,?_⟩) ?_
          rotate_left
          ·intro W hSw;go_simp;try (with_reducible rfl)
          try simp only[Act.put,sA,sZ,sS]
          refine wpAnyH_ready (rs:=[10]) (by kernel_rfl) (by simp) ?_
          refine AllReadyH.cons (o:=⟨none,_,_,_,_,_⟩) rfl (fun K hK=>?_) AllReadyH.nil
          refine step_store_mid (o:=⟨none,_,_,_,_,_⟩) rfl 197 (.tmp 273) (.tmp 272) rfl bD (x*5) #[.string X,.int .u64 (ax:Int),.int .i64 (sx:Int),.int .i64 ((nx:Int)+1),.slice A7 n7 c7] rfl rfl HTh.out knI (by simp[Value.oneCell']) ?_
          refine hK.out _ _ (by exact HS9.out) (fun hHeld=>?_)
          clear hK K
          try simp only[Act.put,sA,sZ,sS]
          refine wpAnyH_done (by kernel_rfl) ?_ _
          refine NoPanic.normal ?_
          try go_wp2_with fail
          go_roundw
          case measure=>simp[intOf];omega
          case rel=>
           refine⟨j+1,{q8 with dl:=q8.dl.set x (⟨tx,ax,sx,nx+1,rr6⟩,.slice A7 n7 c7)},by omega,by go_num,yH ?_,yH (HPathJ.out.trans HP9h.out),yH ?_⟩
           ·rw[HStep.out,mark_is,HHit.out,HKx.out]
            exact HA9h.out
           ·exact HWhoJ0.out.path HP9h.out
        ·obtain rfl:j=i:=by omega
         obtain⟨u1,u2,u3,u4,u5,u6,u7⟩:=HMA.out j (by rw[HWl.out];exact yR _)
         have htk:who.take j=who:=List.take_of_length_le (by rw[HWl.out];exact yR _)
         have hAf:=hAj.out
         rw[htk]at u3 u5 u7 hAf
         have hn8m:m.h.N 8=(n8:Int):=HI5.out.n8.symm.trans HN8.out
         have hn8t:(m.h.N 8).toNat=n8:=by rw[hn8m];exact Int.toNat_natCast n8
         have HGr:=yH (show Mk.grown m L real mono K=Mk.markAll md.b.length mL who from by
          unfold Mk.grown
          rw[HDk.out]
          dsimp only
          rw[HS9.out,HSq.out,←HEo.out,hn8t,HmL.out])
         have HN8t:=yH hn8t
         clear hn8t hn8m htk u1 u2 u4 u6
         generalize Mk.markAll md.b.length mL who=mf at*
         have HAf:=yH hAf
         have hmfb:mf.b.length≤80000:=by omega
         have hmfC:mf.C=m.C:=u5.trans (HG5.out.trans HI5.out.C)
         have HN8f0:=yH (show mf.h.N 8=(n8:Int)from u7.trans (HG7.out.trans HN8.out))
         have y143:wr.cell? ⟨g,143,none⟩=some (.slice (some ⟨q4.bb,0,none⟩) mf.b.length q4.cb):=At.cb HAf.out
         have y50:wr.cell? ⟨g,50,none⟩=some (.int .i64 (m.C.most:Int)):=hmfC▸HAf.out.st.st.cell (Mk.get_most _ _)
         have HP0:=yH ((Path.of_below (g:=g) (p:=p) HB1.out).below HBo.out)
         have idJ':(Tryz.prog.info? 37).map (·.size)=some (idE K).toArray.size:=by kernel_rfl
         clear hAf u3 u5 u7 hmfC
         have HL9:=yH (show listL raw=L from HLraw.out)
         obtain⟨mfl,hmfl⟩: ∃y,mf.b.length=y:=⟨_,rfl⟩
         have HMfl:=yH hmfl
         rw[hmfl]at y143 hmfb
         clear hmfl
         try clear HAll
         try clear HPr
         try clear HOk
         try clear HLow
         try clear HPath
         try clear HWho
         try clear HPay
         try clear HPays
         try clear HI1
         try clear HI3
         try clear HI5B
         try clear HWl
         try clear HfA
         try clear HhA
         try clear HKn
         try clear HWx
         try clear HNd
         try clear HNd5
         try clear HDlm
         try clear hO9
         try clear hB9
         try clear HAB
         try clear HPathB
         try clear HWhoB
         try clear HPayB
         try clear HPaysB
         try clear HHb
         try clear HIn
         try clear HAo2
         try clear HRB
         try clear HTlB
         try clear HXo
         try clear HXs
         try clear HPe
         try clear HSr
         try clear HSr5
         try clear HO4
         try clear HB4
         try clear HA4
         try clear HA5
         try clear HP5
         try clear HS5
         try clear HAr5
         try clear HCh
         try clear HLk
         try clear HK1
         try clear HK2
         try clear HK5
         try clear HK8
         try clear HK10
         try clear HPath5
         try clear HQ5
         try clear HAr6
         try clear HA6
         try clear HP6
         try clear HA7
         try clear HP7
         try clear HQ7
         try clear HL6
         try clear HF6
         try clear HLL6
         try clear HA8
         try clear HP8
         try clear HQ8
         try clear HA9
         try clear HP9
         try clear HQ9
         try clear HMA
         try clear HWho9
         try clear HAt
         try clear HLk
         try clear hM0
         try clear HWhoJ0
         try clear HG4
         try clear HG5
         try clear HG7
         try clear HHeld
         try clear hHeld
         try clear hdlm
         try clear hxl
         try clear hel
         try clear hfq
         try clear HP1
         try clear HQ1
         try clear HA2
         try clear HA1
         try clear HI
         by_cases hfull:m.C.most<mfl
         ·have d1:decide ((m.C.most:Int)<(mfl:Int))=true:=by simp;omega
          have HAc:=yH (show Mk.acode m raw real mono K=15 from by
           unfold Mk.acode
           rw[HLX.out,if_neg (by simp),HS9.out,if_neg HT.out,HL9.out,HGr.out,HMfl.out,if_pos hfull])
          have HAo9:=yH (At.drew (At.offB HAo.out HPathJ.out.kept (fun k' hk'=>by have:=hfl k' hk';have:=HB1.out.size;omega)))
          have hone:(Mk.cells m {po.S with b:= .slice (some ⟨po.bb,0,none⟩) m.b.length po.cb}).toArray.all (·.oneCell')=true:=by
           obtain⟨Ao,no,co,eo',_,_⟩:=HAo.out.ma
           exact mk_one _ _ rfl rfl rfl (by show po.M.oneCell'=true;rw[eo'];rfl)
          have HOl:=yH (show wr.drew.heap[g]? =some (.cells _ 168 (0,0))from(At.drew HAf.out).st.st)
          have hsz:(Mk.cells mf {q4.S with b:= .slice (some ⟨q4.bb,0,none⟩) mf.b.length q4.cb}).toArray.size=(Mk.cells m {po.S with b:= .slice (some ⟨po.bb,0,none⟩) m.b.length po.cb}).toArray.size:=by simp[Mk.len]
          go_upto_region 41 with fail
          go_region
          go_upto_region 43 with(first
           |((with_reducible apply at_slot 288);refine wpList_load_row rfl 168 (.tmp 287) rfl w1.heap.size rfl 168 (Mk.cells m {po.S with b:= .slice (some ⟨po.bb,0,none⟩) m.b.length po.cb}).toArray (0,0) _ HAo9.out.st.st Tryz.underlying168 rfl (mcells_info _ _) ?_)
           |((with_reducible apply at_store (.tmp 289) (.tmp 288));refine wpList_store_row rfl 168 (.tmp 289) (.tmp 288) rfl g (Mk.cells m {po.S with b:= .slice (some ⟨po.bb,0,none⟩) m.b.length po.cb}).toArray rfl rfl 168 _ HOl.out (mcells_info _ _) hsz hone ?_)
           |fail)
          have HRes:=yH (At.restore HAo9.out _ HOl.out HAf.out.gB (by have h1:=hfl g (.inl rfl);have h2:=HB1.out.size;omega))
          have HPr9:=yH (show Path g p w po _ from⟨fun k' hk'=>by
           rcases hk' with h1|h1
           ·exact .inl (.inl h1)
           ·right
            have h2:=(At.lt HAo.out k' (.inr h1)).1
            have h3:=HB1.out.size
            omega,((HP0.out.trans HPathJ.out).kept.drew).trans (keptF_setRow wr.drew g (Mk.cells m {po.S with b:= .slice (some ⟨po.bb,0,none⟩) m.b.length po.cb}).toArray) (fun k' _ h1=> .inl h1)⟩)
          clear d1 y143 y50
          go_wp2
          go_ret2
          exact appended_no HAc.out (by decide) ⟨po,HRes.out,HPr9.out⟩
         ·have d1:decide ((m.C.most:Int)<(mfl:Int))=false:=by simp;omega
          have HAc:=yH (show Mk.acode m raw real mono K=0 from by
           unfold Mk.acode
           rw[HLX.out,if_neg (by simp),HS9.out,if_neg HT.out,HL9.out,HGr.out,HMfl.out,if_neg hfull])
          have HEnt:=yH (show Mk.entered m (listL raw) real mono K=Mk.told mf n8 sq real mono K md.b.length from by
           unfold Mk.entered
           rw[HL9.out,HGr.out,HN8t.out,HS9.out,HSq.out,HDk.out])
          go_upto_region 41 with fail
          go_region
          have HF0:=yH (At.drew HAf.out)
          have HR0:=yH HPathJ.out.drew
          generalize wr.drew=wf0 at*
          clear d1 y143 y50
          rcases Nat.eq_zero_or_pos n8 with hz|hz
          ·have hz0:((n8:Int)==0)=true:=by simp[hz]
           have HZ:=yH hz
           clear hz
           have HFd:=At.drew (At.flat HF0.out)
           have y129:=At.cN HFd 10 129 (by decide) rfl
           have z129:=At.fz HFd 129
           have HFd1:=At.drew (At.setNh _ (At.flat HF0.out) 10 129 (by decide) rfl sq)
           have y131:=At.cN HFd1 12 131 (by decide) rfl
           have z131:=At.fz HFd1 131
           obtain⟨hd1,ehd1⟩: ∃y,y=setN (setN mf.h 10 sq) 12 real:=⟨_,rfl⟩
           have HF1:=yH (show At ((wf0.setCell ⟨g,129,none⟩ (.int .u64 sq)).setCell ⟨g,131,none⟩ (.int .u64 real)).drew B g q4 {mf with h:=hd1}from by rw[ehd1];exact At.drew (At.setNh _ (At.setNh _ (At.flat HF0.out) 10 129 (by decide) rfl sq) 12 131 (by decide) rfl real))
           have HHd:=yH ehd1
           have HN8d:=yH (show hd1.N 8=(n8:Int)from by rw[ehd1];exact HN8f0.out)
           clear ehd1
           have HR1:=yH (((HR0.out.set 129 (.int .u64 sq)).set 131 (.int .u64 real)).drew)
           clear HFd HFd1
           go_upto_region 45 with fail
           refine wp_region_noPanic ?_
           refine wp_region_held_drew (S:=fun _:World=>True) (by kernel_rfl) trivial (fun hHeld=>?_)
           refine tk (i:=0) (oi:=⟨some 292,_,_,_,_,_⟩) (v:=?_) rfl (Or.inl ⟨by rfl,?_⟩) ?_
           rotate_left
           ·intro W hSw;go_simp;try (with_reducible rfl)
           try simp only[Act.put,sA,sZ,sS]
           refine tk (i:=1) (oi:=⟨some 293,_,_,_,_,_⟩) (v:=?_) rfl (Or.inl ⟨by rfl,?_⟩) ?_
           rotate_left
           ·intro W hSw;go_simp;try (with_reducible rfl)
           try simp only[Act.put,sA,sZ,sS]
           refine tk (i:=2) (oi:=⟨some 294,_,_,_,_,_⟩) (v:=?_) rfl (Or.inl ⟨by rfl,?_⟩) ?_
           rotate_left
           ·intro W hSw;go_simp;try (with_reducible rfl)
           try simp only[Act.put,sA,sZ,sS]
           refine tk (i:=3) (oi:=⟨some 295,_,_,_,_,_⟩) (v:=?_) rfl (Or.inl ⟨by rfl,?_⟩) ?_
           rotate_left
           ·intro W hSw;go_simp;try (with_reducible rfl)
           try simp only[Act.put,sA,sZ,sS]
           refine tk (i:=4) (oi:=⟨some 296,_,_,_,_,_⟩) (v:=?_) rfl (Or.inl ⟨by rfl,?_⟩) ?_
           rotate_left
           ·intro W hSw;go_simp;try (with_reducible rfl)
           try simp only[Act.put,sA,sZ,sS]
           refine tk (i:=5) (oi:=⟨some 297,_,_,_,_,_⟩) (v:=?_) rfl (Or.inl ⟨by rfl,?_⟩) ?_
           rotate_left
           ·intro W hSw;go_simp;try (with_reducible rfl)
           try simp only[Act.put,sA,sZ,sS]
           refine tk (i:=6) (oi:=⟨some 298,_,_,_,_,_⟩) (v:=?_) rfl (Or.inl ⟨by rfl,?_⟩) ?_
           rotate_left
           ·intro W hSw;go_simp;try (with_reducible rfl)
           try simp only[Act.put,sA,sZ,sS]
           refine tk (i:=7) (oi:=⟨some 299,_,_,_,_,_⟩) (v:=?_) rfl (Or.inl ⟨by rfl,?_⟩) ?_
           rotate_left
           ·intro W hSw;go_simp;try (with_reducible rfl)
           try simp only[Act.put,sA,sZ,sS]
           refine tk (i:=9) (oi:=⟨some 300,_,_,_,_,_⟩) (v:=?_) rfl (Or.inl ⟨by rfl,?_⟩) ?_
           rotate_left
           ·intro W hSw;go_simp;try (with_reducible rfl)
           try simp only[Act.put,sA,sZ,sS]
           refine tk (i:=10) (oi:=⟨some 301,_,_,_,_,_⟩) (v:=?_) rfl (Or.inl ⟨by rfl,?_⟩) ?_
           rotate_left
           ·intro W hSw;go_simp;try (with_reducible rfl)
           try simp only[Act.put,sA,sZ,sS]
           refine tk (i:=11) (oi:=⟨some 302,_,_,_,_,_⟩) (v:=?_) rfl (Or.inl ⟨by rfl,?_⟩) ?_
           rotate_left
           ·intro W hSw;go_simp;try (with_reducible rfl)
           try simp only[Act.put,sA,sZ,sS]
           refine wpAnyH_ready (rs:=[8]) (by kernel_rfl) (by simp) ?_
           refine AllReadyH.cons (o:=⟨none,_,_,_,_,_⟩) rfl (fun K hK=>?_) AllReadyH.nil
           go_simp
           skip
           try go_wp2_with fail
           refine hK.out _ _ (by trivial) (fun hHeld=>?_)
           clear hK K
           try simp only[Act.put,sA,sZ,sS]
           refine tk (i:=12) (oi:=⟨some 303,_,_,_,_,_⟩) (v:=?_) rfl (Or.inl ⟨by rfl,?_⟩) ?_
           rotate_left
           ·intro W hSw;go_simp;try (with_reducible rfl)
           try simp only[Act.put,sA,sZ,sS]
           refine wpAnyH_ready (rs:=[13]) (by kernel_rfl) (by simp) ?_
           refine AllReadyH.cons (o:=⟨none,_,_,_,_,_⟩) rfl (fun K hK=>?_) AllReadyH.nil
           go_simp
           skip
           try go_wp2_with fail
           refine hK.out _ _ (by trivial) (fun hHeld=>?_)
           clear hK K
           try simp only[Act.put,sA,sZ,sS]
           refine wpAnyH_done (by kernel_rfl) ?_ _
           refine NoPanic.normal ?_
           try go_wp2_with fail
           generalize ((wf0.setCell ⟨g,129,none⟩ (.int .u64 sq)).setCell ⟨g,131,none⟩ (.int .u64 real)).drew=wfa at*
           clear y129 z129 y131 z131 hz0
           have y127:wfa.cell? ⟨g,127,none⟩=some (.int .u64 (n8:Int)):=(At.cN HF1.out 8 127 (by decide) rfl).trans (congrArg (fun x=>some (Value.int .u64 x)) HN8d.out)
           have z127:=At.fz HF1.out 127
           have hw8:IntKind.u64.wrap ((n8:Int)+1)=(n8:Int)+1:=by rw[IntKind.wrap_u64];omega
           go_upto_region 46 with fail
           go_region
           have HF2:=yH (At.drew (At.setNh _ HF1.out 8 127 (by decide) rfl ((n8:Int)+1)))
           have HR2:=yH ((HR1.out.set 127 (.int .u64 ((n8:Int)+1))).drew)
           generalize (wfa.setCell ⟨g,127,none⟩ (.int .u64 ((n8:Int)+1))).drew=wf2 at*
           clear y127 z127 hw8
           have HFd:=At.drew HF2.out
           have y128:=At.cN HFd 9 128 (by decide) rfl
           have z128:=At.fz HFd 128
           have HFd1:=At.drew (At.setNh _ HF2.out 9 128 (by decide) rfl sq)
           have y132:=At.cN HFd1 13 132 (by decide) rfl
           have z132:=At.fz HFd1 132
           have HFd2:=At.drew (At.setNh _ (At.setNh _ HF2.out 9 128 (by decide) rfl sq) 13 132 (by decide) rfl real)
           have y133:=At.cN HFd2 14 133 (by decide) rfl
           have z133:=At.fz HFd2 133
           have HF3:=yH (At.drew (At.setNh _ (At.setNh _ (At.setNh _ HF2.out 9 128 (by decide) rfl sq) 13 132 (by decide) rfl real) 14 133 (by decide) rfl mono))
           have HR3:=yH ((((HR2.out.set 128 (.int .u64 sq)).set 132 (.int .u64 real)).set 133 (.int .u64 mono)).drew)
           clear HFd HFd1 HFd2
           go_upto_region 47 with fail
           refine wp_region_noPanic ?_
           refine wp_region_held_drew (S:=fun _:World=>True) (by kernel_rfl) trivial (fun hHeld=>?_)
           refine tk (i:=0) (oi:=⟨some 315,_,_,_,_,_⟩) (v:=?_) rfl (Or.inl ⟨by rfl,?_⟩) ?_
           rotate_left
           ·intro W hSw;go_simp;try (with_reducible rfl)
           try simp only[Act.put,sA,sZ,sS]
           refine tk (i:=1) (oi:=⟨some 316,_,_,_,_,_⟩) (v:=?_) rfl (Or.inl ⟨by rfl,?_⟩) ?_
           rotate_left
           ·intro W hSw;go_simp;try (with_reducible rfl)
           try simp only[Act.put,sA,sZ,sS]
           refine tk (i:=2) (oi:=⟨some 317,_,_,_,_,_⟩) (v:=?_) rfl (Or.inl ⟨by rfl,?_⟩) ?_
           rotate_left
           ·intro W hSw;go_simp;try (with_reducible rfl)
           try simp only[Act.put,sA,sZ,sS]
           refine tk (i:=3) (oi:=⟨some 318,_,_,_,_,_⟩) (v:=?_) rfl (Or.inl ⟨by rfl,?_⟩) ?_
           rotate_left
           ·intro W hSw;go_simp;try (with_reducible rfl)
           try simp only[Act.put,sA,sZ,sS]
           refine tk (i:=4) (oi:=⟨some 319,_,_,_,_,_⟩) (v:=?_) rfl (Or.inl ⟨by rfl,?_⟩) ?_
           rotate_left
           ·intro W hSw;go_simp;try (with_reducible rfl)
           try simp only[Act.put,sA,sZ,sS]
           refine tk (i:=5) (oi:=⟨some 320,_,_,_,_,_⟩) (v:=?_) rfl (Or.inl ⟨by rfl,?_⟩) ?_
           rotate_left
           ·intro W hSw;go_simp;try (with_reducible rfl)
           try simp only[Act.put,sA,sZ,sS]
           refine tk (i:=6) (oi:=⟨some 321,_,_,_,_,_⟩) (v:=?_) rfl (Or.inl ⟨by rfl,?_⟩) ?_
           rotate_left
           ·intro W hSw;go_simp;try (with_reducible rfl)
           try simp only[Act.put,sA,sZ,sS]
           refine tk (i:=7) (oi:=⟨some 322,_,_,_,_,_⟩) (v:=?_) rfl (Or.inl ⟨by rfl,?_⟩) ?_
           rotate_left
           ·intro W hSw;go_simp;try (with_reducible rfl)
           try simp only[Act.put,sA,sZ,sS]
           refine tk (i:=8) (oi:=⟨some 323,_,_,_,_,_⟩) (v:=?_) rfl (Or.inl ⟨by rfl,?_⟩) ?_
           rotate_left
           ·intro W hSw;go_simp;try (with_reducible rfl)
           try simp only[Act.put,sA,sZ,sS]
           refine tk (i:=9) (oi:=⟨some 324,_,_,_,_,_⟩) (v:=?_) rfl (Or.inl ⟨by rfl,?_⟩) ?_
           rotate_left
           ·intro W hSw;go_simp;try (with_reducible rfl)
           try simp only[Act.put,sA,sZ,sS]
           refine tk (i:=11) (oi:=⟨some 325,_,_,_,_,_⟩) (v:=?_) rfl (Or.inl ⟨by rfl,?_⟩) ?_
           rotate_left
           ·intro W hSw;go_simp;try (with_reducible rfl)
           try simp only[Act.put,sA,sZ,sS]
           refine tk (i:=12) (oi:=⟨some 326,_,_,_,_,_⟩) (v:=?_) rfl (Or.inl ⟨by rfl,?_⟩) ?_
           rotate_left
           ·intro W hSw;go_simp;try (with_reducible rfl)
           try simp only[Act.put,sA,sZ,sS]
           refine tk (i:=13) (oi:=⟨some 327,_,_,_,_,_⟩) (v:=?_) rfl (Or.inl ⟨by rfl,?_⟩) ?_
           rotate_left
           ·intro W hSw;go_simp;try (with_reducible rfl)
           try simp only[Act.put,sA,sZ,sS]
           refine tk (i:=16) (oi:=⟨some 329,_,_,_,_,_⟩) (v:=?_) rfl (Or.inl ⟨by rfl,?_⟩) ?_
           rotate_left
           ·intro W hSw;go_simp;try (with_reducible rfl)
           try simp only[Act.put,sA,sZ,sS]
           refine tk (i:=17) (oi:=⟨some 330,_,_,_,_,_⟩) (v:=?_) rfl (Or.inl ⟨by rfl,?_⟩) ?_
           rotate_left
           ·intro W hSw;go_simp;try (with_reducible rfl)
           try simp only[Act.put,sA,sZ,sS]
           refine tk (i:=18) (oi:=⟨some 331,_,_,_,_,_⟩) (v:=?_) rfl (Or.inl ⟨by rfl,?_⟩) ?_
           rotate_left
           ·intro W hSw;go_simp;try (with_reducible rfl)
           try simp only[Act.put,sA,sZ,sS]
           refine wpAnyH_ready (rs:=[10]) (by kernel_rfl) (by simp) ?_
           refine AllReadyH.cons (o:=⟨none,_,_,_,_,_⟩) rfl (fun K hK=>?_) AllReadyH.nil
           go_simp
           skip
           try go_wp2_with fail
           refine hK.out _ _ (by trivial) (fun hHeld=>?_)
           clear hK K
           try simp only[Act.put,sA,sZ,sS]
           refine tk (i:=14) (oi:=⟨some 328,_,_,_,_,_⟩) (v:=?_) rfl (Or.inl ⟨by rfl,?_⟩) ?_
           rotate_left
           ·intro W hSw;go_simp;try (with_reducible rfl)
           try simp only[Act.put,sA,sZ,sS]
           refine wpAnyH_ready (rs:=[15]) (by kernel_rfl) (by simp) ?_
           refine AllReadyH.cons (o:=⟨none,_,_,_,_,_⟩) rfl (fun K hK=>?_) AllReadyH.nil
           go_simp
           skip
           try go_wp2_with fail
           refine hK.out _ _ (by trivial) (fun hHeld=>?_)
           clear hK K
           try simp only[Act.put,sA,sZ,sS]
           refine tk (i:=19) (oi:=⟨some 332,_,_,_,_,_⟩) (v:=?_) rfl (Or.inl ⟨by rfl,?_⟩) ?_
           rotate_left
           ·intro W hSw;go_simp;try (with_reducible rfl)
           try simp only[Act.put,sA,sZ,sS]
           refine wpAnyH_ready (rs:=[20]) (by kernel_rfl) (by simp) ?_
           refine AllReadyH.cons (o:=⟨none,_,_,_,_,_⟩) rfl (fun K hK=>?_) AllReadyH.nil
           go_simp
           skip
           try go_wp2_with fail
           refine hK.out _ _ (by trivial) (fun hHeld=>?_)
           clear hK K
           try simp only[Act.put,sA,sZ,sS]
           refine wpAnyH_done (by kernel_rfl) ?_ _
           refine NoPanic.normal ?_
           go_upto_region 48 with fail
           generalize (((wf2.setCell ⟨g,128,none⟩ (.int .u64 sq)).setCell ⟨g,132,none⟩ (.int .u64 real)).setCell ⟨g,133,none⟩ (.int .u64 mono)).drew=wf3 at*
           clear y128 z128 y132 z132 y133 z133
           have HId:=yH (show Blk wf3 w.heap.size (idE K) 37 from blk_same (HR3.out.kept.block _ (yL R1.out.lt HBo.out.size) (fun hf=>absurd (hfl _ hf) (Nat.lt_irrefl _))) (blk_same (HBo.out.block _ R1.out.lt) (idE_blk R1.out)))
           have HTh:=yH (show wf3.there g 87 (idE K).toArray.size from mk_there HF3.out.st.st 87 16 (by decide))
           obtain⟨wq,hwq⟩: ∃x,x=wf3.setCells g 87 (idE K).toArray.toList:=⟨_,rfl⟩
           have HWq:=yH hwq
           have HF4:=yH (show At wq B g q4 _ from by rw[hwq];exact At.setBooth _ HF3.out K)
           have HR4:=yH (show Path g p w2 q4 wq from by rw[hwq];exact Path.setCells (w1:=wf3) (idE K) 87 wf3 HR3.out)
           clear hwq
           have y141:=At.cte HF4.out
           have z141:=At.fz HF4.out 141
           go_upto_region 49 with(first
            |((with_reducible apply at_slot 335);refine wpList_load_row rfl 37 (.tmp 9) rfl w.heap.size rfl 37 (idE K).toArray (0,0) _ HId.out Tryz.underlying37 rfl idJ' ?_)
            |((with_reducible apply at_store (.tmp 339) (.tmp 335));refine wpList_store_mid_as rfl 37 (.tmp 339) (.tmp 335) rfl g 87 (idE K).toArray rfl rfl HTh.out idJ' (idE_one K) HWq.out ?_)
            |fail)
           have HF5:=yH (At.setTeh _ HF4.out (md.b.length:Int))
           have HR5:=yH (HR4.out.set 141 (.int .u64 (md.b.length:Int)))
           go_wp2
           go_ret2
           unfold Appended Mk.after
           rw[HAc.out,if_pos rfl,if_pos rfl,HS9.out,HSq.out]
           refine⟨rfl,q4,?_,HP0.out.trans HR5.out⟩
           rw[HEnt.out]
           refine At.same HF5.out rfl ?_ rfl rfl rfl rfl rfl
           unfold Mk.told
           dsimp only
           rw[if_pos HZ.out,←HHd.out,HN8d.out]
          ·skip
           have hz0:((n8:Int)==0)=false:=by simp;omega
           have HZ:=yH (show ¬n8=0 by omega)
           clear hz
           obtain⟨hd1,ehd1⟩: ∃y,y=mf.h:=⟨_,rfl⟩
           have HF1:=yH (show At wf0 B g q4 {mf with h:=hd1}from by rw[ehd1];exact HF0.out)
           have HHd:=yH ehd1
           have HN8d:=yH (show hd1.N 8=(n8:Int)from by rw[ehd1];exact HN8f0.out)
           clear ehd1
           have HR1:=HR0
           obtain⟨wfa,hwfa⟩: ∃y,y=wf0:=⟨_,rfl⟩
           rw[←hwfa]at HF1 HR1⊢
           clear hwfa
           have y127:wfa.cell? ⟨g,127,none⟩=some (.int .u64 (n8:Int)):=(At.cN HF1.out 8 127 (by decide) rfl).trans (congrArg (fun x=>some (Value.int .u64 x)) HN8d.out)
           have z127:=At.fz HF1.out 127
           have hw8:IntKind.u64.wrap ((n8:Int)+1)=(n8:Int)+1:=by rw[IntKind.wrap_u64];omega
           go_upto_region 46 with fail
           go_region
           have HF2:=yH (At.drew (At.setNh _ HF1.out 8 127 (by decide) rfl ((n8:Int)+1)))
           have HR2:=yH ((HR1.out.set 127 (.int .u64 ((n8:Int)+1))).drew)
           generalize (wfa.setCell ⟨g,127,none⟩ (.int .u64 ((n8:Int)+1))).drew=wf2 at*
           clear y127 z127 hw8
           have HFd:=At.drew HF2.out
           have y128:=At.cN HFd 9 128 (by decide) rfl
           have z128:=At.fz HFd 128
           have HFd1:=At.drew (At.setNh _ HF2.out 9 128 (by decide) rfl sq)
           have y132:=At.cN HFd1 13 132 (by decide) rfl
           have z132:=At.fz HFd1 132
           have HFd2:=At.drew (At.setNh _ (At.setNh _ HF2.out 9 128 (by decide) rfl sq) 13 132 (by decide) rfl real)
           have y133:=At.cN HFd2 14 133 (by decide) rfl
           have z133:=At.fz HFd2 133
           have HF3:=yH (At.drew (At.setNh _ (At.setNh _ (At.setNh _ HF2.out 9 128 (by decide) rfl sq) 13 132 (by decide) rfl real) 14 133 (by decide) rfl mono))
           have HR3:=yH ((((HR2.out.set 128 (.int .u64 sq)).set 132 (.int .u64 real)).set 133 (.int .u64 mono)).drew)
           clear HFd HFd1 HFd2
           go_upto_region 47 with fail
           refine wp_region_noPanic ?_
           refine wp_region_held_drew (S:=fun _:World=>True) (by kernel_rfl) trivial (fun hHeld=>?_)
           refine tk (i:=0) (oi:=⟨some 315,_,_,_,_,_⟩) (v:=?_) rfl (Or.inl ⟨by rfl,?_⟩) ?_
           rotate_left
           ·intro W hSw;go_simp;try (with_reducible rfl)
           try simp only[Act.put,sA,sZ,sS]
           refine tk (i:=1) (oi:=⟨some 316,_,_,_,_,_⟩) (v:=?_) rfl (Or.inl ⟨by rfl,?_⟩) ?_
           rotate_left
           ·intro W hSw;go_simp;try (with_reducible rfl)
           try simp only[Act.put,sA,sZ,sS]
           refine tk (i:=2) (oi:=⟨some 317,_,_,_,_,_⟩) (v:=?_) rfl (Or.inl ⟨by rfl,?_⟩) ?_
           rotate_left
           ·intro W hSw;go_simp;try (with_reducible rfl)
           try simp only[Act.put,sA,sZ,sS]
           refine tk (i:=3) (oi:=⟨some 318,_,_,_,_,_⟩) (v:=?_) rfl (Or.inl ⟨by rfl,?_⟩) ?_
           rotate_left
           ·intro W hSw;go_simp;try (with_reducible rfl)
           try simp only[Act.put,sA,sZ,sS]
           refine tk (i:=4) (oi:=⟨some 319,_,_,_,_,_⟩) (v:=?_) rfl (Or.inl ⟨by rfl,?_⟩) ?_
           rotate_left
           ·intro W hSw;go_simp;try (with_reducible rfl)
           try simp only[Act.put,sA,sZ,sS]
           refine tk (i:=5) (oi:=⟨some 320,_,_,_,_,_⟩) (v:=?_) rfl (Or.inl ⟨by rfl,?_⟩) ?_
           rotate_left
           ·intro W hSw;go_simp;try (with_reducible rfl)
           try simp only[Act.put,sA,sZ,sS]
           refine tk (i:=6) (oi:=⟨some 321,_,_,_,_,_⟩) (v:=?_) rfl (Or.inl ⟨by rfl,?_⟩) ?_
           rotate_left
           ·intro W hSw;go_simp;try (with_reducible rfl)
           try simp only[Act.put,sA,sZ,sS]
           refine tk (i:=7) (oi:=⟨some 322,_,_,_,_,_⟩) (v:=?_) rfl (Or.inl ⟨by rfl,?_⟩) ?_
           rotate_left
           ·intro W hSw;go_simp;try (with_reducible rfl)
           try simp only[Act.put,sA,sZ,sS]
           refine tk (i:=8) (oi:=⟨some 323,_,_,_,_,_⟩) (v:=?_) rfl (Or.inl ⟨by rfl,?_⟩) ?_
           rotate_left
           ·intro W hSw;go_simp;try (with_reducible rfl)
           try simp only[Act.put,sA,sZ,sS]
           refine tk (i:=9) (oi:=⟨some 324,_,_,_,_,_⟩) (v:=?_) rfl (Or.inl ⟨by rfl,?_⟩) ?_
           rotate_left
           ·intro W hSw;go_simp;try (with_reducible rfl)
           try simp only[Act.put,sA,sZ,sS]
           refine tk (i:=11) (oi:=⟨some 325,_,_,_,_,_⟩) (v:=?_) rfl (Or.inl ⟨by rfl,?_⟩) ?_
           rotate_left
           ·intro W hSw;go_simp;try (with_reducible rfl)
           try simp only[Act.put,sA,sZ,sS]
           refine tk (i:=12) (oi:=⟨some 326,_,_,_,_,_⟩) (v:=?_) rfl (Or.inl ⟨by rfl,?_⟩) ?_
           rotate_left
           ·intro W hSw;go_simp;try (with_reducible rfl)
           try simp only[Act.put,sA,sZ,sS]
           refine tk (i:=13) (oi:=⟨some 327,_,_,_,_,_⟩) (v:=?_) rfl (Or.inl ⟨by rfl,?_⟩) ?_
           rotate_left
           ·intro W hSw;go_simp;try (with_reducible rfl)
           try simp only[Act.put,sA,sZ,sS]
           refine tk (i:=16) (oi:=⟨some 329,_,_,_,_,_⟩) (v:=?_) rfl (Or.inl ⟨by rfl,?_⟩) ?_
           rotate_left
           ·intro W hSw;go_simp;try (with_reducible rfl)
           try simp only[Act.put,sA,sZ,sS]
           refine tk (i:=17) (oi:=⟨some 330,_,_,_,_,_⟩) (v:=?_) rfl (Or.inl ⟨by rfl,?_⟩) ?_
           rotate_left
           ·intro W hSw;go_simp;try (with_reducible rfl)
           try simp only[Act.put,sA,sZ,sS]
           refine tk (i:=18) (oi:=⟨some 331,_,_,_,_,_⟩) (v:=?_) rfl (Or.inl ⟨by rfl,?_⟩) ?_
           rotate_left
           ·intro W hSw;go_simp;try (with_reducible rfl)
           try simp only[Act.put,sA,sZ,sS]
           refine wpAnyH_ready (rs:=[10]) (by kernel_rfl) (by simp) ?_
           refine AllReadyH.cons (o:=⟨none,_,_,_,_,_⟩) rfl (fun K hK=>?_) AllReadyH.nil
           go_simp
           skip
           try go_wp2_with fail
           refine hK.out _ _ (by trivial) (fun hHeld=>?_)
           clear hK K
           try simp only[Act.put,sA,sZ,sS]
           refine tk (i:=14) (oi:=⟨some 328,_,_,_,_,_⟩) (v:=?_) rfl (Or.inl ⟨by rfl,?_⟩) ?_
           rotate_left
           ·intro W hSw;go_simp;try (with_reducible rfl)
           try simp only[Act.put,sA,sZ,sS]
           refine wpAnyH_ready (rs:=[15]) (by kernel_rfl) (by simp) ?_
           refine AllReadyH.cons (o:=⟨none,_,_,_,_,_⟩) rfl (fun K hK=>?_) AllReadyH.nil
           go_simp
           skip
           try go_wp2_with fail
           refine hK.out _ _ (by trivial) (fun hHeld=>?_)
           clear hK K
           try simp only[Act.put,sA,sZ,sS]
           refine tk (i:=19) (oi:=⟨some 332,_,_,_,_,_⟩) (v:=?_) rfl (Or.inl ⟨by rfl,?_⟩) ?_
           rotate_left
           ·intro W hSw;go_simp;try (with_reducible rfl)
           try simp only[Act.put,sA,sZ,sS]
           refine wpAnyH_ready (rs:=[20]) (by kernel_rfl) (by simp) ?_
           refine AllReadyH.cons (o:=⟨none,_,_,_,_,_⟩) rfl (fun K hK=>?_) AllReadyH.nil
           go_simp
           skip
           try go_wp2_with fail
           refine hK.out _ _ (by trivial) (fun hHeld=>?_)
           clear hK K
           try simp only[Act.put,sA,sZ,sS]
           refine wpAnyH_done (by kernel_rfl) ?_ _
           refine NoPanic.normal ?_
           go_upto_region 48 with fail
           generalize (((wf2.setCell ⟨g,128,none⟩ (.int .u64 sq)).setCell ⟨g,132,none⟩ (.int .u64 real)).setCell ⟨g,133,none⟩ (.int .u64 mono)).drew=wf3 at*
           clear y128 z128 y132 z132 y133 z133
           have HId:=yH (show Blk wf3 w.heap.size (idE K) 37 from blk_same (HR3.out.kept.block _ (yL R1.out.lt HBo.out.size) (fun hf=>absurd (hfl _ hf) (Nat.lt_irrefl _))) (blk_same (HBo.out.block _ R1.out.lt) (idE_blk R1.out)))
           have HTh:=yH (show wf3.there g 87 (idE K).toArray.size from mk_there HF3.out.st.st 87 16 (by decide))
           obtain⟨wq,hwq⟩: ∃x,x=wf3.setCells g 87 (idE K).toArray.toList:=⟨_,rfl⟩
           have HWq:=yH hwq
           have HF4:=yH (show At wq B g q4 _ from by rw[hwq];exact At.setBooth _ HF3.out K)
           have HR4:=yH (show Path g p w2 q4 wq from by rw[hwq];exact Path.setCells (w1:=wf3) (idE K) 87 wf3 HR3.out)
           clear hwq
           have y141:=At.cte HF4.out
           have z141:=At.fz HF4.out 141
           go_upto_region 49 with(first
            |((with_reducible apply at_slot 335);refine wpList_load_row rfl 37 (.tmp 9) rfl w.heap.size rfl 37 (idE K).toArray (0,0) _ HId.out Tryz.underlying37 rfl idJ' ?_)
            |((with_reducible apply at_store (.tmp 339) (.tmp 335));refine wpList_store_mid_as rfl 37 (.tmp 339) (.tmp 335) rfl g 87 (idE K).toArray rfl rfl HTh.out idJ' (idE_one K) HWq.out ?_)
            |fail)
           have HF5:=yH (At.setTeh _ HF4.out (md.b.length:Int))
           have HR5:=yH (HR4.out.set 141 (.int .u64 (md.b.length:Int)))
           go_wp2
           go_ret2
           unfold Appended Mk.after
           rw[HAc.out,if_pos rfl,if_pos rfl,HS9.out,HSq.out]
           refine⟨rfl,q4,?_,HP0.out.trans HR5.out⟩
           rw[HEnt.out]
           refine At.same HF5.out rfl ?_ rfl rfl rfl rfl rfl
           unfold Mk.told
           dsimp only
           rw[if_neg HZ.out,←HHd.out,HN8d.out]
 ·have hx1:(lx !=0)=true:=by simpa using hx0
  have hx2:(lx==0)=false:=by simpa using hx0
  have HE:=yH (show Mk.acode m raw real mono K=lx by unfold Mk.acode;rw[if_pos (by rw[HLX.out];exact hx0),HLX.out])
  have HX0:=yH hx0
  clear hx0
  go_wp2
  go_ret2
  exact appended_no HE.out HX0.out ⟨p,HA1.out,Path.of_below HB1.out⟩
end Ni
end Go.Proofs.YtiddkgcafpaekaaGreat
