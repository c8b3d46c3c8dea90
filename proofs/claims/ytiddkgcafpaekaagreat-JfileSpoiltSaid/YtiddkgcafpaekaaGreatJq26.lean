/-
  Texts beneath the proof.
-/
import Derived.Test.YtiddkgcafpaekaaGreatJq23
import Derived.Test.YtiddkgcafpaekaaGreatJq25
set_option linter.unusedVariables false
set_option linter.unusedSimpArgs false
set_option maxRecDepth 100000
set_option maxHeartbeats 4000000
open Go.ChangeShapes Go.WideShapes Go.ChangeAt Go.RowKit
namespace Go.Proofs.YtiddkgcafpaekaaGreat
namespace Nt
open Bytes8 Blk8 Own8 OwnE LeNum Ob Ga Gb Gf Gj Gl Gm Go1 Ma Mh Na Nc Ns
theorem num_app (p q:List Int)(v:Int)(n k:Nat)(hn:p.length=n):leNum (((p++(lowB v k++q)).drop n).take k)=v%256^k:=by
 subst hn
 rw[List.drop_left,←leNum_lowB v k]
 congr 1
 have:=List.take_left (l₁:=lowB v k) (l₂:=q)
 rw[lowB_len]at this
 exact this
theorem u4_at (p q l:List Int)(v:Int)(n:Nat)(hl:l=p++(lowB v 4++q))(hn:p.length=n)(hv:0≤v∧v≤4294967295):u4 l n=v:=by
 subst hl
 unfold u4
 rw[num_app p q v n 4 hn]
 exact Int.emod_eq_of_lt hv.1 (by have:=hv.2;show v<4294967296;omega)
theorem u8_at (p q l:List Int)(v:Int)(n:Nat)(hl:l=p++(lowB v 8++q))(hn:p.length=n)(hv:0≤v∧v≤18446744073709551615):Ob.u8 l n=v:=by
 subst hl
 unfold Ob.u8
 rw[num_app p q v n 8 hn]
 exact Int.emod_eq_of_lt hv.1 (by have:=hv.2;show v<18446744073709551616;omega)
structure Says (h k:HD):Prop where
 cp:h.cp=k.cp
 ic:h.ic=k.ic
 st:h.st=k.st
 I: ∀i,i<64→h.I i=k.I i
 N: ∀i,i<21→h.N i=k.N i
 ta:h.ta=k.ta
 ti:h.ti=k.ti
 te:h.te=k.te
theorem hdOf_ta (l:List Int):(hdOf l).ta=u4 l 256:=rfl
theorem hdOf_ti (l:List Int):(hdOf l).ti=u4 l 260:=rfl
theorem hdOf_te (l:List Int):(hdOf l).te=Ob.u8 l 264:=rfl
theorem hd_back (h:HD)(ok:h.Ok 21)(hst:0≤h.st∧h.st<256)(r:List Int):Says (hdOf (h.bytes 21++r)) h:=by
 have e8:(magicL).length=8:=rfl
 have hfr:=h.front_len
 have hid:=h.ids_len 4
 have hnl:=h.nums_len 21
 refine⟨?_,?_,?_,?_,?_,?_,?_,?_⟩
 ·exact u4_at magicL (lowB h.ic 4++lowB (h.st%256) 8++h.ids 4++Ob.nums (h.nums 21)++lowB h.ta 4++lowB h.ti 4++lowB h.te 8++r) _ h.cp 8 (by unfold HD.bytes HD.front;simp only[List.append_assoc]) rfl ok.cp
 ·exact u4_at (magicL++lowB h.cp 4) (lowB (h.st%256) 8++h.ids 4++Ob.nums (h.nums 21)++lowB h.ta 4++lowB h.ti 4++lowB h.te 8++r) _ h.ic 12 (by unfold HD.bytes HD.front;simp only[List.append_assoc]) (by rw[List.length_append,lowB_len,e8]) ok.ic
 ·show(h.bytes 21++r).getD 16 0=h.st
  have e:h.bytes 21++r=(magicL++lowB h.cp 4++lowB h.ic 4)++([h.st%256%256]++((lowB (h.st%256) 8).drop 1++(h.ids 4++(Ob.nums (h.nums 21)++(lowB h.ta 4++(lowB h.ti 4++(lowB h.te 8++r))))))):=by
   have e2:lowB (h.st%256) 8=[h.st%256%256]++(lowB (h.st%256) 8).drop 1:=by simp[lowB,List.range_succ]
   unfold HD.bytes HD.front
   rw[e2]
   simp only[List.append_assoc,List.drop_left' (show [h.st%256%256].length=1 from rfl)]
  rw[e,List.getD_eq_getElem?_getD,List.getElem?_append_right (by simp[lowB_len,e8]),show 16-(magicL++lowB h.cp 4++lowB h.ic 4).length=0 by simp[lowB_len,e8]]
  show h.st%256%256=h.st
  omega
 ·intro i hi
  show(h.bytes 21++r).getD (24+i) 0=h.I i
  have e:h.bytes 21++r=h.front++(h.ids 4++(Ob.nums (h.nums 21)++(lowB h.ta 4++(lowB h.ti 4++(lowB h.te 8++r))))):=by unfold HD.bytes;simp only[List.append_assoc]
  rw[e,List.getD_eq_getElem?_getD,List.getElem?_append_right (by omega),hfr,Nat.add_sub_cancel_left,List.getElem?_append_left (by omega)]
  unfold HD.ids
  simp[hi]
 ·intro i hi
  show Ob.u8 (h.bytes 21++r) (88+8*i)=h.N i
  have e:h.bytes 21++r=(h.front++h.ids 4)++(Ob.nums (h.nums 21)++(lowB h.ta 4++(lowB h.ti 4++(lowB h.te 8++r)))):=by unfold HD.bytes;simp only[List.append_assoc]
  have eg:(h.nums 21).getD i 0=h.N i:=by unfold HD.nums;simp[hi]
  rw[e,u8_app _ _ 88 _ (by rw[List.length_append,hfr,hid]),u8_nums _ _ i (by rw[hnl];exact hi) (by rw[eg];exact ok.N i),eg]
 ·refine(hdOf_ta _).trans ?_
  exact u4_at (h.front++h.ids 4++Ob.nums (h.nums 21)) (lowB h.ti 4++lowB h.te 8++r) _ h.ta 256 (by unfold HD.bytes;simp only[List.append_assoc]) (by rw[List.length_append,List.length_append,hfr,hid,Ob.nums_len,hnl]) ok.ta
 ·refine(hdOf_ti _).trans ?_
  exact u4_at (h.front++h.ids 4++Ob.nums (h.nums 21)++lowB h.ta 4) (lowB h.te 8++r) _ h.ti 260 (by unfold HD.bytes;simp only[List.append_assoc]) (by rw[List.length_append,List.length_append,List.length_append,hfr,hid,Ob.nums_len,hnl,lowB_len]) ok.ti
 ·refine(hdOf_te _).trans ?_
  exact u8_at (h.front++h.ids 4++Ob.nums (h.nums 21)++lowB h.ta 4++lowB h.ti 4) r _ h.te 264 (by unfold HD.bytes;simp only[List.append_assoc]) (by rw[List.length_append,List.length_append,List.length_append,List.length_append,hfr,hid,Ob.nums_len,hnl,lowB_len,lowB_len]) ok.te
theorem magic_back (h:HD)(m:Nat)(r:List Int):magicB (h.bytes m++r)=true:=by
 have e:(h.bytes m++r).take 8=magicL:=by
  unfold HD.bytes HD.front
  simp only[List.append_assoc]
  exact List.take_left' rfl
 unfold magicB
 rw[e]
 decide+kernel
theorem Says.fcode {h k:HD}(s:Says h k)(n:Int):fcode h n=fcode k n:=by
 have h0:=s.N 0 (by decide)
 have h1:=s.N 1 (by decide)
 have h2:=s.N 2 (by decide)
 have h3:=s.N 3 (by decide)
 have h4:=s.N 4 (by decide)
 have h5:=s.N 5 (by decide)
 unfold Gm.fcode endV endB
 rw[s.ic,s.st,h0,h1,h2,h3,h4,h5]
def imgH (m:Mk):HD:=HD.plus (Mk.head m 1) (m.depth:Int)
def imgB (m:Mk):List Int:=(imgH m).bytes 21++m.b.drop 272
structure Img (m:Mk):Prop where
 inv:Inv m
 hg:HG m
 len:m.b.length≤32768
theorem Img.lens {m:Mk}(h:Img m):336≤m.b.length∧m.b.length%8=0∧m.b.length≤32768:=by
 have h1:=h.inv.len
 have h2:=h.inv.ds
 have h3:=h.inv.fs
 have h4:=h.inv.l8
 have h5:=h.len
 omega
theorem head_N (m:Mk)(i:Nat):(Mk.head m 1).N i=if i=1 then(m.b.length:Int)-272 else m.h.N i:=rfl
theorem head_ok {m:Mk}(h:Img m):(Mk.head m 1).Ok 20:=by
 obtain⟨l1,l2,l3⟩:=h.lens
 refine⟨by show 0≤m.h.cp∧m.h.cp≤_;rw[h.hg.cp];decide,by show 0≤m.h.ic∧m.h.ic≤_;rcases h.hg.ic with e|e<;>rw[e]<;>decide,by show -9223372036854775808≤(1:Int)∧(1:Int)≤_;decide,h.hg.I,fun i=>?_,h.hg.ta,h.hg.ti,h.hg.te⟩
 rw[head_N]
 by_cases e1:i=1
 ·rw[if_pos e1];omega
 rw[if_neg e1]
 by_cases hf:i=1∨i=6∨(9≤i∧i≤14)∨i=17∨20≤i
 ·exact h.hg.nb i hf
 ·obtain⟨n8,hn8,_,hn8b⟩:=h.inv.mn
  have h7:=h.inv.n7
  have h15:=h.inv.n15
  have h16:=h.inv.n16
  have h18:=h.inv.n18
  have h19:=h.inv.n19
  have h0:=h.hg.n0
  have h2:=h.inv.n2
  have h3:=h.hg.n3
  have h4:=h.inv.n4
  have h5:=h.hg.n5
  have hd:=h.inv.ds
  have hs:=h.inv.fs
  unfold Mk.tf at h4
  have hi:i=0∨i=2∨i=3∨i=4∨i=5∨i=7∨i=8∨i=15∨i=16∨i=18∨i=19:=by omega
  rcases hi with rfl|rfl|rfl|rfl|rfl|rfl|rfl|rfl|rfl|rfl|rfl
  all_goals omega
theorem imgH_ok {m:Mk}(h:Img m):(imgH m).Ok 21:=by
 have k:=head_ok h
 have hd:=h.inv.dep
 have hl:=h.len
 refine⟨k.cp,k.ic,k.st,k.I,fun i=>?_,k.ta,k.ti,k.te⟩
 show 0≤(if i<20 then(Mk.head m 1).N i else(m.depth:Int))∧(if i<20 then(Mk.head m 1).N i else(m.depth:Int))≤_
 split
 ·exact k.N i
 ·omega
theorem imgH_N (m:Mk)(i:Nat)(hi:i<20):(imgH m).N i=if i=1 then(m.b.length:Int)-272 else m.h.N i:=by
 show(if i<20 then(Mk.head m 1).N i else(m.depth:Int))=_
 rw[if_pos hi,head_N]
theorem img_end {m:Mk}(h:Img m):endV (imgH m)=(m.b.length:Int)∧endB (imgH m)=true:=by
 obtain⟨l1,l2,l3⟩:=h.lens
 have h0:=(imgH_N m 0 (by decide)).trans (if_neg (by decide))
 have h1:=(imgH_N m 1 (by decide)).trans (if_pos rfl)
 rw[h.hg.n0]at h0
 unfold endV endB
 rw[h0,h1]
 constructor
 ·split<;>omega
 ·simp;omega
theorem img_fcode {m:Mk}(h:Img m)(n:Int)(hn:(m.b.length:Int)≤n):fcode (imgH m) n=0:=by
 obtain⟨l1,l2,l3⟩:=h.lens
 obtain⟨e1,e2⟩:=img_end h
 have hds:=h.inv.ds
 have hfs:=h.inv.fs
 have hlen:=h.inv.len
 have h0:=(imgH_N m 0 (by decide)).trans (if_neg (by decide))
 have h1:=(imgH_N m 1 (by decide)).trans (if_pos rfl)
 have h2:=(imgH_N m 2 (by decide)).trans (if_neg (by decide))
 have h3:=(imgH_N m 3 (by decide)).trans (if_neg (by decide))
 have h4:=(imgH_N m 4 (by decide)).trans (if_neg (by decide))
 have h5:=(imgH_N m 5 (by decide)).trans (if_neg (by decide))
 rw[h.hg.n0]at h0
 rw[h.inv.n2]at h2
 rw[h.hg.n3]at h3
 rw[h.inv.n4]at h4
 rw[h.hg.n5]at h5
 unfold Mk.tf at h4
 unfold fcode
 rw[e1,e2,h0,h1,h2,h3,h4,h5]
 have hfl:flB (imgH m).ic=false:=by
  show flB m.h.ic=false
  rcases h.hg.ic with e|e<;>rw[e]<;>decide+kernel
 have hsb:stB (imgH m).st=true:=rfl
 rw[hfl,hsb,if_neg (by decide),if_neg (by decide),if_neg (by omega),if_neg (by simp;omega)]
 have t1:tcode ((288:Nat):Int) (16*(m.C.ds:Int)) 272 (m.b.length:Int)=0:=by
  unfold tcode
  rw[if_neg (by omega),if_neg (by omega),if_neg (by omega)]
 have t2:tcode ((304+16*m.C.ds:Nat):Int) (16*(m.C.fs:Int)) 272 (m.b.length:Int)=0:=by
  unfold tcode
  rw[if_neg (by omega),if_neg (by omega),if_neg (by omega)]
 rw[t1,t2]
 simp
end Nt
namespace Nq
open Bytes8 Blk8 Own8 OwnE Rows2 Ob Ga Ma Kf Mb Mc Mf Mg Mi Fb Gb Na Nc Nd Nh Np Numb Seq8
theorem seqN_at (gq:Nat)(a:Option Addr)(len cap:Nat)(f:Nat→Int)(k:Nat)(b:Int)(w:World)(hb:1≤b)(hb2:b≤1000000)(h:SeqIn w gq a len cap f k):
 Calls Tryz.prog 76 #[.pointer (some ⟨gq,0,none⟩),.int .i64 b] w fun e w'=> ∃r:Nat,e= .returned (.int .i64 (r:Int))∧(r:Int)<b∧SeqIn w' gq a len cap f (min (k+1) len)∧KeptB w.heap.size gq w w':=by
 obtain⟨hB,hI,hne,hk,hl⟩:=h
 have HB:=yH hB
 have c0:=HB.out.cell (i:=0) rfl
 have c1:=HB.out.cell (i:=1) rfl
 have f1:=HB.out.frozen 1
 by_cases hlt:k<len
 ·obtain⟨bb,off,rfl,hbl,hc,hwf⟩:=hI k hlt
  have hbq:=hne (by omega) bb off rfl
  obtain⟨r,hr,hrb⟩:=below_nat (f k) b hb
  have HNum:=yH fun w=>number_nat (f k) b r w hb (by omega) hr.out
  have hkk: ¬(len:Int)≤(k:Int):=by omega
  have hset: ∀v,(w.setCell ⟨gq,1,none⟩ v).cell? ⟨bb,off+k,none⟩=some (.int .i64 (f k)):=fun v=>by
   rw[←hc];exact World.cell?_of_block (Below.heap_setCell _ _ _ _ hbq)
  have HI:=yH hI
  have HNe:=yH hne
  have hm:Tryz.prog.follows .mixedOrders=true:=by kernel_rfl
  clear hI hne hB hr hwf
  generalize f k=x at*
  go_enter Tryz.func76,Tryz.ntmps76
  go_wp2_with fail
  go_quiet (fail)
  obtain⟨nq_1,hnq⟩: ∃x,x=nq:=⟨_,rfl⟩
  rw[←hnq]
  clear hnq nq
  go_wp2_with fail
  go_quiet ((go_at_call 20;exact quiet_kept (HNum.out _)))
  have HK:=yH ((((KeptB.refl w.heap.size gq w).drewN nq_1).setCell (Or.inr rfl) (.int .i64 ((k:Int)+1)) (p:=⟨gq,1,none⟩)).drewN nq)
  go_wp2
  go_ret
  refine⟨r,rfl,hrb,⟨?_,ints_keptB HI.out HK.out HNe.out,HNe.out,by omega,hl⟩,HK.out⟩
  rw[Nat.min_eq_left (by omega)]
  exact((HB.out.drewN _).set_ 1 _).drewN _
 ·have hkk:(len:Int)≤(k:Int):=by omega
  have HI:=yH hI
  have HNe:=yH hne
  have hmin:min (k+1) len=k:=by omega
  clear hI hne hB
  go_enter Tryz.func76,Tryz.ntmps76
  go_wp2_with fail
  go_quiet (fail)
  go_wp2
  go_ret
  refine⟨0,rfl,by omega,⟨?_,HI.out,HNe.out,by omega,hl⟩,(KeptB.refl _ _ _).drewN _⟩
  rw[hmin]
  exact HB.out.drewN _
structure CfOk (C:Cf):Prop where
 F:IdOk C.F
 M:IdOk C.M
 S:IdOk C.S
 ds:0<C.ds∧C.ds≤64
 fs:0<C.fs∧C.fs≤64
 most:C.most=32768
theorem Cf.one (C:Cf):(Cf.cells C).toArray.all (·.oneCell')=true:=by
 rw[Array.all_eq_true_iff_forall_mem]
 intro x hx
 simp only[Cf.cells,List.mem_toArray,List.mem_map,List.mem_range]at hx
 obtain⟨i,_,rfl⟩:=hx
 unfold Cf.at_
 repeat' split
 all_goals rfl
abbrev zC:Array Value:= #[.int .u8 0,.int .u8 0,.int .u8 0,.int .u8 0,.int .u8 0,.int .u8 0,.int .u8 0,.int .u8 0,.int .u8 0,.int .u8 0,.int .u8 0,.int .u8 0,.int .u8 0,.int .u8 0,.int .u8 0,.int .u8 0,.int .u8 0,.int .u8 0,.int .u8 0,.int .u8 0,.int .u8 0,.int .u8 0,.int .u8 0,.int .u8 0,.int .u8 0,.int .u8 0,.int .u8 0,.int .u8 0,.int .u8 0,.int .u8 0,.int .u8 0,.int .u8 0,.int .u8 0,.int .u8 0,.int .u8 0,.int .u8 0,.int .u8 0,.int .u8 0,.int .u8 0,.int .u8 0,.int .u8 0,.int .u8 0,.int .u8 0,.int .u8 0,.int .u8 0,.int .u8 0,.int .u8 0,.int .u8 0,.int .i64 0,.int .i64 0,.int .i64 0,.bool false]
theorem cf_zeros (C:Cf):zC.size=(Cf.cells C).toArray.size:=by rw[show zC.size=52 from rfl];simp[Cf.len]
theorem cf_info (C:Cf):(Tryz.prog.info? 101).map (·.size)=some (Cf.cells C).toArray.size:=by rw[cfInfo];simp[Cf.len]
theorem seq_low {w w':World}{s gq:Nat}{a:Option Addr}{len cap:Nat}{f:Nat→Int}{k:Nat}(h:SeqIn w gq a len cap f k)(hb:Below s w w')(hs:gq<s)(hA:0<len→ ∀b off,a=some ⟨b,off,none⟩→b<s):SeqIn w' gq a len cap f k:=
 ⟨h.1.below hb hs,fun i hi=>by
   obtain⟨b,off,e,h1,h2,h3⟩:=h.2.1 i hi
   exact⟨b,off,e,yL h1 hb.size,(World.cell?_of_block (hb.block b (hA (by omega) b off e))).trans h2,h3⟩,h.2.2⟩
theorem min_min (k j len:Nat):min (min (k+j) len+1) len=min (k+(j+1)) len:=by omega
attribute [local irreducible] Mk.cells HD.cells Cf.cells wpList Code.wp
theorem config_any (gq:Nat)(a:Option Addr)(len cap:Nat)(f:Nat→Int)(k:Nat)(w:World)(h:SeqIn w gq a len cap f k):
 Calls Tryz.prog 75 #[.pointer (some ⟨gq,0,none⟩)] w fun e w'=> ∃C:Cf,e= .returned (.agg (Cf.cells C).toArray)∧CfOk C∧SeqIn w' gq a len cap f (min (k+6) len)∧KeptB w.heap.size gq w w':=by
 obtain⟨s,hs⟩: ∃x,w.heap.size=x:=⟨_,rfl⟩
 have hgs:gq<s:=hs▸h.1.lt
 have Z0:=yH (show(w.alloc (.cells zC 101)).heap[s]? =some (.cells zC 101 (0,0))from hs▸heap_alloc_new w _)
 have s0:=yH (show s<(w.alloc (.cells zC 101)).heap.size by simp[hs])
 have Q0:=yH (show SeqIn (w.alloc (.cells zC 101)) gq a len cap f (min (k+0) len)from by rw[Nat.add_zero,Nat.min_eq_left h.2.2.2.1];exact h.below ((Below.refl _ _).alloc (yR _) _))
 have K0:=yH (show KeptB s gq w (w.alloc (.cells zC 101))from(KeptB.refl s gq w).alloc (by omega) _)
 have HS:=yH fun(b:Int) (h1:1≤b) (h2:b≤1000000) (j:Nat) (W:World) (hW:SeqIn W gq a len cap f (min (k+j) len))=>seqN_at gq a len cap f (min (k+j) len) b W h1 h2 hW
 have HD:=yH fun(n:Int) (W:World)=>mid_any n W
 have W9:=yH (show 0<len→ ∀b off,a=some ⟨b,off,none⟩→b<s from fun h0 b off e=>by obtain⟨b',off',e',h1,_⟩:=h.2.1 0 h0;rw[e]at e';injection e' with e';injection e' with e';omega)
 clear h
 rw[hs]
 go_enter Tryz.func75,Tryz.ntmps75
 go_upto_region 1 with fail
 rw[hs]at*
 clear hs
 generalize w.alloc (.cells zC 101)=w0 at*
 go_wp2_with(first
  |(go_at_call 76;(with_reducible refine(HS.out 5 (by decide) (by decide) 0 _ Q0.out).mono ?_);rintro e w1 ⟨r1,rfl,hr1,q1,k1⟩;have Q1:=yH (show SeqIn w1 gq a len cap f (min (k+1) len)from(min_min k 0 len)▸q1);have K1:=yH (K0.out.trans (k1.mono (Nat.le_of_lt s0.out)));have Z1:=yH ((k1.block s s0.out (Nat.ne_of_gt hgs)).trans Z0.out);have s1:=yH (yL s0.out k1.size);clear q1 k1)
  |(go_at_call 40;(with_reducible refine(HD.out (r1:Int) w1).mono ?_);rintro e w2 ⟨x1,hx1,rfl,k2⟩;have Q2:=yH (Q1.out.below k2);have K2:=yH (K1.out.trans (KeptB.of_below (k2.mono (Nat.le_of_lt s1.out))));have Z2:=yH ((k2.block s s1.out).trans Z1.out);have s2:=yH (yL s1.out k2.size);clear k2)
  |(go_at_call 76;(with_reducible refine(HS.out 5 (by decide) (by decide) 1 _ Q2.out).mono ?_);rintro e w3 ⟨r2,rfl,hr2,q3,k3⟩;have Q3:=yH (show SeqIn w3 gq a len cap f (min (k+2) len)from(min_min k 1 len)▸q3);have K3:=yH (K2.out.trans (k3.mono (Nat.le_of_lt s2.out)));have Z3:=yH ((k3.block s s2.out (Nat.ne_of_gt hgs)).trans Z2.out);have s3:=yH (yL s2.out k3.size);clear q3 k3)
  |(go_at_call 40;(with_reducible refine(HD.out (r2:Int) w3).mono ?_);rintro e w4 ⟨x2,hx2,rfl,k4⟩;have Q4:=yH (Q3.out.below k4);have K4:=yH (K3.out.trans (KeptB.of_below (k4.mono (Nat.le_of_lt s3.out))));have Z4:=yH ((k4.block s s3.out).trans Z3.out);have s4:=yH (yL s3.out k4.size);clear k4)
  |(go_at_call 76;(with_reducible refine(HS.out 5 (by decide) (by decide) 2 _ Q4.out).mono ?_);rintro e w5 ⟨r3,rfl,hr3,q5,k5⟩;have Q5:=yH (show SeqIn w5 gq a len cap f (min (k+3) len)from(min_min k 2 len)▸q5);have K5:=yH (K4.out.trans (k5.mono (Nat.le_of_lt s4.out)));have Z5:=yH ((k5.block s s4.out (Nat.ne_of_gt hgs)).trans Z4.out);have s5:=yH (yL s4.out k5.size);clear q5 k5)
  |(go_at_call 40;(with_reducible refine(HD.out (r3:Int) w5).mono ?_);rintro e w6 ⟨x3,hx3,rfl,k6⟩;have Q6:=yH (Q5.out.below k6);have K6:=yH (K5.out.trans (KeptB.of_below (k6.mono (Nat.le_of_lt s5.out))));have Z6:=yH ((k6.block s s5.out).trans Z5.out);have s6:=yH (yL s5.out k6.size);clear k6)
  |(go_at_call 76;(with_reducible refine(HS.out 7 (by decide) (by decide) 3 _ Q6.out).mono ?_);rintro e w7 ⟨r4,rfl,hr4,q7,k7⟩;have Q7:=yH (show SeqIn w7 gq a len cap f (min (k+4) len)from(min_min k 3 len)▸q7);have K7:=yH (K6.out.trans (k7.mono (Nat.le_of_lt s6.out)));have Z7:=yH ((k7.block s s6.out (Nat.ne_of_gt hgs)).trans Z6.out);have s7:=yH (yL s6.out k7.size);clear q7 k7)
  |(go_at_call 76;(with_reducible refine(HS.out 4 (by decide) (by decide) 4 _ Q7.out).mono ?_);rintro e w8 ⟨r5,rfl,hr5,q8,k8⟩;have Q8:=yH (show SeqIn w8 gq a len cap f (min (k+5) len)from(min_min k 4 len)▸q8);have K8:=yH (K7.out.trans (k8.mono (Nat.le_of_lt s7.out)));have Z8:=yH ((k8.block s s7.out (Nat.ne_of_gt hgs)).trans Z7.out);have s8:=yH (yL s7.out k8.size);clear q8 k8)
  |(go_at_call 76;(with_reducible refine(HS.out 2 (by decide) (by decide) 5 _ Q8.out).mono ?_);rintro e w9 ⟨r6,rfl,hr6,q9,k9⟩;have Q9:=yH (show SeqIn w9 gq a len cap f (min (k+6) len)from(min_min k 5 len)▸q9);have K9:=yH (K8.out.trans (k9.mono (Nat.le_of_lt s8.out)));have Z9:=yH ((k9.block s s8.out (Nat.ne_of_gt hgs)).trans Z8.out);have s9:=yH (yL s8.out k9.size);clear q9 k9)
  |((with_reducible apply at_slot 21);refine wpList_build_as rfl 101 _ rfl (Cf.cells ⟨mkId x1,mkId x2,mkId x3,r4+1,r5+1,32768,((r6:Int)==1)⟩).toArray (by kernel_rfl) ?_)
  |((with_reducible apply at_store (.tmp 2) (.tmp 21));refine wpList_store_row rfl 101 (.tmp 2) (.tmp 21) rfl s (Cf.cells ⟨mkId x1,mkId x2,mkId x3,r4+1,r5+1,32768,((r6:Int)==1)⟩).toArray rfl rfl 101 zC Z9.out (cf_info _) (cf_zeros _) (Cf.one _) ?_)
  |fail)
 refine bodyPost_ret (v:= .agg (Cf.cells ⟨mkId x1,mkId x2,mkId x3,r4+1,r5+1,32768,((r6:Int)==1)⟩).toArray) (by exact results_cell_row Tryz.results75 _ _ s 101 _ (0,0) _ rfl (setRow_heap _ s _ _ _ (0,0) Z9.out) Tryz.underlying101 rfl (cf_info _)) rfl ?_
 have b9:=yH (show Below s w9 (w9.setRow s (Cf.cells ⟨mkId x1,mkId x2,mkId x3,r4+1,r5+1,32768,((r6:Int)==1)⟩).toArray)from below_setRow (Below.refl _ _) (yR _) _)
 refine⟨_,rfl,⟨mkId_ok (by omega),mkId_ok (by omega),mkId_ok (by omega),⟨Nat.succ_pos _,by show r4+1≤64;omega⟩,⟨Nat.succ_pos _,by show r5+1≤64;omega⟩,rfl⟩,seq_low Q9.out b9.out hgs W9.out,K9.out.trans (KeptB.of_below b9.out)⟩
end Nq
end Go.Proofs.YtiddkgcafpaekaaGreat
