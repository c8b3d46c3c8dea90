/-
  Texts beneath the proof.
-/
import Derived.Test.YtjecmgkmcfkcjaaGreatQc38
set_option linter.unusedVariables false
set_option linter.unusedSimpArgs false
set_option maxRecDepth 100000
set_option maxHeartbeats 16000000
open Go.ChangeShapes Go.WideShapes Go.ChangeAt Go.RowKit
namespace Go.Proofs.YtjecmgkmcfkcjaaGreat
namespace Zt
open Bytes8 Ga Gb Rc
attribute [local irreducible] HD.cells in
theorem head_field (H:HD)(w:World):(Instr.field 78 (.agg (H.cells 21).toArray) 15).run Tryz.prog w= .ok (.int .u64 (H.N 8)) w:=by
 have hc:(H.cells 21)[75]? =some (.int .u64 (H.N 8)):=H.get_N 21 8 (by decide)
 simp[go_sem,Instr.field,part,isAgg,asAgg,underlying,Tryz.underlying78,Tryz.underlying40,hc]
end Zt
namespace Ji
open Ga Gb Gj Ma Mb Na Nc Np Nt Nu Zg Zh Zj Zl Rn Rr Pr8 Ps8 Pl8 Ja Jd Je Jf
theorem list_mem {L:List PR}(h:listE L=0)(x:PR):x∈listL L↔x∈L:=by
 unfold listL
 rw[if_pos h,sortP_mem,ded_mem]
theorem toI_nat (l:List Nat)(x:Nat):((toI l).getD x 0).toNat=l.getD x 0:=by
 rw[List.getD_eq_getElem?_getD,List.getD_eq_getElem?_getD,List.getElem?_map]
 cases l[x]? <;>rfl
abbrev dP:RecP:=⟨0,0,0,fun _=>0,0,[]⟩
theorem goodRecs_all {h:HD}{l:List Int}{E:Nat}{out:List Int}{b:Int}(hb:0≤b)(n:Nat)(hc: ∀x,x<n→jC h l E out x=0∧(jR h l E out x).s=b+x+1):goodRecs h l E out n=(List.range n).map fun x=>jR h l E out x:=by
 unfold goodRecs goodL
 rw[goodR_all hb n hc]
theorem st_good {m:Mk}{rs:List RR}{os:List Za.O}{hs:Nat→List Nat}{mi:List Nat}{es:List (Nat×List Int)}(k:Kept m rs.length os hs mi es)(q:Recs m rs es){st:Int}(ht:0≤st∧st≤2){b0:Int}(h9:m.h.N 9=b0+(rs.length:Int)):
 (goodRecs (hdOf (stL m st)) (stL m st) m.b.length (toI mi) mi.length).length=rs.length∧ ∀i (hi:i<rs.length),SameP ((goodRecs (hdOf (stL m st)) (stL m st) m.b.length (toI mi) mi.length).getD i dP) (rowP b0 i rs[i]):=by
 have hb:=q.base
 have hsr:=fun i hi=>st_rec k q ht i hi
 rw[k.len]
 have hall:=goodRecs_all (h:=hdOf (stL m st)) (l:=stL m st) (E:=m.b.length) (out:=toI mi) (b:=b0) (by omega) rs.length (fun x hx=>by
  obtain⟨s1,s2,_⟩:=hsr x hx
  show rcode _ _ _ ((toI mi).getD x 0).toNat=0∧(recP _ _ _ ((toI mi).getD x 0).toNat).s=_
  rw[toI_nat]
  exact⟨s1,by rw[s2];omega⟩)
 rw[hall]
 refine⟨by rw[List.length_map,List.length_range],fun i hi=>?_⟩
 rw[List.getD_eq_getElem?_getD,List.getElem?_map,List.getElem?_range hi]
 obtain⟨s1,s2,s3,s4,s5,s6⟩:=hsr i hi
 show SameP (recP _ _ _ ((toI mi).getD i 0).toNat) _
 rw[toI_nat]
 exact⟨by rw[s2];show _=b0+(i:Int)+1;omega,s3,s4,s5,fun y=>(s6 y).trans (list_mem (q.ok _ (List.getElem_mem hi)).list y)⟩
end Ji
namespace JfileReadsW
open Bytes8 Blk8 Own8 OwnM OwnE Rows2 Od Ga Gb Gj Numb Ma Mb Mh Na Np Ns Nt Nu Rc Rn Rr Pr8 Zg Zh Zj Zl Zt Seq8 Kf Jb Je Jf Jg Ji
open Go1 (hcode)
attribute [local irreducible] HD.cells wpList Code.wp
theorem jhead_any {w:World}{gf gv:Nat}{h:HD}{A:Option Addr}{E c:Nat}{l:List Int}{P:Option Addr}{n cp:Nat}{out:List Int}{cd:Int}(f:FileAt w gf gv h A E c l P n cp out cd):Calls Tryz.prog 57 #[.pointer (some ⟨gf,0,none⟩)] w fun e w'=>e= .returned (.agg (h.cells 21).toArray)∧Below w.heap.size w w':=by
 have k0:=f.blk.cell (i:=0) rfl
 have HH:=Lib.hid fun(W:World) (hW:Below w.heap.size w W)=>Rr.vhead_any W ((f.view.below hW).blk)
 have b1:=Lib.hid ((Below.refl w.heap.size w).alloc (Nat.le_refl _) (.cells Tryz.zeroCells78 78))
 have k0':(w.alloc (.cells Tryz.zeroCells78 78)).cell? ⟨gf,0,none⟩=some (.pointer (some ⟨gv,0,none⟩)):=(b1.out.cell (p:=⟨gf,0,none⟩) f.blk.lt).trans k0
 have Z1:=Lib.hid (heap_alloc_new w (.cells Tryz.zeroCells78 78))
 have hs1:(w.alloc (.cells Tryz.zeroCells78 78)).heap.size=w.heap.size+1:=by simp
 clear f
 go_enter Tryz.func57,Tryz.ntmps57
 go_wp2_with(first
  |(go_at_call 36;(refine(HH.out _ b1.out).mono ?_);rintro e w2 ⟨rfl,hb2⟩;have B2:=Lib.hid (b1.out.trans (hb2.mono b1.out.size));have Z2:=Lib.hid ((hb2.block w.heap.size (by rw[hs1];exact Nat.lt_succ_self _)).trans Z1.out);clear hb2)
  |((with_reducible apply at_store (.tmp 2) (.tmp 7));refine wpList_store_row rfl 78 (.tmp 2) (.tmp 7) rfl w.heap.size (h.cells 21).toArray rfl rfl 78 Tryz.zeroCells78 Z2.out (cells_info _) zeros_size (HD.one _ 21) ?_)
  |fail)
 refine bodyPost_ret (v:= .agg (h.cells 21).toArray) (by exact results_cell_row Tryz.results57 _ _ w.heap.size 78 _ (0,0) _ rfl (setRow_heap _ w.heap.size _ _ _ (0,0) Z2.out) Tryz.underlying78 rfl (cells_info _)) rfl ?_
 exact⟨rfl,below_setRow B2.out (Nat.le_refl _) _⟩
theorem walk_main (a:Option Addr)(len cap:Nat)(f:Nat→Int)(sn:Int)(w:World)(hI:InInts .i64 w a len f)(hl:len≤300):
 Calls Tryz.prog 8 #[.slice a len cap,.int .i64 sn] w fun e w'=>e= .returned (.bool true)∧Below w.heap.size w w':=by
 have d1:decide ((300:Int)<(len:Int))=false:=by simp;omega
 have HI:=Lib.hid hI
 clear hI
 go_enter Tryz.func8,Tryz.ntmps8
 go_upto_region 6 with(go_at_call 41;((with_reducible refine(first_jfile _).mono ?_);rintro e w1 ⟨rfl,hb1⟩;have B1:=Lib.hid hb1;clear hb1))
 clear d1
 have HI1:=Lib.hid (HI.out.below B1.out)
 have Q1:=Lib.hid (show SeqIn (w1.alloc (.cells #[.slice a len cap,.int .i64 0] 55)) w1.heap.size a len cap f 0 from⟨Blk.new w1 [.slice a len cap,.int .i64 0] _,HI1.out.below ((Below.refl _ _).alloc (Nat.le_refl _) _),fun h0 b off e=>by obtain⟨b',off',e',h1,_⟩:=HI1.out 0 h0;rw[e]at e';injection e' with e';injection e' with e';omega,Nat.zero_le _,by omega⟩)
 have b1:=Lib.hid ((Below.refl w1.heap.size w1).alloc (Nat.le_refl _) (.cells #[.slice a len cap,.int .i64 0] 55))
 have HM:=Lib.hid (makerR_any w1.heap.size a len cap f 0 30 _ Q1.out (by decide))
 unfold MadeR at HM
 go_upto_region 7 with(first
  |(go_at_call 28;(refine HM.out.mono ?_);rintro e w2 ⟨g,A,n,c,B,p,m,rs,xs,b0,rfl,hB,hat,hgd,hk,hrw,hrc,hrl,hn9,hro⟩;have HA:=Lib.hid hat;have HG:=Lib.hid hgd;have HK:=Lib.hid hk;have HRw:=Lib.hid hrw;have HRc:=Lib.hid hrc;have HRl:=Lib.hid hrl;have HN9:=Lib.hid hn9;have HRo:=Lib.hid hro;clear hat hgd hk hrw hrc hrl hn9 hro)
  |fail)
 have hI:=HG.out.img
 obtain⟨l1,l2,l3⟩:=hI.lens
 have hn30:=HG.out.le
 obtain⟨os,hs,mi,es,hkept,hrecs⟩:=kept_recs HRc.out
 have HMl:=Lib.hid (show mi.length=n by rw[hkept.len,HRl.out])
 have hn1:=numBelow_lo sn 3 (by decide)
 have hn2:=numBelow_hi sn 3 (by decide)
 have HNb:=Lib.hid fun(W:World)=>number_any sn 3 W (by decide) (by decide)
 generalize numBelow sn 3=st at*
 have ht:0≤st∧st≤2:=by omega
 have HIm:=Lib.hid (image_any B g p.bb p.cb p.S m st w2 HA.out.st (by omega) (st_head hI ht) (by have:=hI.inv.dep;omega))
 unfold Owned at HIm
 have hsl:(HD.plus (Mk.head m st) (m.depth:Int)).bytes 21++m.b.drop 272=stL m st:=rfl
 rw[hsl]at HIm
 have hh8:=(st_chase hkept ht).2
 have HOp:=Lib.hid fun(A:Option Addr) (c:Nat) (W:World) (hb:Bytes W A (stL m st)) (hc:m.b.length≤c)=>jopen_st hkept ht A c W hb hc
 unfold JKept at HOp
 obtain⟨hgl,hgs⟩:=st_good hkept hrecs ht (by rw[HRl.out];exact HN9.out)
 have HGs:=Lib.hid hgs
 have HKk:=Lib.hid fun(i:Nat) (hi:i<rs.length)=>(hrecs.ok _ (List.getElem_mem hi)).K
 have B2:=Lib.hid (B1.out.trans ((b1.out.trans (KeptB.below (HK.out.mono b1.out.size) (Nat.le_refl _))).mono B1.out.size))
 clear Q1 HM b1 HI HI1 hsl hI hkept hrecs HRc HN9 HG HK l1 l2 l3 HA hgs hn1 hn2 ht
 generalize hdOf (stL m st)=H at*
 generalize stL m st=l at*
 generalize m.b.length=E at*
 rw[HRl.out]at hh8
 rw[HMl.out]at HOp HGs hgl
 generalize hGG:goodRecs H l E (toI mi) n=G at*
 go_upto_region 8 with(first
  |(go_at_call 54;((refine(HNb.out _).mono ?_);rintro e y1 ⟨rfl,rfl⟩))
  |(go_at_call 29;(refine HIm.out.mono ?_);rintro e w3 ⟨A3,c3,rfl,ho3,hb3⟩;have HO3:=Lib.hid ho3.bytes;have HC3:=Lib.hid (own_cap ho3);have B3:=Lib.hid hb3;clear ho3 hb3)
  |(go_at_call 42;(refine(HOp.out _ _ _ HO3.out HC3.out.1).mono ?_);rintro e w4 ⟨gf,gv,A9,c9,P,cp,rfl,hf,hb4⟩;have HF:=Lib.hid hf;have B4:=Lib.hid (B3.out.trans (hb4.mono B3.out.size));clear hf hb4)
  |fail)
 have HRa:=Lib.hid fun(i:Nat) (hi:i<rs.length)=>rowAt_rows HRw.out.own HRo.out i hi (HKk.out i hi)
 have HL:=Lib.hid (len_any HF.out)
 have HC:=Lib.hid (code_any HF.out)
 have hne:((n:Int)!=(n:Int))=false:=by simp
 have HRe:=Lib.hid (records_any HF.out)
 unfold Gathered at HRe
 rw[hGG]at HRe
 have hwn:IntKind.u64.wrap (n:Int)=(n:Int):=by rw[IntKind.wrap_u64];omega
 have hfd:=fun W=>head_field H W
 rw[hh8]at hfd
 clear hGG hh8 HNb HIm HOp HRw HRo HKk HO3 HC3 hB
 go_upto_region 11 with(first
  |(go_at_call 44;((refine HL.out.mono ?_);rintro e w6 ⟨rfl,rfl⟩))
  |(go_at_call 45;((refine HC.out.mono ?_);rintro e w6 ⟨rfl,rfl⟩))
  |(go_at_call 55;((refine HRe.out.mono ?_);rintro e w5 ⟨A5,m5,c5,ys,B0,rfl,hm5,ho5,hq5,hb5⟩;have B5:=Lib.hid (B4.out.trans (hb5.mono B4.out.size));have HF5:=Lib.hid (HF.out.below hb5);have HRow:=Lib.hid (fun i hi=>rowAt_recs ho5 hq5 i hi);clear ho5 hq5 hb5))
  |fail)
 have hm:m5=n:=by have:=HRl.out;omega
 subst hm
 have HSr:=Lib.hid (samerows_yes A5 A m5 c5 c (fun i=>G.getD i Ji.dP) (fun i=>rowP b0 i (rs.getD i ([],0,0,fun _=>0))) w5 (fun i hi=>by
  have h1:i<G.length:=by omega
  have q:=HRow.out i h1
  rw[List.getD_eq_getElem?_getD,List.getElem?_eq_getElem h1]
  exact q) (fun i hi=>by
  have h1:i<rs.length:=by rw[HRl.out];exact hi
  have q:=(HRa.out i h1).below B5.out
  rw[List.getD_eq_getElem?_getD,List.getElem?_eq_getElem h1]
  exact q) (fun i hi=>by
  have h1:i<rs.length:=by rw[HRl.out];exact hi
  have q:=HGs.out i h1
  rw[List.getD_eq_getElem?_getD (l:=rs),List.getElem?_eq_getElem h1]
  exact q) (by omega))
 have HHd:=Lib.hid fun(W:World) (hW:Below w5.heap.size w5 W)=>jhead_any (HF5.out.below hW)
 clear HRe HL HC HRa HRow HGs
 go_wp2_with(first
  |(go_at_call 56;((refine HSr.out.mono ?_);rintro e w6 ⟨rfl,hb6⟩;have b6:=Lib.hid hb6;have B6:=Lib.hid (B5.out.trans (hb6.mono B5.out.size));clear hb6))
  |(go_at_call 57;((refine(HHd.out _ b6.out).mono ?_);rintro e w7 ⟨rfl,hb7⟩;have B7:=Lib.hid (B6.out.trans (hb7.mono B6.out.size));clear hb7))
  |fail)
 go_ret
 exact⟨rfl,B2.out.trans (B7.out.mono B2.out.size)⟩
theorem walk (a:Option Addr)(len cap:Nat)(z:List Int)(sn:Int)(w:World)(h:IsRow .i64 w a len cap z)(hs:(Lit.int .i64 sn).wf=true):
 Calls Tryz.prog 8 #[.slice a len cap,.int .i64 sn] w fun e w'=>e= .returned (.bool true)∧Below w.heap.size w w':=by
 obtain⟨hI,h2,h3⟩:=ints_in h
 by_cases h1:len≤300
 ·exact walk_main a len cap _ sn w hI h1
 ·have d1:decide ((300:Int)<(len:Int))=true:=by simp;omega
  clear h hI
  go_enter Tryz.func8,Tryz.ntmps8
  go_wp2_with(go_at_call 41;((with_reducible refine(first_jfile _).mono ?_);rintro e w1 ⟨rfl,hb1⟩;have B1:=Lib.hid hb1;clear hb1))
  go_ret
  exact⟨rfl,B1.out⟩
end JfileReadsW
end Go.Proofs.YtjecmgkmcfkcjaaGreat
