/-
  Texts beneath the proof.
-/
import Derived.Test.YtjecmgkmcfkcjaaGreatQhChainDatas3
import Derived.Test.YtjecmgkmcfkcjaaGreatQhChainDatas2
set_option linter.unusedVariables false
set_option linter.unusedSimpArgs false
set_option maxRecDepth 100000
set_option maxHeartbeats 32000000
open Go.ChangeShapes Go.WideShapes Go.ChangeAt Go.RowKit
namespace Go.Proofs.YtjecmgkmcfkcjaaGreat
namespace ChainDatasW
open Bytes8 Blk8 Own8 OwnM OwnE Rows2 Od Ga Gb Gj Ma Mb Mg Mh Na Np Ns Nt Nuc Nu Rc Rp Va Vf Wa Ls Pr8 Pb8 Zg Zh Zj Zl Zx Zy Zz Seq8 SeqP Kf Xh Xi Fa Fc Yh Hn
open Xl (bytes_back)
open Fa (T T_beq)
open Go1 (hcode HTold)
open Rd (dcode)
theorem rows_fields {w4:World}{gq:Nat}{F:Nat→Prop}{B n c:Nat}{A:Option Addr}{xs:List Value}{b0:Int}{rs:List (List PR×Int×Int×(Nat→Int))}(h:RowsR w4 gq F A xs b0 rs)(hX:CapX xs)(ho:OwnE 64 20 w4 B A n c xs)(hl:rs.length=n)(k:Nat)(hk:k<n)(W:World)(hW:Below w4.heap.size w4 W):
 ∃(bR:Nat) (Ar:Option Addr) (nr cr:Nat) (L:List PR),A=some ⟨bR,0,none⟩∧W.cell? ⟨bR,k*20+19,none⟩=some (.slice Ar nr cr)∧L.length=nr∧nr≤16∧Prs W Ar L∧L=(rs.getD k ([],0,0,fun _=>0)).1∧nr≤cr∧cr≤maxLen:=by
 subst hl
 obtain⟨Ar,nr,cr,e1,e2,e3,e4,_⟩:=h.at_ k hk
 have hxl:=h.len
 obtain⟨bR,h1,_,h2,h3⟩:=ho.cell (i:=20*k+19) (by omega)
 have hv:xs[20*k+19]'(by omega)= .slice Ar nr cr:=by
  have h5:((xs.drop (20*k)).take 20)[19]? =some (.slice Ar nr cr):=by rw[e1];rfl
  rw[List.getElem?_take_of_lt (by decide),List.getElem?_drop,List.getElem?_eq_getElem (by omega)]at h5
  exact Option.some.inj h5
 obtain⟨Ar2,nr2,cr2,g1,g2,g3⟩:=hX k (by omega)
 rw[List.getElem?_eq_getElem (by omega),hv]at g1
 injection g1 with g1
 injection g1 with g4 g5 g6
 subst g4 g5 g6
 refine⟨bR,Ar,nr,cr,rs[k].1,h1,?_,e2,e3,e4.below hW,?_,g2,g3⟩
 ·rw[Nat.mul_comm k 20]
  exact(hW.cell (p:=⟨bR,20*k+19,none⟩) h2).trans (h3.trans (by rw[List.getElem?_eq_getElem (by omega),hv]))
 ·rw[List.getD_eq_getElem?_getD,List.getElem?_eq_getElem hk];rfl
theorem name_facts (i:Nat)(hi:i<6):nmB (nameLs.getD i [])=true∧AllB (nameLs.getD i [])∧(nameLs.getD i []).length≤100∧nameLs.getD i []≠ []:=by
 have hm:nameLs.getD i []∈nameLs:=getD_mem hi
 have h:nameLs.all (fun n=>decide (n.length≤100)&& !n.isEmpty)=true:=by decide+kernel
 have h2:=List.all_eq_true.1 h _ hm
 simp only[Bool.and_eq_true,decide_eq_true_eq,Bool.not_eq_true',List.isEmpty_eq_false_iff]at h2
 exact⟨(names_ok _ hm).2,(names_ok _ hm).1,h2.1,h2.2⟩
theorem sizeof_pair (w:World):(sizeOf 58).run Tryz.prog w= .ok 2 w:=by
 obtain⟨i,hi,hzz⟩:=Option.map_eq_some_iff.1 pairElt.info
 simp only[Prod.mk.injEq]at hzz
 simp[sizeOf,typeInfo,hi,hzz]
theorem elem_pair:Tryz.prog.elem 60=58:=by kernel_rfl
theorem cut_pr (b off nr cr k:Nat)(hk:k<cr)(W:World):
 (Instr.slice 60 (.slice (some ⟨b,off,none⟩) nr cr) (some (.int .i64 (k:Int))) (some (.int .i64 ((k:Int)+1))) none).run Tryz.prog W= .ok (.slice (some ⟨b,off+k*2,none⟩) 1 (cr-k)) W:=by
 rw[run_slice_lh W 60 (some ⟨b,off,none⟩) nr cr Tryz.underlying60 .i64 .i64 (k:Int) ((k:Int)+1) (by omega) (by omega) (by omega),elem_pair,sizeof_pair]
 have e1:(((k:Int)+1).toNat:Nat)=k+1:=by omega
 have e2:cr≠k:=by omega
 simp[Result.andThen,sliced,e1,e2,Addr.add]
theorem toI_get (l:List Nat)(x:Nat):(toI l).getD x 0=((l.getD x 0:Nat):Int):=by
 rw[List.getD_eq_getElem?_getD,List.getD_eq_getElem?_getD,List.getElem?_map]
 cases l[x]? <;>rfl
theorem ded_snoc (l:List PR)(q:PR):ded (l++ [q])=addU (ded l) q:=by
 unfold ded
 rw[List.foldl_append]
 rfl
def pf (rs:List RR)(nm:List Int)(y:Nat):List PR:=(allQ (rs.take y)).filter fun q=>q.1==nm
def pk (rs:List RR)(nm:List Int)(y:Nat)(L:List PR)(k:Nat):List PR:=pf rs nm y++(L.take k).filter fun q=>q.1==nm
theorem pf_zero (rs:List RR)(nm:List Int):pf rs nm 0=[]:=by unfold pf;simp[allQ]
theorem pf_all (rs:List RR)(nm:List Int)(n:Nat)(h:rs.length=n):ded (pf rs nm n)=ofN rs nm:=by
 unfold pf ofN
 rw[List.take_of_length_le (by omega)]
theorem pk_zero (rs:List RR)(nm:List Int)(y:Nat)(L:List PR):pk rs nm y L 0=pf rs nm y:=by
 unfold pk
 rw[List.take_zero,List.filter_nil,List.append_nil]
theorem pk_all (rs:List RR)(nm:List Int)(y:Nat)(hy:y<rs.length)(L:List PR)(hL:L=(rs.getD y ([],0,0,fun _=>0)).1)(k:Nat)(hk:L.length=k):pk rs nm y L k=pf rs nm (y+1):=by
 have e:L.take k=L:=List.take_of_length_le (by omega)
 unfold pk pf
 rw[e,List.take_succ_eq_append_getElem hy]
 unfold allQ
 rw[List.flatMap_append,List.filter_append]
 congr 1
 rw[hL,List.getD_eq_getElem?_getD,List.getElem?_eq_getElem hy]
 simp
theorem pk_yes (rs:List RR)(nm:List Int)(y:Nat)(L:List PR)(k:Nat)(hk:k<L.length)(h:L[k].1=nm):ded (pk rs nm y L (k+1))=addU (ded (pk rs nm y L k)) L[k]:=by
 unfold pk
 rw[List.take_succ_eq_append_getElem hk,List.filter_append,←List.append_assoc]
 have e: [L[k]].filter (fun q=>q.1==nm)=[L[k]]:=by simp[h]
 rw[e,ded_snoc]
theorem pk_no (rs:List RR)(nm:List Int)(y:Nat)(L:List PR)(k:Nat)(hk:k<L.length)(h:L[k].1≠nm):pk rs nm y L (k+1)=pk rs nm y L k:=by
 unfold pk
 rw[List.take_succ_eq_append_getElem hk,List.filter_append]
 have e: [L[k]].filter (fun q=>q.1==nm)=[]:=by simp[h]
 rw[e,List.append_nil]
def natOf:Value→Nat
 | .int _ z=>z.toNat
 |_=>0
attribute [local irreducible] HD.cells wpList Code.wp
theorem walk_main (a:Option Addr)(len cap:Nat)(f:Nat→Int)(w:World)(hI:InInts .i64 w a len f)(hl:len≤120):
 Calls Tryz.prog 5 #[.slice a len cap] w fun e w'=>e= .returned (.bool true)∧Below w.heap.size w w':=by
 have d1:decide ((120:Int)<(len:Int))=false:=by simp;omega
 have HI:=Lib.hid hI
 clear hI
 go_enter Tryz.func5,Tryz.ntmps5
 go_upto_region 6 with(go_at_call 12;((with_reducible refine(first_chain _).mono ?_);rintro e w1 ⟨rfl,hb1⟩;have B1:=Lib.hid hb1;clear hb1))
 clear d1
 have HI1:=Lib.hid (HI.out.below B1.out)
 have Q1:=Lib.hid (show SeqIn (w1.alloc (.cells #[.slice a len cap,.int .i64 0] 55)) w1.heap.size a len cap f 0 from⟨Blk.new w1 [.slice a len cap,.int .i64 0] _,HI1.out.below ((Below.refl _ _).alloc (Nat.le_refl _) _),fun h0 b off e=>by obtain⟨b',off',e',h1,_⟩:=HI1.out 0 h0;rw[e]at e';injection e' with e';injection e' with e';omega,Nat.zero_le _,by omega⟩)
 have b1:=Lib.hid ((Below.refl w1.heap.size w1).alloc (Nat.le_refl _) (.cells #[.slice a len cap,.int .i64 0] 55))
 have HM:=Lib.hid (makerR_anyC w1.heap.size a len cap f 0 12 _ Q1.out (by decide))
 unfold MadeRC at HM
 go_upto_region 7 with(first
  |(go_at_call 28;(refine HM.out.mono ?_);rintro e w2 ⟨g,A,n,c,B,p,m,rs,xs,b0,rfl,hB,hat,hgd,hk,hrw,hrc,hrl,hn9,hro,htd,hcx⟩;have HA:=Lib.hid hat;have HG:=Lib.hid hgd;have HK:=Lib.hid hk;have HRw:=Lib.hid hrw;have HRc:=Lib.hid hrc;have HRl:=Lib.hid hrl;have HRo:=Lib.hid hro;have HTd:=Lib.hid htd;have HCx:=Lib.hid hcx;clear hat hgd hk hrw hrc hrl hn9 hro htd hcx)
  |fail)
 have hI:=HG.out.img
 obtain⟨l1,l2,l3⟩:=hI.lens
 have hn12:=HG.out.le
 obtain⟨os,hs,mi,es,j⟩:=jn_of HRc.out
 have ht:(0:Int)≤1∧(1:Int)≤2:=by decide
 have HIm:=Lib.hid (image_any B g p.bb p.cb p.S m 1 w2 HA.out.st (by omega) (st_head hI ht) (by have:=hI.inv.dep;omega))
 unfold Owned at HIm
 obtain⟨_,t4,t5,_⟩:=st_tab j.k ht
 have hfs:=j.k.good.img.inv.fs
 have ht5:tCode (hdOf (stL m 1)) (stL m 1) 5=0→0<tNum (hdOf (stL m 1)) (stL m 1) 5∧tNum (hdOf (stL m 1)) (stL m 1) 5≤1000000:=fun _=>by rw[t5];omega
 have HSt:=Lib.hid fun(nm:List Int)=>st_datas HRc.out HTd.out j ht nm
 have HDt:=Lib.hid fun(i:Nat) (hi:i<m.datas.length)=>st_dat j.k j.dt ht i hi
 have HNe:=Lib.hid fun(i:Nat) (hi:i<m.datas.length)=>j.dt _ (List.getElem_mem hi)
 have HLn:=Lib.hid fun(k:Nat) (hk:k<rs.length) (q:PR) (hq:q∈rs[k].1)=>show q.1.length≤64∧q.2.length≤256 from by
  have h3:=(tx_reach HRc.out).2.2 _ (List.getElem_mem hk)
  rw[←list_self (HTd.out _ (List.getElem_mem hk)) h3]at hq
  exact flaw_len ((list_ok h3).2 q hq).2
 obtain⟨E,hE⟩: ∃E,m.b.length=E:=⟨_,rfl⟩
 have hlen:=st_len hI 1
 have hz:=st_hcode hI ht
 obtain⟨he1,he2⟩:=st_end hI ht
 have hsl:(HD.plus (Mk.head m 1) (m.depth:Int)).bytes 21++m.b.drop 272=stL m 1:=rfl
 rw[hsl]at HIm
 have hE0:E≤300000:=by omega
 rw[hE]at hlen hz he1 HIm HSt HDt
 generalize stL m 1=l at*
 have HOp:=Lib.hid fun(A:Option Addr) (c:Nat) (W:World) (hb:Bytes W A l) (hc:E≤c)=>by
  have k:=open_fine l A E c W hb hlen (by omega) hc hz E he1 he2 (Nat.le_refl _) (hdOf_ok hb.1 21)
  unfold Opened at k
  rw[List.take_of_length_le (by omega)]at k
  exact k
 have B2:=Lib.hid (B1.out.trans ((b1.out.trans (KeptB.below (HK.out.mono b1.out.size) (Nat.le_refl _))).mono B1.out.size))
 clear Q1 HM b1 HI HI1 hsl hlen hz he1 he2 hI HRc HG HK l1 l2 l3 ht HA j t4 t5 hfs B1 HTd
 go_upto_region 8 with(first
  |(go_at_call 29;(refine HIm.out.mono ?_);rintro e w3 ⟨A3,c3,rfl,ho3,hb3⟩;have HO3:=Lib.hid ho3.bytes;have HC3:=Lib.hid (own_cap ho3);have B3:=Lib.hid hb3;clear ho3 hb3)
  |(go_at_call 15;(refine(HOp.out _ _ _ HO3.out HC3.out.1).mono ?_);rintro e w4 ⟨gv,A9,c9,rfl,_,hv,hc9,hb4⟩;have HV:=Lib.hid hv;have HC9:=Lib.hid hc9;have B4:=Lib.hid (B3.out.trans (hb4.mono B3.out.size));clear hv hb4 hc9)
  |fail)
 have HRo4:=Lib.hid (HRo.out.step (KeptF.of_below (F:=fun _=>False) B4.out) (fun _ _ h=>h.elim) (fun _ _ h=>h) (fun _ _ h=>h))
 have HRw4:=Lib.hid (HRw.out.own.kept B4.out (Nat.le_refl _))
 have B5:=Lib.hid (B2.out.trans (B4.out.mono B2.out.size))
 clear HIm HOp HRo HRw HO3 HC3 B2 B3 B4
 generalize hdOf l=H at*
 have HDs:=Lib.hid fun(t:List Int) (hA:AllB t) (hl2:t.length≤800000) (W:World) (hW:Below w4.heap.size w4 W)=>by have q:=datas_any t W (HV.out.below hW) HC9.out hA hl2 ht5;unfold TellL at q;exact q
 have HDa:=Lib.hid fun(x:Nat) (W:World) (hW:Below w4.heap.size w4 W)=>by have q:=dataTell x W (HV.out.below hW) HC9.out;unfold TellD at q;exact q
 have S4:=Lib.hid (Below.refl w4.heap.size w4)
 go_upto_region 11 with(first
  |(go_at_call 20;(with_reducible refine(names_any _).mono ?_);rintro e w7 ⟨rfl,hN6,hb6,-⟩;have N7:=Lib.hid hN6;have S7:=Lib.hid hb6;clear hN6 hb6))
 have HDs7:=Lib.hid fun(t:List Int) (hA:AllB t) (hl2:t.length≤800000) (W:World) (hW:Below w7.heap.size w7 W)=>HDs.out t hA hl2 W (S7.out.trans (hW.mono S7.out.size))
 have HDa7:=Lib.hid fun(x:Nat) (W:World) (hW:Below w7.heap.size w7 W)=>HDa.out x W (S7.out.trans (hW.mono S7.out.size))
 have HNm:=Lib.hid fun(i:Nat) (hi:i<6) (W:World) (hW:Below w7.heap.size w7 W)=>text_at (N7.out.below hW N7.out.lt) i hi
 have HRows:=Lib.hid fun(k:Nat) (hk:k<n) (W:World) (hW:Below w7.heap.size w7 W)=>rows_fields HRo4.out HCx.out HRw4.out HRl.out k hk W (S7.out.trans (hW.mono S7.out.size))
 have Bf:=Lib.hid fun(W:World) (hW:Below w7.heap.size w7 W)=>show Below w.heap.size w W from(B5.out.trans (S7.out.mono B5.out.size)).trans (hW.mono (B5.out.trans (S7.out.mono B5.out.size)).size)
 have R7:=Lib.hid (Below.refl w7.heap.size w7)
 have hgN:w4.heap.size<w7.heap.size:=N7.out.lt
 generalize w4.heap.size=gN at*
 clear HDs HDa S7 N7 S4 B5 HRo4 HRw4 HV HCx
 go_wp2_with fail
 go_loopw [9] (fun kv wr=> ∃i:Nat,i≤6∧kv= .int .i64 (i:Int)∧Hid (Below w7.heap.size w7 wr)) (fun kv _=>6-natOf kv)
 case atStart=>exact⟨0,by omega,rfl,R7⟩
 case round=>
  clear R7
  obtain⟨i,hi6,rfl,hbi⟩:=hrel
  by_cases hi:i<6
  ·have ds1:decide ((i:Int)<6)=true:=by simp;omega
   have hlt1:(i:Int)<6:=by omega
   have hwi:IntKind.i64.wrap ((i:Int)+1)=((i+1:Nat):Int):=by rw[IntKind.wrap_i64];omega
   obtain⟨nm,hnm⟩: ∃s,s=nameLs.getD i []:=⟨_,rfl⟩
   have HNmI:=Lib.hid fun(W:World) (hW:Below w7.heap.size w7 W)=>HNm.out i hi W hW
   obtain⟨hnB,hnA,hnl,hne⟩:=name_facts i hi
   rw[←hnm]at HNmI hnA hnl hnB hne
   obtain⟨u1,u2,u3,u4⟩:=HSt.out nm
   have HS1:=Lib.hid u1;have HS2:=Lib.hid u2;have HS3:=Lib.hid u3;have HS4:=Lib.hid u4
   have HDn:=Lib.hid fun(W:World) (hW:Below w7.heap.size w7 W)=>HDs7.out nm hnA (by omega) W hW
   have O0:=Lib.hid (OwnP.nil _ w7.heap.size hbi.out.size)
   clear hnm u1 u2 u3 u4 HSt HDs7 HNm
   go_upto_region 16 with fail
   go_loopw [10,11] (fun av iv wr=> ∃(y k1:Nat) (A1:Option Addr) (c1:Nat),y≤n∧iv= .int .i64 (y:Int)∧av= .slice A1 k1 c1∧k1≤16*y∧Hid (OwnP wr w7.heap.size A1 k1 c1 (ded (pf rs nm y)))∧Hid (Below w7.heap.size w7 wr)) (fun _ kv _=>n-natOf kv)
   case atStart=>exact⟨0,0,none,0,Nat.zero_le _,rfl,rfl,Nat.zero_le _,by rw[pf_zero];exact O0,hbi⟩
   case round=>
    clear hbi O0
    obtain⟨y,k1,A1,c1,hyn,rfl,rfl,hk1,hO,hby⟩:=hrel
    by_cases hy:y<n
    ·have ds2:decide ((y:Int)<(n:Int))=true:=by simp;omega
     have hlt2:(y:Int)<(n:Int):=by omega
     have hwy:IntKind.i64.wrap ((y:Int)+1)=((y+1:Nat):Int):=by rw[IntKind.wrap_i64];omega
     obtain⟨bR,Ar,nr,cr,L,hAe,hcR,hLl,hnr,hPL,hLe,hcap,hcapm⟩:=HRows.out y hy w7 (Below.refl _ _)
     have hbR:=bounds_of_cell hcR
     dsimp only at hbR
     have hcRx:=(hby.out.cell (p:=⟨bR,y*20+19,none⟩) hbR).trans hcR
     have hyr:y<rs.length:=by rw[HRl.out];exact hy
     have hpkA:=pk_all rs nm y hyr L hLe nr hLl
     have hLen:=HLn.out y hyr
     have hLe2:L=rs[y].1:=by rw[hLe,List.getD_eq_getElem?_getD,List.getElem?_eq_getElem hyr];rfl
     rw[←hLe2]at hLen
     have HLen:=Lib.hid hLen
     have HPk:=Lib.hid hpkA
     have HPL:=Lib.hid hPL
     have O1:=Lib.hid (show OwnP _ w7.heap.size A1 k1 c1 (ded (pk rs nm y L 0))from by rw[pk_zero];exact hO.out)
     clear hpkA hLen hLe2 hLe hO hPL hyr
     subst hAe
     go_upto_region 20 with fail
     rename World=>wx
     have Wx:=Lib.hid hby.out
     go_loopw [10,13] (fun av kv wr=> ∃(k k2:Nat) (A2:Option Addr) (c2:Nat),k≤nr∧kv= .int .i64 (k:Int)∧av= .slice A2 k2 c2∧k2≤16*y+k∧Hid (OwnP wr w7.heap.size A2 k2 c2 (ded (pk rs nm y L k)))∧Hid (Below w7.heap.size w7 wr)) (fun _ kv _=>nr-natOf kv)
     case atStart=>exact⟨0,k1,A1,c1,Nat.zero_le _,rfl,rfl,by omega,O1,hby⟩
     case round=>
      clear O1 hby
      obtain⟨k,k2,A2,c2,hkn,rfl,rfl,hk2,hO,hby⟩:=hrel
      rename World=>wy
      by_cases hkl:k<nr
      ·have ds3:decide ((k:Int)<(nr:Int))=true:=by simp;omega
       have hlt3:(k:Int)<(nr:Int):=by omega
       have hwk:IntKind.i64.wrap ((k:Int)+1)=(k:Int)+1:=by rw[IntKind.wrap_i64];omega
       have hkL:k<L.length:=by omega
       obtain⟨bN,oN,rfl,hbN,hcN,hcV⟩:=HPL.out.2 k hkL
       have hgd:L.getD k nil2=L[k]:=by rw[List.getD_eq_getElem?_getD,List.getElem?_eq_getElem hkL];rfl
       rw[hgd]at hcN hcV
       have hAp:=HPL.out.1 _ (List.getElem_mem hkL)
       have hyes:=pk_yes rs nm y L k hkL
       have hno:=pk_no rs nm y L k hkL
       generalize hpr:L[k]=pr at*
       obtain⟨n1,v1⟩:=pr
       dsimp only at hcN hcV hAp hyes hno
       have hbq:=T_beq hAp.1 hnA
       have hcNy:=(hby.out.cell (p:=⟨bN,oN+k*2,none⟩) hbN).trans hcN
       have hcMy:=HNmI.out _ hby.out
       by_cases hn:n1=nm
       ·have hst:=hyes hn
        clear hyes hno
        subst hn
        have hbt:((T n1).toList==(T n1).toList)=true:=by simp
        have HcN:=Lib.hid fun(W:World) (hW:Below wy.heap.size wy W)=>((hby.out.trans (hW.mono hby.out.size)).cell (p:=⟨bN,oN+k*2,none⟩) hbN).trans hcN
        have HcV:=Lib.hid fun(W:World) (hW:Below wy.heap.size wy W)=>((hby.out.trans (hW.mono hby.out.size)).cell (p:=⟨bN,oN+k*2+1,none⟩) hbN).trans hcV
        have HcM:=Lib.hid fun(W:World) (hW:Below wy.heap.size wy W)=>HNmI.out W (hby.out.trans (hW.mono hby.out.size))
        have hkl2:=hO.out.2.1
        have hnAll:=hO.out.1
        have HWi:=Lib.hid fun(W:World) (hW:Below wy.heap.size wy W)=>rwithin_any (some ⟨bN,oN+k*2,none⟩) A2 [(n1,v1)] (ded (pk rs n1 y L k)) 1 k2 (cr-k) c2 W ⟨fun q hq=>by
         rw[List.mem_singleton]at hq
         rw[hq]
         exact hAp,fun x hx=>by
         have hx0:x=0:=by simp at hx;omega
         subst hx0
         refine⟨bN,oN+k*2,rfl,Nat.lt_of_lt_of_le hbN (hby.out.trans (hW.mono hby.out.size)).size,?_,?_⟩
         ·rw[Nat.zero_mul,Nat.add_zero];exact HcN.out W hW
         ·rw[Nat.zero_mul,Nat.add_zero];exact HcV.out W hW⟩ (hO.out.kept hW (Nat.le_refl _)).prs rfl hkl2 (by decide) (by omega)
        have D0:=Lib.hid (show Below wy.heap.size wy wy.drew from(Below.refl wy.heap.size wy).drew)
        have HSt:=Lib.hid hst
        clear hst hbq hpr hgd
        generalize hsb:subB [(n1,v1)] (ded (pk rs n1 y L k))=sb at*
        go_upto_region 22 with fail
        refine wp_region_noPanic ?_
        refine wp_region_held_drew (S:=fun W:World=>Below wy.heap.size wy W) (by kernel_rfl) (by exact D0.out) (fun hHeld=>?_)
        refine tk (i:=0) (oi:=⟨some 69,_,_,_,_,_⟩) (v:=?_) rfl (Or.inl ⟨by rfl,?_⟩) ?_
        rotate_left
        ·intro W hSw;have q0:=HcN.out W hSw;have q1:=HcM.out W hSw;have q3:=cut_pr bN oN nr cr k (by omega) W;go_simp;try (with_reducible rfl)
        try simp only[Act.put,sA,sZ,sS]
        refine tk (i:=1) (oi:=⟨some 70,_,_,_,_,_⟩) (v:=?_) rfl (Or.inl ⟨by rfl,?_⟩) ?_
        rotate_left
        ·intro W hSw;have q0:=HcN.out W hSw;have q1:=HcM.out W hSw;have q3:=cut_pr bN oN nr cr k (by omega) W;go_simp;try (with_reducible rfl)
        try simp only[Act.put,sA,sZ,sS]
        refine tk (i:=2) (oi:=⟨some 71,_,_,_,_,_⟩) (v:=?_) rfl (Or.inl ⟨by rfl,?_⟩) ?_
        rotate_left
        ·intro W hSw;have q0:=HcN.out W hSw;have q1:=HcM.out W hSw;have q3:=cut_pr bN oN nr cr k (by omega) W;go_simp;try (with_reducible rfl)
        try simp only[Act.put,sA,sZ,sS]
        refine tk (i:=3) (oi:=⟨some 72,_,_,_,_,_⟩) (v:=?_) rfl (Or.inl ⟨by rfl,?_⟩) ?_
        rotate_left
        ·intro W hSw;have q0:=HcN.out W hSw;have q1:=HcM.out W hSw;have q3:=cut_pr bN oN nr cr k (by omega) W;go_simp;try (with_reducible rfl)
        try simp only[Act.put,sA,sZ,sS]
        refine tk (i:=4) (oi:=⟨some 73,_,_,_,_,_⟩) (v:=?_) rfl (Or.inl ⟨by rfl,?_⟩) ?_
        rotate_left
        ·intro W hSw;have q0:=HcN.out W hSw;have q1:=HcM.out W hSw;have q3:=cut_pr bN oN nr cr k (by omega) W;go_simp;try (with_reducible rfl)
        try simp only[Act.put,sA,sZ,sS]
        refine tk (i:=5) (oi:=⟨some 74,_,_,_,_,_⟩) (v:=?_) rfl (Or.inl ⟨by rfl,?_⟩) ?_
        rotate_left
        ·intro W hSw;have q0:=HcN.out W hSw;have q1:=HcM.out W hSw;have q3:=cut_pr bN oN nr cr k (by omega) W;go_simp;try (with_reducible rfl)
        try simp only[Act.put,sA,sZ,sS]
        refine tk (i:=6) (oi:=⟨some 75,_,_,_,_,_⟩) (v:=?_) rfl (Or.inl ⟨by rfl,?_⟩) ?_
        rotate_left
        ·intro W hSw;have q0:=HcN.out W hSw;have q1:=HcM.out W hSw;have q3:=cut_pr bN oN nr cr k (by omega) W;go_simp;try (with_reducible rfl)
        try simp only[Act.put,sA,sZ,sS]
        refine tk (i:=7) (oi:=⟨some 76,_,_,_,_,_⟩) (v:=?_) rfl (Or.inl ⟨by rfl,?_⟩) ?_
        rotate_left
        ·intro W hSw;have q0:=HcN.out W hSw;have q1:=HcM.out W hSw;have q3:=cut_pr bN oN nr cr k (by omega) W;go_simp;try (with_reducible rfl)
        try simp only[Act.put,sA,sZ,sS]
        refine tk (i:=8) (oi:=⟨some 77,_,_,_,_,_⟩) (v:=?_) rfl (Or.inl ⟨by rfl,?_⟩) ?_
        rotate_left
        ·intro W hSw;have q0:=HcN.out W hSw;have q1:=HcM.out W hSw;have q3:=cut_pr bN oN nr cr k (by omega) W;go_simp;try (with_reducible rfl)
        try simp only[Act.put,sA,sZ,sS]
        refine tk (i:=9) (oi:=⟨some 78,_,_,_,_,_⟩) (v:=?_) rfl (Or.inl ⟨by rfl,?_⟩) ?_
        rotate_left
        ·intro W hSw;have q0:=HcN.out W hSw;have q1:=HcM.out W hSw;have q3:=cut_pr bN oN nr cr k (by omega) W;go_simp;try (with_reducible rfl)
        try simp only[Act.put,sA,sZ,sS]
        refine tk (i:=10) (oi:=⟨some 79,_,_,_,_,_⟩) (v:=?_) rfl (Or.inl ⟨by rfl,?_⟩) ?_
        rotate_left
        ·intro W hSw;have q0:=HcN.out W hSw;have q1:=HcM.out W hSw;have q3:=cut_pr bN oN nr cr k (by omega) W;go_simp;try (with_reducible rfl)
        try simp only[Act.put,sA,sZ,sS]
        refine tk (i:=11) (oi:=⟨some 80,_,_,_,_,_⟩) (v:=?_) rfl (Or.inl ⟨by rfl,?_⟩) ?_
        rotate_left
        ·intro W hSw;have q0:=HcN.out W hSw;have q1:=HcM.out W hSw;have q3:=cut_pr bN oN nr cr k (by omega) W;go_simp;try (with_reducible rfl)
        try simp only[Act.put,sA,sZ,sS]
        refine tk (i:=12) (oi:=⟨some 81,_,_,_,_,_⟩) (v:=?_) rfl (Or.inl ⟨by rfl,?_⟩) ?_
        rotate_left
        ·intro W hSw;have q0:=HcN.out W hSw;have q1:=HcM.out W hSw;have q3:=cut_pr bN oN nr cr k (by omega) W;go_simp;try (with_reducible rfl)
        try simp only[Act.put,sA,sZ,sS]
        refine tk (i:=13) (oi:=⟨some 82,_,_,_,_,_⟩) (v:=?_) rfl (Or.inl ⟨by rfl,?_⟩) ?_
        rotate_left
        ·intro W hSw;have q0:=HcN.out W hSw;have q1:=HcM.out W hSw;have q3:=cut_pr bN oN nr cr k (by omega) W;go_simp;try (with_reducible rfl)
        try simp only[Act.put,sA,sZ,sS]
        refine tk (i:=14) (oi:=⟨some 83,_,_,_,_,_⟩) (v:=?_) rfl (Or.inl ⟨by rfl,?_⟩) ?_
        rotate_left
        ·intro W hSw;have q0:=HcN.out W hSw;have q1:=HcM.out W hSw;have q3:=cut_pr bN oN nr cr k (by omega) W;go_simp;try (with_reducible rfl)
        try simp only[Act.put,sA,sZ,sS]
        refine tk (i:=15) (oi:=⟨some 84,_,_,_,_,_⟩) (v:=?_) rfl (Or.inl ⟨by rfl,?_⟩) ?_
        rotate_left
        ·intro W hSw;have q0:=HcN.out W hSw;have q1:=HcM.out W hSw;have q3:=cut_pr bN oN nr cr k (by omega) W;go_simp;try (with_reducible rfl)
        try simp only[Act.put,sA,sZ,sS]
        refine tk (i:=16) (oi:=⟨some 85,_,_,_,_,_⟩) (v:=?_) rfl (Or.inl ⟨by rfl,?_⟩) ?_
        rotate_left
        ·intro W hSw;have q0:=HcN.out W hSw;have q1:=HcM.out W hSw;have q3:=cut_pr bN oN nr cr k (by omega) W;go_simp;try (with_reducible rfl)
        try simp only[Act.put,sA,sZ,sS]
        refine wpAnyH_ready (rs:=[17]) (by kernel_rfl) (by simp) ?_
        refine AllReadyH.cons (o:=⟨some 86,_,_,_,_,_⟩) rfl (fun K hK=>?_) AllReadyH.nil
        go_simp
        ((with_reducible refine(HWi.out _ D0.out).mono ?_);rintro e w9 ⟨rfl,hb9⟩;have D7:=Lib.hid (D0.out.trans (hb9.mono D0.out.size));clear hb9)
        try go_wp2_with fail
        refine hK.out _ _ (by exact D7.out) (fun hHeld=>?_)
        clear hK K
        try simp only[Act.put,sA,sZ,sS]
        refine tk (i:=18) (oi:=⟨some 87,_,_,_,_,_⟩) (v:=?_) rfl (Or.inl ⟨by rfl,?_⟩) ?_
        rotate_left
        ·intro W hSw;have q0:=HcN.out W hSw;have q1:=HcM.out W hSw;have q3:=cut_pr bN oN nr cr k (by omega) W;go_simp;try (with_reducible rfl)
        try simp only[Act.put,sA,sZ,sS]
        refine tk (i:=19) (oi:=⟨some 88,_,_,_,_,_⟩) (v:=?_) rfl (Or.inl ⟨by rfl,?_⟩) ?_
        rotate_left
        ·intro W hSw;have q0:=HcN.out W hSw;have q1:=HcM.out W hSw;have q3:=cut_pr bN oN nr cr k (by omega) W;go_simp;try (with_reducible rfl)
        try simp only[Act.put,sA,sZ,sS]
        refine wpAnyH_done (by kernel_rfl) ?_ _
        refine NoPanic.normal ?_
        have SK:=Lib.hid (hby.out.trans (D7.out.mono hby.out.size))
        have O9:=Lib.hid (hO.out.kept D7.out (Nat.le_refl _))
        have hmem:sb=decide ((n1,v1)∈ded (pk rs n1 y L k)):=by rw[←hsb];simp[subB]
        cases sb with
        |true=>
         have hm:(n1,v1)∈ded (pk rs n1 y L k):=by simpa using hmem.symm
         have hkeep:=HSt.out
         unfold addU at hkeep
         rw[if_pos hm]at hkeep
         have HKp:=Lib.hid hkeep
         clear hmem hm hkeep hsb
         go_wp2_with fail
         go_roundw
         case rel=>exact⟨k+1,k2,A2,c2,hkl,by first|rfl|(congr 1<;>omega),rfl,by omega,by rw[HKp.out];exact O9,SK⟩
         case measure=>simp[natOf];omega
        |false=>
         have hm:(n1,v1)∉ded (pk rs n1 y L k):=by simpa using hmem.symm
         have hkeep:=HSt.out
         unfold addU at hkeep
         rw[if_neg hm]at hkeep
         have HKp:=Lib.hid hkeep
         have p0:=HcN.out _ D7.out
         have p1:=HcV.out _ D7.out
         have HAp:=Lib.hid hAp
         clear hmem hm hkeep hsb
         go_upto_region 21 with(first
          |(at_builtin;refine wpList_append_elt pairElt rfl (.tmp 89) (.tmp 94) rfl w7.heap.size A2 k2 c2 (cellsP (ded (pk rs n1 y L k))) rfl (O9.out.2.2.alloc (.cells #[.string (T n1),.string (T v1)] 58)) ⟨w9.heap.size,0,none⟩ 1 1 [.string (T n1),.string (T v1)] rfl rfl (Blk.news (Blk.new w9 [.string (T n1),.string (T v1)] 58)) (by intro u hu;simp at hu;rcases hu with rfl|rfl<;>rfl) (by omega) (by omega) ?_;intro A5 c5 w5 ho5 hbel5;have O5:=Lib.hid ho5;have B5:=Lib.hid ((SK.out.alloc SK.out.size (.cells #[.string (T n1),.string (T v1)] 58)).trans hbel5);clear ho5 hbel5)
          |fail)
         have OK5:=Lib.hid (show OwnP w5 w7.heap.size A5 (k2+1) c5 (ded (pk rs n1 y L (k+1)))from by
          rw[HKp.out]
          refine⟨fun q hq=>?_,?_,?_⟩
          ·rcases List.mem_append.1 hq with h|h
           ·exact hnAll q h
           ·simp at h;subst h;exact HAp.out
          ·rw[List.length_append,hkl2];rfl
          ·rw[cellsP_app];exact O5.out)
         go_wp2_with fail
         go_roundw
         case rel=>exact⟨k+1,k2+1,A5,c5,hkl,by first|rfl|(congr 1<;>omega),rfl,by omega,OK5,B5⟩
         case measure=>simp[natOf];omega
       ·have hst:=hno hn
        have hbf:((T n1).toList==(T nm).toList)=false:=by rw[hbq];simpa using hn
        have HSt:=Lib.hid hst
        clear hyes hno hst hbq hpr hgd hn
        go_upto_region 22 with fail
        go_quiet (fail)
        have SK:=Lib.hid (show Below w7.heap.size w7 (wy.drewN nq)from hby.out.trans ⟨rfl,rfl,rfl,Nat.le_refl _,fun _ _=>rfl⟩)
        have O9:=Lib.hid (hO.out.kept (show Below wy.heap.size wy (wy.drewN nq)from⟨rfl,rfl,rfl,Nat.le_refl _,fun _ _=>rfl⟩) (Nat.le_refl _))
        go_wp2_with fail
        go_roundw
        case rel=>exact⟨k+1,k2,A2,c2,hkl,by first|rfl|(congr 1<;>omega),rfl,by omega,by rw[HSt.out];exact O9,SK⟩
        case measure=>simp[natOf];omega
      ·have ds3:decide ((k:Int)<(nr:Int))=false:=by simp;omega
       have hke:k=nr:=by omega
       subst hke
       go_wp2_with fail
       go_roundw
       case rel=>exact⟨y+1,k2,A2,c2,hy,by first|rfl|(congr 1<;>omega),rfl,by omega,by rw[←HPk.out];exact hO,hby⟩
       case measure=>simp[natOf];omega
    ·have ds2:decide ((y:Int)<(n:Int))=false:=by simp;omega
     have hye:y=n:=by omega
     subst hye
     have hall:=pf_all rs nm y HRl.out
     rw[hall]at hO
     have hk1l:=hO.out.2.1
     have hcM:=HNmI.out _ hby.out
     have HDw:=Lib.hid (HDn.out _ hby.out)
     by_cases h0:ofN rs nm=[]
     ·have hg:=HS1.out h0
      rw[hg]at HDw
      dsimp only at HDw
      have hk0:k1=0:=by rw[←hk1l,h0];rfl
      subst hk0
      clear hO hg h0 hall
      go_wp2_with(first
       |(go_at_call 24;(refine HDw.out.mono ?_);rintro e w8 ⟨hb8,A8,m8,c8,rfl,_,_⟩;have B8:=Lib.hid (hby.out.trans (hb8.mono hby.out.size));clear hb8)
       |fail)
      go_roundw
      case rel=>exact⟨i+1,hi,by first|rfl|(congr 1<;>omega),B8⟩
      case measure=>simp[natOf];omega
     ·have hg:=HS2.out h0
      rw[hg]at HDw
      dsimp only at HDw
      have hpos:=List.length_pos_iff.2 h0
      have hk0:((k1:Int)==0)=false:=by simp;omega
      have hbl:=HS3.out
      generalize hQ:ofN rs nm=Q at*
      go_upto_region 25 with(first
       |(go_at_call 24;(refine HDw.out.mono ?_);rintro e w8 ⟨hb8,A8,m8,c8,rfl,ho8,hl8⟩;have B8:=Lib.hid (hby.out.trans (hb8.mono hby.out.size));have O8:=Lib.hid ho8;have OQ:=Lib.hid (hO.out.kept hb8 (Nat.le_refl _));clear hb8 ho8)
       |fail)
      have hm8:m8=k1:=by rw[List.length_map]at hl8;omega
      subst hm8
      have hm8n:((m8:Int)!=(m8:Int))=false:=by simp
      have hbU: ∀z∈toI (Zd.byN m.datas nm),0≤z∧z≤18446744073709551615:=fun z hz=>by
       obtain⟨v,hv,rfl⟩:=List.mem_map.1 hz
       obtain⟨d,hd,_,e⟩:=Zd.mem_byN hv
       obtain⟨i2,hi2,rfl⟩:=List.getElem_of_mem hd
       have:=(HDt.out i2 hi2).2.2.2.1
       omega
      have H8:=Lib.hid (tell_ints O8.out hl8 hbU)
      have HLq:=Lib.hid fun(q:PR) (hq:q∈Q)=>show q.1.length≤64∧q.2.length≤256 from by
       rw[←hQ]at hq
       unfold ofN at hq
       rw[ded_mem]at hq
       obtain⟨r,hr,hq2⟩:=List.mem_flatMap.1 (List.mem_filter.1 hq).1
       obtain⟨k,hk,rfl⟩:=List.getElem_of_mem hr
       exact HLn.out k hk q hq2
      have S8:=Lib.hid (Below.refl w8.heap.size w8)
      clear hbU hl8 O8 hcM HDw hall hO hQ h0 hbl hpos HS1 HS2
      go_upto_region 30 with fail
      go_wp2_with fail
      go_loopw [16] (fun kv wr=> ∃k:Nat,k≤m8∧kv= .int .i64 (k:Int)∧Hid (Below w8.heap.size w8 wr)) (fun kv _=>m8-natOf kv)
      case atStart=>exact⟨0,Nat.zero_le _,rfl,S8⟩
      case round=>
       clear S8
       obtain⟨k,hkm,rfl,hbk⟩:=hrel
       by_cases hk:k<m8
       ·have ds4:decide ((k:Int)<(m8:Int))=true:=by simp;omega
        have hlt4:(k:Int)<(m8:Int):=by omega
        have hwk:IntKind.i64.wrap ((k:Int)+1)=((k+1:Nat):Int):=by rw[IntKind.wrap_i64];omega
        obtain⟨i2,hi2,e1,e2⟩:=HS4.out k (by omega)
        obtain⟨t1,t2,t3,t4,t5⟩:=HDt.out i2 hi2
        have hne2:=HNe.out i2 hi2
        obtain⟨b8,o8,hA8,hb8l,hc8,_⟩:=(H8.out.below hbk.out) k hk
        dsimp only at hc8
        rw[toI_get,←e1]at hc8
        have BK:=Lib.hid (B8.out.trans (hbk.out.mono B8.out.size))
        have HDx:=Lib.hid (HDa7.out m.datas[i2].at_ _ BK.out)
        rw[t1,t3]at HDx
        generalize m.datas[i2].at_=x at*
        generalize hidx:Q.length-1-k=idx at*
        have hil:idx<Q.length:=by omega
        have hqm:Q.getD idx nil2∈Q:=by rw[List.getD_eq_getElem?_getD,List.getElem?_eq_getElem hil];exact List.getElem_mem hil
        have hql:=HLq.out _ hqm
        obtain⟨bQ,oQ,hAQ,hbQ,hcA,hcB⟩:=OQ.out.prs.2 idx hil
        generalize Q.getD idx nil2=q at*
        obtain⟨nm2,vl⟩:=q
        dsimp only at hql hcA hcB e2
        rw[e2]at HDx hne2
        subst hA8
        subst hAQ
        have hT:=Lib.hid hne2
        have hbt:((T (pay nm2 vl)).toList==(T (pay nm2 vl)).toList)=true:=by simp
        have HRp:=Lib.hid fun(W:World)=>show Calls Tryz.prog 31 #[.agg #[.string (T nm2),.string (T vl)]] W fun e w'=>e= .returned (.string (T (pay nm2 vl)))∧Below W.heap.size W w' from(Fc.rpayload_any nm2 vl (by omega) W).mono fun e w' h=>⟨h.1,h.2▸(Below.refl W.heap.size W).alloc (Nat.le_refl _) _⟩
        generalize dN H l E x 0=x0 at*
        generalize dN H l E x 1=x1 at*
        generalize dN H l E x 2=x2 at*
        generalize dN H l E x 3=x3 at*
        generalize dN H l E x 4=x4 at*
        generalize dN H l E x 5=x5 at*
        clear t1 t2 t3 e1 e2 hne2 hqm
        go_upto_region 34 with(first
         |(go_at_call 32;(refine HDx.out.mono ?_);rintro e wC ⟨hbC,AC,mC,cC,rfl,hyC,hlC,_⟩;have BC:=Lib.hid (hbk.out.trans (hbC.mono hbk.out.size));have YC:=Lib.hid hyC;have LC:=Lib.hid hlC;clear hbC hyC hlC)
         |fail)
        have ZD:=Lib.hid (Blk.new wC [.int .u64 x0,.int .u64 x1,.int .u64 x2,.int .u64 x3,.int .u64 x4,.int .u64 x5,.slice AC mC cC] 67)
        have bD:=Lib.hid ((Below.refl wC.heap.size wC).alloc (Nat.le_refl _) (.cells #[.int .u64 x0,.int .u64 x1,.int .u64 x2,.int .u64 x3,.int .u64 x4,.int .u64 x5,.slice AC mC cC] 67))
        generalize (wC.alloc (.cells #[.int .u64 x0,.int .u64 x1,.int .u64 x2,.int .u64 x3,.int .u64 x4,.int .u64 x5,.slice AC mC cC] 67))=wD at*
        have YD:=Lib.hid (YC.out.below bD.out (Nat.le_refl _))
        have BD:=Lib.hid (BC.out.trans (bD.out.mono BC.out.size))
        have LQ:=Lib.hid OQ.out.2.1
        have hkQ:=LQ.out
        have hw1:IntKind.i64.wrap ((m8:Int)-1)=((m8-1:Nat):Int):=by rw[IntKind.wrap_i64];omega
        have hw2:IntKind.i64.wrap (((m8-1:Nat):Int)-(k:Int))=(idx:Int):=by rw[IntKind.wrap_i64];omega
        have hlt5:(idx:Int)<(m8:Int):=by omega
        have HcA:=Lib.hid fun(W:World) (hW:Below wD.heap.size wD W)=>((BD.out.trans (hW.mono BD.out.size)).cell (p:=⟨bQ,oQ+idx*2,none⟩) hbQ).trans hcA
        have HcB:=Lib.hid fun(W:World) (hW:Below wD.heap.size wD W)=>((BD.out.trans (hW.mono BD.out.size)).cell (p:=⟨bQ,oQ+idx*2+1,none⟩) hbQ).trans hcB
        have D0:=Lib.hid (show Below wD.heap.size wD wD.drew from(Below.refl wD.heap.size wD).drew)
        clear hcA hcB bD YC BC hkQ
        refine wp_region_noPanic ?_
        refine wp_region_held_drew (S:=fun W:World=>Below wD.heap.size wD W) (by kernel_rfl) (by exact D0.out) (fun hHeld=>?_)
        refine tk (i:=0) (oi:=⟨some 134,_,_,_,_,_⟩) (v:=?_) rfl (Or.inl ⟨by rfl,?_⟩) ?_
        rotate_left
        ·intro W hSw;have q0:=(ZD.out.below hSw ZD.out.lt).cell (i:=6) rfl;have q1:=HcA.out W hSw;have q2:=HcB.out W hSw;have q3:=bytes_back cC (YD.out.below hSw (Nat.le_refl _)) LC.out hT.out;go_simp;try (with_reducible rfl)
        try simp only[Act.put,sA,sZ,sS]
        refine tk (i:=1) (oi:=⟨some 135,_,_,_,_,_⟩) (v:=?_) rfl (Or.inl ⟨by rfl,?_⟩) ?_
        rotate_left
        ·intro W hSw;have q0:=(ZD.out.below hSw ZD.out.lt).cell (i:=6) rfl;have q1:=HcA.out W hSw;have q2:=HcB.out W hSw;have q3:=bytes_back cC (YD.out.below hSw (Nat.le_refl _)) LC.out hT.out;go_simp;try (with_reducible rfl)
        try simp only[Act.put,sA,sZ,sS]
        refine tk (i:=2) (oi:=⟨some 136,_,_,_,_,_⟩) (v:=?_) rfl (Or.inl ⟨by rfl,?_⟩) ?_
        rotate_left
        ·intro W hSw;have q0:=(ZD.out.below hSw ZD.out.lt).cell (i:=6) rfl;have q1:=HcA.out W hSw;have q2:=HcB.out W hSw;have q3:=bytes_back cC (YD.out.below hSw (Nat.le_refl _)) LC.out hT.out;go_simp;try (with_reducible rfl)
        try simp only[Act.put,sA,sZ,sS]
        refine tk (i:=3) (oi:=⟨some 137,_,_,_,_,_⟩) (v:=?_) rfl (Or.inl ⟨by rfl,?_⟩) ?_
        rotate_left
        ·intro W hSw;have q0:=(ZD.out.below hSw ZD.out.lt).cell (i:=6) rfl;have q1:=HcA.out W hSw;have q2:=HcB.out W hSw;have q3:=bytes_back cC (YD.out.below hSw (Nat.le_refl _)) LC.out hT.out;go_simp;try (with_reducible rfl)
        try simp only[Act.put,sA,sZ,sS]
        refine tk (i:=4) (oi:=⟨some 138,_,_,_,_,_⟩) (v:=?_) rfl (Or.inl ⟨by rfl,?_⟩) ?_
        rotate_left
        ·intro W hSw;have q0:=(ZD.out.below hSw ZD.out.lt).cell (i:=6) rfl;have q1:=HcA.out W hSw;have q2:=HcB.out W hSw;have q3:=bytes_back cC (YD.out.below hSw (Nat.le_refl _)) LC.out hT.out;go_simp;try (with_reducible rfl)
        try simp only[Act.put,sA,sZ,sS]
        refine tk (i:=5) (oi:=⟨some 139,_,_,_,_,_⟩) (v:=?_) rfl (Or.inl ⟨by rfl,?_⟩) ?_
        rotate_left
        ·intro W hSw;have q0:=(ZD.out.below hSw ZD.out.lt).cell (i:=6) rfl;have q1:=HcA.out W hSw;have q2:=HcB.out W hSw;have q3:=bytes_back cC (YD.out.below hSw (Nat.le_refl _)) LC.out hT.out;go_simp;try (with_reducible rfl)
        try simp only[Act.put,sA,sZ,sS]
        refine tk (i:=6) (oi:=⟨some 140,_,_,_,_,_⟩) (v:=?_) rfl (Or.inl ⟨by rfl,?_⟩) ?_
        rotate_left
        ·intro W hSw;have q0:=(ZD.out.below hSw ZD.out.lt).cell (i:=6) rfl;have q1:=HcA.out W hSw;have q2:=HcB.out W hSw;have q3:=bytes_back cC (YD.out.below hSw (Nat.le_refl _)) LC.out hT.out;go_simp;try (with_reducible rfl)
        try simp only[Act.put,sA,sZ,sS]
        refine tk (i:=7) (oi:=⟨some 141,_,_,_,_,_⟩) (v:=?_) rfl (Or.inl ⟨by rfl,?_⟩) ?_
        rotate_left
        ·intro W hSw;have q0:=(ZD.out.below hSw ZD.out.lt).cell (i:=6) rfl;have q1:=HcA.out W hSw;have q2:=HcB.out W hSw;have q3:=bytes_back cC (YD.out.below hSw (Nat.le_refl _)) LC.out hT.out;go_simp;try (with_reducible rfl)
        try simp only[Act.put,sA,sZ,sS]
        refine tk (i:=8) (oi:=⟨some 142,_,_,_,_,_⟩) (v:=?_) rfl (Or.inl ⟨by rfl,?_⟩) ?_
        rotate_left
        ·intro W hSw;have q0:=(ZD.out.below hSw ZD.out.lt).cell (i:=6) rfl;have q1:=HcA.out W hSw;have q2:=HcB.out W hSw;have q3:=bytes_back cC (YD.out.below hSw (Nat.le_refl _)) LC.out hT.out;go_simp;try (with_reducible rfl)
        try simp only[Act.put,sA,sZ,sS]
        refine tk (i:=9) (oi:=⟨some 143,_,_,_,_,_⟩) (v:=?_) rfl (Or.inl ⟨by rfl,?_⟩) ?_
        rotate_left
        ·intro W hSw;have q0:=(ZD.out.below hSw ZD.out.lt).cell (i:=6) rfl;have q1:=HcA.out W hSw;have q2:=HcB.out W hSw;have q3:=bytes_back cC (YD.out.below hSw (Nat.le_refl _)) LC.out hT.out;go_simp;try (with_reducible rfl)
        try simp only[Act.put,sA,sZ,sS]
        refine tk (i:=10) (oi:=⟨some 144,_,_,_,_,_⟩) (v:=?_) rfl (Or.inl ⟨by rfl,?_⟩) ?_
        rotate_left
        ·intro W hSw;have q0:=(ZD.out.below hSw ZD.out.lt).cell (i:=6) rfl;have q1:=HcA.out W hSw;have q2:=HcB.out W hSw;have q3:=bytes_back cC (YD.out.below hSw (Nat.le_refl _)) LC.out hT.out;go_simp;try (with_reducible rfl)
        try simp only[Act.put,sA,sZ,sS]
        refine tk (i:=11) (oi:=⟨some 145,_,_,_,_,_⟩) (v:=?_) rfl (Or.inl ⟨by rfl,?_⟩) ?_
        rotate_left
        ·intro W hSw;have q0:=(ZD.out.below hSw ZD.out.lt).cell (i:=6) rfl;have q1:=HcA.out W hSw;have q2:=HcB.out W hSw;have q3:=bytes_back cC (YD.out.below hSw (Nat.le_refl _)) LC.out hT.out;go_simp;try (with_reducible rfl)
        try simp only[Act.put,sA,sZ,sS]
        refine tk (i:=12) (oi:=⟨some 146,_,_,_,_,_⟩) (v:=?_) rfl (Or.inl ⟨by rfl,?_⟩) ?_
        rotate_left
        ·intro W hSw;have q0:=(ZD.out.below hSw ZD.out.lt).cell (i:=6) rfl;have q1:=HcA.out W hSw;have q2:=HcB.out W hSw;have q3:=bytes_back cC (YD.out.below hSw (Nat.le_refl _)) LC.out hT.out;go_simp;try (with_reducible rfl)
        try simp only[Act.put,sA,sZ,sS]
        refine tk (i:=13) (oi:=⟨some 147,_,_,_,_,_⟩) (v:=?_) rfl (Or.inl ⟨by rfl,?_⟩) ?_
        rotate_left
        ·intro W hSw;have q0:=(ZD.out.below hSw ZD.out.lt).cell (i:=6) rfl;have q1:=HcA.out W hSw;have q2:=HcB.out W hSw;have q3:=bytes_back cC (YD.out.below hSw (Nat.le_refl _)) LC.out hT.out;go_simp;try (with_reducible rfl)
        try simp only[Act.put,sA,sZ,sS]
        refine wpAnyH_ready (rs:=[14]) (by kernel_rfl) (by simp) ?_
        refine AllReadyH.cons (o:=⟨some 148,_,_,_,_,_⟩) rfl (fun K hK=>?_) AllReadyH.nil
        go_simp
        ((with_reducible refine(HRp.out _).mono ?_);rintro e w9 ⟨rfl,hb9⟩;have D7:=Lib.hid (D0.out.trans (hb9.mono D0.out.size));clear hb9)
        try go_wp2_with fail
        refine hK.out _ _ (by exact D7.out) (fun hHeld=>?_)
        clear hK K
        try simp only[Act.put,sA,sZ,sS]
        refine tk (i:=15) (oi:=⟨some 149,_,_,_,_,_⟩) (v:=?_) rfl (Or.inl ⟨by rfl,?_⟩) ?_
        rotate_left
        ·intro W hSw;have q0:=(ZD.out.below hSw ZD.out.lt).cell (i:=6) rfl;have q1:=HcA.out W hSw;have q2:=HcB.out W hSw;have q3:=bytes_back cC (YD.out.below hSw (Nat.le_refl _)) LC.out hT.out;go_simp;try (with_reducible rfl)
        try simp only[Act.put,sA,sZ,sS]
        refine tk (i:=16) (oi:=⟨some 150,_,_,_,_,_⟩) (v:=?_) rfl (Or.inl ⟨by rfl,?_⟩) ?_
        rotate_left
        ·intro W hSw;have q0:=(ZD.out.below hSw ZD.out.lt).cell (i:=6) rfl;have q1:=HcA.out W hSw;have q2:=HcB.out W hSw;have q3:=bytes_back cC (YD.out.below hSw (Nat.le_refl _)) LC.out hT.out;go_simp;try (with_reducible rfl)
        try simp only[Act.put,sA,sZ,sS]
        refine wpAnyH_done (by kernel_rfl) ?_ _
        refine NoPanic.normal ?_
        have SK:=Lib.hid (BD.out.trans (D7.out.mono BD.out.size))
        go_wp2_with fail
        go_roundw
        case rel=>exact⟨k+1,hk,by first|rfl|(congr 1<;>omega),SK⟩
        case measure=>simp[natOf];omega
       ·have ds4:decide ((k:Int)<(m8:Int))=false:=by simp;omega
        go_wp2_with fail
        go_roundw
        case rel=>exact⟨i+1,hi,by first|rfl|(congr 1<;>omega),Lib.hid (B8.out.trans (hbk.out.mono B8.out.size))⟩
        case measure=>simp[natOf];omega
  ·have ds1:decide ((i:Int)<6)=false:=by simp;omega
   go_wp2_with fail
   go_ret
   exact⟨rfl,Bf.out _ hbi.out⟩
theorem walk (a:Option Addr)(len cap:Nat)(z:List Int)(w:World)(h:IsRow .i64 w a len cap z):
 Calls Tryz.prog 5 #[.slice a len cap] w fun e w'=>e= .returned (.bool true)∧Below w.heap.size w w':=by
 obtain⟨hI,h2,h3⟩:=ints_in h
 by_cases h1:len≤120
 ·exact walk_main a len cap _ w hI h1
 ·have d1:decide ((120:Int)<(len:Int))=true:=by simp;omega
  clear h hI
  go_enter Tryz.func5,Tryz.ntmps5
  go_wp2_with(go_at_call 12;((with_reducible refine(first_chain _).mono ?_);rintro e w1 ⟨rfl,hb1⟩;have B1:=Lib.hid hb1;clear hb1))
  go_ret
  exact⟨rfl,B1.out⟩
end ChainDatasW
end Go.Proofs.YtjecmgkmcfkcjaaGreat
