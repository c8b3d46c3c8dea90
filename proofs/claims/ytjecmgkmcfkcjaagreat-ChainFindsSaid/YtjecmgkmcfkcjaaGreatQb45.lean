/-
  Texts beneath the proof.
-/
import Derived.Test.YtjecmgkmcfkcjaaGreatQb44
import Derived.Test.YtjecmgkmcfkcjaaGreatQb41
import Derived.Test.YtjecmgkmcfkcjaaGreatQb43
import Derived.Test.YtjecmgkmcfkcjaaGreatQb35
import Derived.Test.YtjecmgkmcfkcjaaGreatQb20
import Derived.Test.YtjecmgkmcfkcjaaGreatQb15
import Derived.Test.YtjecmgkmcfkcjaaGreatQb30
set_option linter.unusedVariables false
set_option linter.unusedSimpArgs false
set_option maxRecDepth 100000
set_option maxHeartbeats 16000000
open Go.ChangeShapes Go.WideShapes Go.ChangeAt Go.RowKit
namespace Go.Proofs.YtjecmgkmcfkcjaaGreat
namespace ChainFindsW
open Wg
open Bytes8 Blk8 Own8 OwnM OwnE Rows2 Od Ga Gb Gj Ma Mb Mg Mh Na Np Ns Nt Nus Nu Rc Rp Va Vf Vg Pr8 Pb8 Zg Zj Zl Zx Zy Zz Seq8 SeqP Kf Xh Xi Fa Fc
open Xk (find_pair find_name)
open Xl (bytes_back)
open Go1 (hcode HTold)
open Rd (dcode)
open Rf (fcode)
theorem rows_fields {w4:World}{gq:Nat}{F:Nat→Prop}{B n c:Nat}{A:Option Addr}{xs:List Value}{b0:Int}{rs:List (List PR×Int×Int×(Nat→Int))}(h:RowsR w4 gq F A xs b0 rs)(ho:OwnE 64 20 w4 B A n c xs)(hl:rs.length=n)(k:Nat)(hk:k<n)(W:World)(hW:Below w4.heap.size w4 W):
 ∃(bR:Nat) (Ar:Option Addr) (nr cr:Nat) (L:List PR),A=some ⟨bR,0,none⟩∧W.cell? ⟨bR,k*20+19,none⟩=some (.slice Ar nr cr)∧L.length=nr∧nr≤16∧Prs W Ar L∧L=(rs.getD k ([],0,0,fun _=>0)).1:=by
 subst hl
 obtain⟨Ar,nr,cr,e1,e2,e3,e4,_⟩:=h.at_ k hk
 have hxl:=h.len
 obtain⟨bR,h1,_,h2,h3⟩:=ho.cell (i:=20*k+19) (by omega)
 refine⟨bR,Ar,nr,cr,rs[k].1,h1,?_,e2,e3,e4.below hW,?_⟩
 ·have hv:xs[20*k+19]'(by omega)= .slice Ar nr cr:=by
   have h5:((xs.drop (20*k)).take 20)[19]? =some (.slice Ar nr cr):=by rw[e1];rfl
   rw[List.getElem?_take_of_lt (by decide),List.getElem?_drop,List.getElem?_eq_getElem (by omega)]at h5
   exact Option.some.inj h5
  rw[Nat.mul_comm k 20]
  exact(hW.cell (p:=⟨bR,20*k+19,none⟩) h2).trans (h3.trans (by rw[List.getElem?_eq_getElem (by omega),hv]))
 ·rw[List.getD_eq_getElem?_getD,List.getElem?_eq_getElem hk];rfl
theorem name_facts (i:Nat)(hi:i<6):nmB (nameLs.getD i [])=true∧AllB (nameLs.getD i [])∧(nameLs.getD i []).length≤100∧nameLs.getD i []≠ []:=by
 have hm:nameLs.getD i []∈nameLs:=getD_mem hi
 have h:nameLs.all (fun n=>decide (n.length≤100)&& !n.isEmpty)=true:=by decide+kernel
 have h2:=List.all_eq_true.1 h _ hm
 simp only[Bool.and_eq_true,decide_eq_true_eq,Bool.not_eq_true',List.isEmpty_eq_false_iff]at h2
 exact⟨(names_ok _ hm).2,(names_ok _ hm).1,h2.1,h2.2⟩
theorem value_facts (i:Nat)(hi:i<10):AllB (valueLs.getD i [])∧(valueLs.getD i []).length≤256:=values_ok _ (getD_mem hi)
def isB (rs:List (List PR×Int×Int×(Nat→Int)))(p:PR)(k:Nat):Bool:=(rs.take k).any fun r=>decide (p∈r.1)
def hasB (rs:List (List PR×Int×Int×(Nat→Int)))(nm:List Int)(y:Nat):Bool:=(valueLs.take y).any fun v=>isB rs (nm,v) rs.length
theorem prs_one {w:World}{g:Nat}{n v:List Int}{T0:TypeId}(h:Blk w g [.string (T n),.string (T v)] T0)(ok:okP (n,v)):Prs w (some ⟨g,0,none⟩) [(n,v)]:=by
 refine⟨fun p hp=>?_,fun i hi=>?_⟩
 ·rw[List.mem_singleton]at hp
  subst hp
  exact ok
 ·have h0:i=0:=by simpa using hi
  subst h0
  exact⟨g,0,rfl,h.lt,h.cell (i:=0) rfl,h.cell (i:=1) rfl⟩
theorem isB_full (rs:List (List PR×Int×Int×(Nat→Int)))(p:PR)(k:Nat)(hk:k=rs.length):isB rs p k=true↔ ∃r∈rs,p∈r.1:=by
 subst hk
 unfold isB
 rw[List.take_length,List.any_eq_true]
 simp only[decide_eq_true_eq]
theorem hasB_step (rs:List (List PR×Int×Int×(Nat→Int)))(nm:List Int)(y:Nat)(hy:y<10)(b:Bool)(hb:isB rs (nm,valueLs.getD y []) rs.length=b):hasB rs nm (y+1)=(hasB rs nm y||b):=by
 have hy2:y<valueLs.length:=hy
 unfold hasB
 rw[List.take_add_one,List.any_append,←hb,List.getD_eq_getElem?_getD,List.getElem?_eq_getElem hy2]
 simp
theorem hasB_full (rs:List (List PR×Int×Int×(Nat→Int)))(nm:List Int)(y:Nat)(hy:y=10)(h: ∀r∈rs,∀q∈r.1,q.2∈valueLs):hasB rs nm y=true↔ ∃r∈rs,∃v,(nm,v)∈r.1:=by
 subst hy
 unfold hasB
 rw[show valueLs.take 10=valueLs from rfl,List.any_eq_true]
 constructor
 ·rintro⟨v,_,hv⟩
  obtain⟨r,hr,hq⟩:=(isB_full rs (nm,v) rs.length rfl).1 hv
  exact⟨r,hr,v,hq⟩
 ·rintro⟨r,hr,v,hq⟩
  exact⟨v,h r hr _ hq,(isB_full rs (nm,v) rs.length rfl).2 ⟨r,hr,hq⟩⟩
theorem isB_step (rs:List (List PR×Int×Int×(Nat→Int)))(p:PR)(k:Nat)(hk:k<rs.length){L:List PR}(hL:L=(rs.getD k ([],0,0,fun _=>0)).1):isB rs p (k+1)=(isB rs p k||decide (p∈L)):=by
 subst hL
 unfold isB
 rw[List.take_add_one,List.getElem?_eq_getElem hk,List.any_append,List.getD_eq_getElem?_getD,List.getElem?_eq_getElem hk]
 simp
attribute [local irreducible] HD.cells wpList Code.wp
theorem walk_main (a:Option Addr)(len cap:Nat)(f:Nat→Int)(w:World)(hI:InInts .i64 w a len f)(hl:len≤120):
 Calls Tryz.prog 4 #[.slice a len cap] w fun e w'=>e= .returned (.bool true)∧Below w.heap.size w w':=by
 have d1:decide ((120:Int)<(len:Int))=false:=by simp;omega
 have HI:=Lib.hid hI
 clear hI
 go_enter Tryz.func4,Tryz.ntmps4
 go_upto_region 6 with(go_at_call 12;((with_reducible refine(first_chain _).mono ?_);rintro e w1 ⟨rfl,hb1⟩;have B1:=Lib.hid hb1;clear hb1))
 clear d1
 have HI1:=Lib.hid (HI.out.below B1.out)
 have Q1:=Lib.hid (show SeqIn (w1.alloc (.cells #[.slice a len cap,.int .i64 0] 55)) w1.heap.size a len cap f 0 from⟨Blk.new w1 [.slice a len cap,.int .i64 0] _,HI1.out.below ((Below.refl _ _).alloc (Nat.le_refl _) _),fun h0 b off e=>by obtain⟨b',off',e',h1,_⟩:=HI1.out 0 h0;rw[e]at e';injection e' with e';injection e' with e';omega,Nat.zero_le _,by omega⟩)
 have b1:=Lib.hid ((Below.refl w1.heap.size w1).alloc (Nat.le_refl _) (.cells #[.slice a len cap,.int .i64 0] 55))
 have HM:=Lib.hid (makerR_anyS w1.heap.size a len cap f 0 12 _ Q1.out (by decide))
 unfold MadeRS at HM
 go_upto_region 7 with(first
  |(go_at_call 28;(refine HM.out.mono ?_);rintro e w2 ⟨g,A,n,c,B,p,m,rs,xs,b0,rfl,hB,hat,hgd,hk,hrw,hrc,hrl,hn9,hro,htd⟩;have HA:=Lib.hid hat;have HG:=Lib.hid hgd;have HK:=Lib.hid hk;have HRw:=Lib.hid hrw;have HRc:=Lib.hid hrc;have HRl:=Lib.hid hrl;have HRo:=Lib.hid hro;have HTd:=Lib.hid htd;clear hat hgd hk hrw hrc hrl hn9 hro htd)
  |fail)
 have hI:=HG.out.img
 obtain⟨l1,l2,l3⟩:=hI.lens
 have hn12:=HG.out.le
 obtain⟨os,hs,mi,es,j⟩:=jn_of HRc.out
 have ht:(0:Int)≤1∧(1:Int)≤2:=by decide
 have HIm:=Lib.hid (image_any B g p.bb p.cb p.S m 1 w2 HA.out.st (by omega) (st_head hI ht) (by have:=hI.inv.dep;omega))
 unfold Owned at HIm
 obtain⟨⟨t1,t2,_⟩,t4,t5,_⟩:=st_tab j.k ht
 have hds:=j.k.good.img.inv.ds
 have hfs:=j.k.good.img.inv.fs
 have ht4:tCode (hdOf (stL m 1)) (stL m 1) 4=0→0<tNum (hdOf (stL m 1)) (stL m 1) 4∧tNum (hdOf (stL m 1)) (stL m 1) 4≤1000000:=fun _=>by rw[t2];omega
 have ht5:tCode (hdOf (stL m 1)) (stL m 1) 5=0→0<tNum (hdOf (stL m 1)) (stL m 1) 5∧tNum (hdOf (stL m 1)) (stL m 1) 5≤1000000:=fun _=>by rw[t5];omega
 have HPr:=Lib.hid fun(n v:List Int) (hf:flawI n v=0)=>find_pair j HRc.out ht hf
 have HNa:=Lib.hid fun(nm:List Int)=>find_name j HRc.out ht nm
 obtain⟨E,hE⟩: ∃E,m.b.length=E:=⟨_,rfl⟩
 have hlen:=st_len hI 1
 have hz:=st_hcode hI ht
 obtain⟨he1,he2⟩:=st_end hI ht
 have hsl:(HD.plus (Mk.head m 1) (m.depth:Int)).bytes 21++m.b.drop 272=stL m 1:=rfl
 rw[hsl]at HIm
 have hE0:E≤300000:=by omega
 rw[hE]at hlen hz he1 HIm HPr HNa
 generalize stL m 1=l at*
 have HOp:=Lib.hid fun(A:Option Addr) (c:Nat) (W:World) (hb:Bytes W A l) (hc:E≤c)=>by
  have k:=open_fine l A E c W hb hlen (by omega) hc hz E he1 he2 (Nat.le_refl _) (hdOf_ok hb.1 21)
  unfold Opened at k
  rw[List.take_of_length_le (by omega)]at k
  exact k
 have B2:=Lib.hid (B1.out.trans ((b1.out.trans (KeptB.below (HK.out.mono b1.out.size) (Nat.le_refl _))).mono B1.out.size))
 clear Q1 HM b1 HI HI1 hsl hlen hz he1 he2 hI HRc HG HK l1 l2 l3 ht HA j t1 t2 t4 t5 hds hfs B1
 go_upto_region 8 with(first
  |(go_at_call 29;(refine HIm.out.mono ?_);rintro e w3 ⟨A3,c3,rfl,ho3,hb3⟩;have HO3:=Lib.hid ho3.bytes;have HC3:=Lib.hid (own_cap ho3);have B3:=Lib.hid hb3;clear ho3 hb3)
  |(go_at_call 15;(refine(HOp.out _ _ _ HO3.out HC3.out.1).mono ?_);rintro e w4 ⟨gv,A9,c9,rfl,_,hv,hc9,hb4⟩;have HV:=Lib.hid hv;have HC9:=Lib.hid hc9;have B4:=Lib.hid (B3.out.trans (hb4.mono B3.out.size));clear hv hb4 hc9)
  |fail)
 have HRo4:=Lib.hid (HRo.out.step (KeptF.of_below (F:=fun _=>False) B4.out) (fun _ _ h=>h.elim) (fun _ _ h=>h) (fun _ _ h=>h))
 have HRw4:=Lib.hid (HRw.out.own.kept B4.out (Nat.le_refl _))
 have B5:=Lib.hid (B2.out.trans (B4.out.mono B2.out.size))
 have hAB:=HV.out.by_.1
 clear HIm HOp HRo HRw HO3 HC3 B2 B3 B4
 generalize hdOf l=H at*
 have HFd:=Lib.hid fun(A1:Option Addr) (t:List Int) (m1 c1:Nat) (W:World) (hW:Below w4.heap.size w4 W) (hb1:Bytes W A1 t) (hl1:t.length=m1) (h1:m1≤800000) (h2:m1≤c1) (h3:c1≤maxLen)=>finddata_any A1 t m1 c1 W (HV.out.below hW) HC9.out hb1 hl1 h1 h2 h3 ht4
 have HFf:=Lib.hid fun(t:List Int) (hA:AllB t) (hl2:t.length≤800000) (W:World) (hW:Below w4.heap.size w4 W)=>findfield_any t W (HV.out.below hW) HC9.out hA hl2 ht5
 have HDa:=Lib.hid fun(x:Nat) (W:World) (hW:Below w4.heap.size w4 W)=>by have q:=dataTell x W (HV.out.below hW) HC9.out;unfold TellD at q;exact q
 have HDf:=Lib.hid fun(x:Nat) (W:World) (hW:Below w4.heap.size w4 W)=>by have q:=fieldTell x W (HV.out.below hW) HC9.out;unfold TellF at q;exact q
 have S4:=Lib.hid (Below.refl w4.heap.size w4)
 go_upto_region 11 with(first
  |(go_at_call 20;(with_reducible refine(names_any _).mono ?_);rintro e w6 ⟨rfl,hN6,hb6,-⟩;have N6:=Lib.hid hN6;have S6:=Lib.hid hb6;clear hN6 hb6)
  |(go_at_call 21;(with_reducible refine(values_any _).mono ?_);rintro e w7 ⟨rfl,hV7,hb7,-⟩;have V7:=Lib.hid hV7;have N7:=Lib.hid (N6.out.below hb7 N6.out.lt);have S7:=Lib.hid (S6.out.trans (hb7.mono S6.out.size));clear hV7 hb7))
 have HFd7:=Lib.hid fun(A1:Option Addr) (t:List Int) (m1 c1:Nat) (W:World) (hW:Below w7.heap.size w7 W)=>HFd.out A1 t m1 c1 W (S7.out.trans (hW.mono S7.out.size))
 have HFf7:=Lib.hid fun(t:List Int) (hA:AllB t) (hl2:t.length≤800000) (W:World) (hW:Below w7.heap.size w7 W)=>HFf.out t hA hl2 W (S7.out.trans (hW.mono S7.out.size))
 have HDa7:=Lib.hid fun(x:Nat) (W:World) (hW:Below w7.heap.size w7 W)=>HDa.out x W (S7.out.trans (hW.mono S7.out.size))
 have HDf7:=Lib.hid fun(x:Nat) (W:World) (hW:Below w7.heap.size w7 W)=>HDf.out x W (S7.out.trans (hW.mono S7.out.size))
 have HNm:=Lib.hid fun(i:Nat) (hi:i<6) (W:World) (hW:Below w7.heap.size w7 W)=>text_at (N7.out.below hW N7.out.lt) i hi
 have HVl:=Lib.hid fun(i:Nat) (hi:i<10) (W:World) (hW:Below w7.heap.size w7 W)=>text_at (V7.out.below hW V7.out.lt) i hi
 have HRows:=Lib.hid fun(k:Nat) (hk:k<n) (W:World) (hW:Below w7.heap.size w7 W)=>rows_fields HRo4.out HRw4.out HRl.out k hk W (S7.out.trans (hW.mono S7.out.size))
 have Bf:=Lib.hid fun(W:World) (hW:Below w7.heap.size w7 W)=>show Below w.heap.size w W from(B5.out.trans (S7.out.mono B5.out.size)).trans (hW.mono (B5.out.trans (S7.out.mono B5.out.size)).size)
 have R7:=Lib.hid (Below.refl w7.heap.size w7)
 generalize w6.heap.size=gV at*
 generalize w4.heap.size=gN at*
 clear HFd HFf HDa HDf N6 S6 V7 N7 S7 S4 B5 HRo4 HRw4 HV
 go_upto_region 11 with fail
 go_wp2_with fail
 go_loopw [10] (fun kv wr=> ∃i:Nat,i≤6∧kv= .int .i64 (i:Int)∧Hid (Below w7.heap.size w7 wr)) (fun kv _=>6-Vg.natOf kv)
 case atStart=>exact⟨0,by omega,rfl,R7⟩
 case round=>
  obtain⟨i,hi6,rfl,hbi⟩:=hrel
  by_cases hi:i<6
  ·have ds1:decide ((i:Int)<6)=true:=by simp;omega
   have hlt1:(i:Int)<6:=by omega
   have hwi:IntKind.i64.wrap ((i:Int)+1)=((i+1:Nat):Int):=by rw[IntKind.wrap_i64];omega
   obtain⟨nm,hnm⟩: ∃s,s=nameLs.getD i []:=⟨_,rfl⟩
   have HNmI:=Lib.hid fun(W:World) (hW:Below w7.heap.size w7 W)=>HNm.out i hi W hW
   obtain⟨hnB,hnA,hnl,hne⟩:=name_facts i hi
   rw[←hnm]at HNmI hnA hnl hnB hne
   have HNN:=Lib.hid hnm
   clear hnm
   go_upto_region 15 with fail
   go_wp2_with fail
   go_loopw [11,12] (fun hv kv wr=> ∃y:Nat,y≤10∧kv= .int .i64 (y:Int)∧hv= .bool (hasB rs nm y)∧Hid (Below w7.heap.size w7 wr)) (fun _ kv _=>10-Vg.natOf kv)
   case atStart=>exact⟨0,by omega,rfl,rfl,hbi⟩
   case round=>
    clear hbi
    obtain⟨y,hy10,rfl,rfl,hby⟩:=hrel
    by_cases hy:y<10
    ·have ds2:decide ((y:Int)<10)=true:=by simp;omega
     have hlt2:(y:Int)<10:=by omega
     have hwy:IntKind.i64.wrap ((y:Int)+1)=((y+1:Nat):Int):=by rw[IntKind.wrap_i64];omega
     obtain⟨vl,hvl⟩: ∃s,s=valueLs.getD y []:=⟨_,rfl⟩
     have cN:=HNmI.out _ hby.out
     have cV:=HVl.out y hy _ hby.out
     obtain⟨hvA,hvl2⟩:=value_facts y hy
     rw[←hvl]at cV hvA hvl2
     have HVV:=Lib.hid hvl
     clear hvl
     go_upto_region 19 with fail
     have D0:=Lib.hid (show Below wr.heap.size wr wr.drew from(Below.refl wr.heap.size wr).drew)
     have HS:=Lib.hid fun(W:World) (hW:Below wr.heap.size wr W)=>And.intro (HNmI.out W (hby.out.trans (hW.mono hby.out.size))) (show W.cell? ⟨gV,y,none⟩=some (.string (T vl))from by rw[HVV.out];exact HVl.out y hy W (hby.out.trans (hW.mono hby.out.size)))
     refine wp_region_noPanic ?_
     refine wp_region_held_drew (S:=fun W:World=>W.cell? ⟨gN,i,none⟩=some (.string (T nm))∧W.cell? ⟨gV,y,none⟩=some (.string (T vl))) (by kernel_rfl) (by exact HS.out _ D0.out) (fun hHeld=>?_)
     refine tk (i:=0) (oi:=⟨some 64,_,_,_,_,_⟩) (v:=?_) rfl (Or.inl ⟨by rfl,?_⟩) ?_
     rotate_left
     ·intro W hSw;obtain⟨q1,q2⟩:=hSw;go_simp;try (with_reducible rfl)
     try simp only[Act.put,sA,sZ,sS]
     refine tk (i:=1) (oi:=⟨some 65,_,_,_,_,_⟩) (v:=?_) rfl (Or.inl ⟨by rfl,?_⟩) ?_
     rotate_left
     ·intro W hSw;obtain⟨q1,q2⟩:=hSw;go_simp;try (with_reducible rfl)
     try simp only[Act.put,sA,sZ,sS]
     refine tk (i:=2) (oi:=⟨some 66,_,_,_,_,_⟩) (v:=?_) rfl (Or.inl ⟨by rfl,?_⟩) ?_
     rotate_left
     ·intro W hSw;obtain⟨q1,q2⟩:=hSw;go_simp;try (with_reducible rfl)
     try simp only[Act.put,sA,sZ,sS]
     refine tk (i:=3) (oi:=⟨some 67,_,_,_,_,_⟩) (v:=?_) rfl (Or.inl ⟨by rfl,?_⟩) ?_
     rotate_left
     ·intro W hSw;obtain⟨q1,q2⟩:=hSw;go_simp;try (with_reducible rfl)
     try simp only[Act.put,sA,sZ,sS]
     refine tk (i:=4) (oi:=⟨some 68,_,_,_,_,_⟩) (v:=?_) rfl (Or.inl ⟨by rfl,?_⟩) ?_
     rotate_left
     ·intro W hSw;obtain⟨q1,q2⟩:=hSw;go_simp;try (with_reducible rfl)
     try simp only[Act.put,sA,sZ,sS]
     refine tk (i:=5) (oi:=⟨some 69,_,_,_,_,_⟩) (v:=?_) rfl (Or.inl ⟨by rfl,?_⟩) ?_
     rotate_left
     ·intro W hSw;obtain⟨q1,q2⟩:=hSw;go_simp;try (with_reducible rfl)
     try simp only[Act.put,sA,sZ,sS]
     refine tk (i:=6) (oi:=⟨some 70,_,_,_,_,_⟩) (v:=?_) rfl (Or.inl ⟨by rfl,?_⟩) ?_
     rotate_left
     ·intro W hSw;obtain⟨q1,q2⟩:=hSw;go_simp;try (with_reducible rfl)
     try simp only[Act.put,sA,sZ,sS]
     refine tk (i:=7) (oi:=⟨some 71,_,_,_,_,_⟩) (v:=?_) rfl (Or.inl ⟨by rfl,?_⟩) ?_
     rotate_left
     ·intro W hSw;obtain⟨q1,q2⟩:=hSw;go_simp;try (with_reducible rfl)
     try simp only[Act.put,sA,sZ,sS]
     refine tk (i:=8) (oi:=⟨some 72,_,_,_,_,_⟩) (v:=?_) rfl (Or.inl ⟨by rfl,?_⟩) ?_
     rotate_left
     ·intro W hSw;obtain⟨q1,q2⟩:=hSw;go_simp;try (with_reducible rfl)
     try simp only[Act.put,sA,sZ,sS]
     refine wpAnyH_ready (rs:=[9]) (by kernel_rfl) (by simp) ?_
     refine AllReadyH.cons (o:=⟨some 13,_,_,_,_,_⟩) rfl (fun K hK=>?_) AllReadyH.nil
     go_simp
     have D1:=Lib.hid (show Below wr.heap.size wr (wr.alloc (.cells #[.string {data:= #[]},.string {data:= #[]}] 58)).drew from((Below.refl wr.heap.size wr).alloc (Nat.le_refl _) _).drew)
     refine hK.out _ _ (by exact HS.out _ D1.out) (fun hHeld=>?_)
     clear hK K
     try simp only[Act.put,sA,sZ,sS]
     have Z1:=(show Blk (wr.alloc (.cells #[.string {data:= #[]},.string {data:= #[]}] 58)).drew wr.heap.size [.string {data:= #[]},.string {data:= #[]}] 58 from(Blk.new wr _ _).drewN 1)
     have f0:=Z1.frozen 0
     have f1:=Z1.frozen 1
     have c0:=Z1.cell (i:=0) rfl
     have c1:=Z1.cell (i:=1) rfl
     refine wpAnyH_ready (rs:=[10]) (by kernel_rfl) (by simp) ?_
     refine AllReadyH.cons (o:=⟨none,_,_,_,_,_⟩) rfl (fun K hK=>?_) AllReadyH.nil
     go_simp
     have D2:=Lib.hid (show Below wr.heap.size wr (wr.alloc (.cells #[.string (T nm),.string (T vl)] 58)).drew from((Below.refl wr.heap.size wr).alloc (Nat.le_refl _) _).drew)
     refine hK.out _ _ (by exact HS.out _ D2.out) (fun hHeld=>?_)
     clear hK K
     try simp only[Act.put,sA,sZ,sS]
     refine wpAnyH_done (by kernel_rfl) ?_ _
     refine NoPanic.normal ?_
     have R8:=Lib.hid (show Blk (wr.alloc (.cells #[.string (T nm),.string (T vl)] 58)).drew wr.heap.size [.string (T nm),.string (T vl)] 58 from(Blk.new wr _ _).drewN 1)
     have B8:=Lib.hid (hby.out.trans (D2.out.mono hby.out.size))
     clear c0 c1 f0 f1 Z1 D0 D1 D2 HS cN cV
     generalize (wr.alloc (.cells #[.string (T nm),.string (T vl)] 58)).drew=w8 at*
     generalize wr.heap.size=s8 at*
     have S8:=Lib.hid (Below.refl w8.heap.size w8)
     go_upto_region 20 with fail
     go_wp2_with fail
     go_loopw [14,15] (fun iv kv wr=> ∃k:Nat,k≤n∧kv= .int .i64 (k:Int)∧iv= .bool (isB rs (nm,vl) k)∧Hid (Below w8.heap.size w8 wr)) (fun _ kv _=>n-Vg.natOf kv)
     case atStart=>exact⟨0,Nat.zero_le _,rfl,rfl,S8⟩
     case round=>
      obtain⟨k,hkn,rfl,rfl,hbk⟩:=hrel
      by_cases hk:k<n
      ·have ds3:decide ((k:Int)<(n:Int))=true:=by simp;omega
       have hlt3:(k:Int)<(n:Int):=by omega
       have hwk:IntKind.i64.wrap ((k:Int)+1)=((k+1:Nat):Int):=by rw[IntKind.wrap_i64];omega
       obtain⟨bR,Ar,nr,cr,L,hAe,hcR,hLl,hnr,hPL,hLe⟩:=HRows.out k hk _ (B8.out.trans (hbk.out.mono B8.out.size))
       have hst:=isB_step rs (nm,vl) k (by rw[HRl.out];exact hk) hLe
       cases hb:isB rs (nm,vl) k with
       |true=>
        rw[hb]at hst
        go_upto_region 22 with fail
        go_quiet (fail)
        have SK:=Lib.hid (show Below w8.heap.size w8 (wr.drewN nq)from hbk.out.trans ⟨rfl,rfl,rfl,Nat.le_refl _,fun _ _=>rfl⟩)
        go_wp2_with fail
        go_roundw
        case rel=>exact⟨k+1,by omega,by first|rfl|(congr 1<;>omega),by rw[hst];rfl,SK⟩
        case measure=>simp[Vg.natOf];omega
       |false=>
        rw[hb,Bool.false_or]at hst
        subst hAe
        have HPL:=Lib.hid hPL
        clear hPL
        go_upto_region 22 with fail
        have D0:=Lib.hid (show Below wr.heap.size wr wr.drew from(Below.refl wr.heap.size wr).drew)
        have hbw:=Nat.lt_of_lt_of_le R8.out.lt hbk.out.size
        have HS:Hid (∀W:World,Below wr.heap.size wr W→W.cell? ⟨s8,0,none⟩=some (.string (T nm))∧W.cell? ⟨s8,1,none⟩=some (.string (T vl))∧W.cell? ⟨bR,k*20+19,none⟩=some (.slice Ar nr cr)):=Lib.hid fun W hW=>by exact⟨((R8.out.below hbk.out R8.out.lt).below hW hbw).cell (i:=0) rfl,((R8.out.below hbk.out R8.out.lt).below hW hbw).cell (i:=1) rfl,(hW.cell (p:=⟨bR,k*20+19,none⟩) (bounds_of_cell hcR)).trans hcR⟩
        refine wp_region_noPanic ?_
        refine wp_region_held_drew (S:=fun W:World=>W.cell? ⟨s8,0,none⟩=some (.string (T nm))∧W.cell? ⟨s8,1,none⟩=some (.string (T vl))∧W.cell? ⟨bR,k*20+19,none⟩=some (.slice Ar nr cr)) (by kernel_rfl) (by exact HS.out _ D0.out) (fun hHeld=>?_)
        refine tk (i:=0) (oi:=⟨some 79,_,_,_,_,_⟩) (v:=?_) rfl (Or.inl ⟨by rfl,?_⟩) ?_
        rotate_left
        ·intro W hSw;obtain⟨q1,q2,q3⟩:=hSw;go_simp;try (with_reducible rfl)
        try simp only[Act.put,sA,sZ,sS]
        refine tk (i:=1) (oi:=⟨some 80,_,_,_,_,_⟩) (v:=?_) rfl (Or.inl ⟨by rfl,?_⟩) ?_
        rotate_left
        ·intro W hSw;obtain⟨q1,q2,q3⟩:=hSw;go_simp;try (with_reducible rfl)
        try simp only[Act.put,sA,sZ,sS]
        refine tk (i:=2) (oi:=⟨some 81,_,_,_,_,_⟩) (v:=?_) rfl (Or.inl ⟨by rfl,?_⟩) ?_
        rotate_left
        ·intro W hSw;obtain⟨q1,q2,q3⟩:=hSw;go_simp;try (with_reducible rfl)
        try simp only[Act.put,sA,sZ,sS]
        refine tk (i:=4) (oi:=⟨some 83,_,_,_,_,_⟩) (v:=?_) rfl (Or.inl ⟨by rfl,?_⟩) ?_
        rotate_left
        ·intro W hSw;obtain⟨q1,q2,q3⟩:=hSw;go_simp;try (with_reducible rfl)
        try simp only[Act.put,sA,sZ,sS]
        refine tk (i:=5) (oi:=⟨some 84,_,_,_,_,_⟩) (v:=?_) rfl (Or.inl ⟨by rfl,?_⟩) ?_
        rotate_left
        ·intro W hSw;obtain⟨q1,q2,q3⟩:=hSw;go_simp;try (with_reducible rfl)
        try simp only[Act.put,sA,sZ,sS]
        refine tk (i:=6) (oi:=⟨some 85,_,_,_,_,_⟩) (v:=?_) rfl (Or.inl ⟨by rfl,?_⟩) ?_
        rotate_left
        ·intro W hSw;obtain⟨q1,q2,q3⟩:=hSw;go_simp;try (with_reducible rfl)
        try simp only[Act.put,sA,sZ,sS]
        refine tk (i:=7) (oi:=⟨some 86,_,_,_,_,_⟩) (v:=?_) rfl (Or.inl ⟨by rfl,?_⟩) ?_
        rotate_left
        ·intro W hSw;obtain⟨q1,q2,q3⟩:=hSw;go_simp;try (with_reducible rfl)
        try simp only[Act.put,sA,sZ,sS]
        refine tk (i:=8) (oi:=⟨some 87,_,_,_,_,_⟩) (v:=?_) rfl (Or.inl ⟨by rfl,?_⟩) ?_
        rotate_left
        ·intro W hSw;obtain⟨q1,q2,q3⟩:=hSw;go_simp;try (with_reducible rfl)
        try simp only[Act.put,sA,sZ,sS]
        refine wpAnyH_ready (rs:=[3]) (by kernel_rfl) (by simp) ?_
        refine AllReadyH.cons (o:=⟨some 82,_,_,_,_,_⟩) rfl (fun K hK=>?_) AllReadyH.nil
        go_simp
        have D3:=Lib.hid (show Below wr.heap.size wr (wr.alloc (.cells #[.string (T nm),.string (T vl)] 58)).drew from((Below.refl wr.heap.size wr).alloc (Nat.le_refl _) _).drew)
        have HPw:=Lib.hid (show Prs (wr.alloc (.cells #[.string (T nm),.string (T vl)] 58)).drew (some ⟨wr.heap.size,0,none⟩) [(nm,vl)]from prs_one ((Blk.new wr [.string (T nm),.string (T vl)] 58).drewN 1) ⟨hnA,hvA,(show nm.length≤maxLen by unfold maxLen;omega),(show vl.length≤maxLen by unfold maxLen;omega)⟩)
        have HWn:=Lib.hid (rwithin_any (some ⟨wr.heap.size,0,none⟩) Ar [(nm,vl)] L 1 nr 1 cr _ HPw.out (HPL.out.below D3.out) rfl hLl (by decide) (by omega))
        refine hK.out _ _ (by exact HS.out _ D3.out) (fun hHeld=>?_)
        clear hK K
        try simp only[Act.put,sA,sZ,sS]
        refine wpAnyH_ready (rs:=[9]) (by kernel_rfl) (by simp) ?_
        refine AllReadyH.cons (o:=⟨some 88,_,_,_,_,_⟩) rfl (fun K hK=>?_) AllReadyH.nil
        go_simp
        ((with_reducible refine HWn.out.mono ?_);rintro e w9 ⟨rfl,hb9⟩;have D9:=Lib.hid (D3.out.trans (hb9.mono D3.out.size));clear hb9)
        try go_wp2_with fail
        refine hK.out _ _ (by exact HS.out _ D9.out) (fun hHeld=>?_)
        clear hK K
        try simp only[Act.put,sA,sZ,sS]
        refine tk (i:=10) (oi:=⟨some 89,_,_,_,_,_⟩) (v:=?_) rfl (Or.inl ⟨by rfl,?_⟩) ?_
        rotate_left
        ·intro W hSw;obtain⟨q1,q2,q3⟩:=hSw;go_simp;try (with_reducible rfl)
        try simp only[Act.put,sA,sZ,sS]
        refine tk (i:=11) (oi:=⟨some 14,_,_,_,_,_⟩) (v:=?_) rfl (Or.inl ⟨by rfl,?_⟩) ?_
        rotate_left
        ·intro W hSw;obtain⟨q1,q2,q3⟩:=hSw;go_simp;try (with_reducible rfl)
        try simp only[Act.put,sA,sZ,sS]
        refine wpAnyH_done (by kernel_rfl) ?_ _
        refine NoPanic.normal ?_
        have SK:=Lib.hid (hbk.out.trans (D9.out.mono hbk.out.size))
        go_wp2_with fail
        go_roundw
        case rel=>exact⟨k+1,by omega,by first|rfl|(congr 1<;>omega),by rw[hst];simp[subB,hLe],SK⟩
        case measure=>simp[Vg.natOf];omega
      ·have ds3:decide ((k:Int)<(n:Int))=false:=by simp;omega
       have hge3: ¬(k:Int)<(n:Int):=by omega
       have hfl:flawI nm vl=0:=Xk.flaw_of hnB hvl2
       have hfull:isB rs (nm,vl) k=true↔ ∃r∈rs,(nm,vl)∈r.1:=isB_full rs (nm,vl) k (by rw[HRl.out];omega)
       have hhs:=hasB_step rs nm y hy (isB rs (nm,vl) k) (by rw[←HVV.out];rw[show k=rs.length by rw[HRl.out];omega])
       have HPa:=Lib.hid (HPr.out nm vl hfl)
       cases hb:isB rs (nm,vl) k with
       |true=>
        rw[hb]at hhs hfull
        obtain⟨x,hx4,hxE,hxc,hxP⟩: ∃x:Nat,find4 H l E (pay nm vl)=((x:Int),0)∧x<E∧dcode H l E x=0∧dP H l E x=pay nm vl:=by
         rcases HPa.out with⟨_,h⟩|⟨h,_⟩
         ·exact h
         ·exact absurd (hfull.1 rfl) h
        clear hfull
        have HHS:=Lib.hid hhs
        clear hhs
        have htA:AllB (pay nm vl):=pay_all hnA hvA
        have htl:(pay nm vl).length≤400:=by unfold pay;simp;omega
        have ht0:pay nm vl≠ []:=by unfold pay;simp
        have HRp:=Lib.hid fun(W:World)=>show Calls Tryz.prog 31 #[.agg #[.string (T nm),.string (T vl)]] W fun e w'=>e= .returned (.string (T (pay nm vl)))∧Below W.heap.size W w' from(Fc.rpayload_any nm vl (by omega) W).mono fun e w' h=>⟨h.1,h.2▸(Below.refl W.heap.size W).alloc (Nat.le_refl _) _⟩
        have BK:=Lib.hid hbk.out
        obtain⟨tx,htx⟩: ∃t,t=pay nm vl:=⟨_,rfl⟩
        rw[←htx]at HRp htA htl ht0 hx4 hxP
        clear htx
        obtain⟨tn,htn⟩: ∃t,tx.length=t:=⟨_,rfl⟩
        rw[htn]at htl
        have hml:tn≤maxLen:=by unfold maxLen;omega
        have h8:tn≤800000:=by omega
        have HFw:=Lib.hid fun(A1:Option Addr) (c1:Nat) (W:World) (hW:Below w8.heap.size w8 W) (h1:Bytes W A1 tx) (h2:tn≤c1) (h3:c1≤maxLen)=>HFd7.out A1 tx tn c1 W (B8.out.trans (hW.mono B8.out.size)) h1 htn h8 h2 h3
        rw[hx4]at HFw
        have HDx:=Lib.hid fun(W:World) (hW:Below w8.heap.size w8 W)=>HDa7.out x W (B8.out.trans (hW.mono B8.out.size))
        rw[hxc,hxP]at HDx
        clear hx4 hxc hxP
        cases hh:hasB rs nm y with
        |true=>
         have c0:=(R8.out.below hbk.out R8.out.lt).cell (i:=0) rfl
         have c1:=(R8.out.below hbk.out R8.out.lt).cell (i:=1) rfl
         go_upto_region 26 with(first
          |(go_at_call 31;(with_reducible refine(HRp.out _).mono ?_);rintro e w9 ⟨rfl,hw9⟩;have B9:=Lib.hid (BK.out.trans (hw9.mono BK.out.size));clear hw9)
          |((with_reducible apply at_slot 98);refine wpList_textc rfl (.tmp 97) rfl tx htA tn htn hml w9.heap.size rfl rfl ?_;intro cA wA hcA hdA hbA hblA;have BA:=Lib.hid (B9.out.trans (hblA.mono B9.out.size));have HbA:=Lib.hid (HFw.out _ cA wA BA.out hbA hcA hdA);clear hbA hblA)
          |(go_at_call 26;(refine HbA.out.mono ?_);rintro e wB ⟨rfl,hbB⟩;have BB:=Lib.hid (BA.out.trans (hbB.mono BA.out.size));clear hbB)
          |fail)
         clear c0 c1
         have HDy:=Lib.hid (HDx.out wB BB.out)
         go_upto_region 30 with(first
          |(go_at_call 32;(refine HDy.out.mono ?_);rintro e wC ⟨hbC,AC,mC,cC,rfl,hyC,hlC,_⟩;have BC:=Lib.hid (BB.out.trans (hbC.mono BB.out.size));have YC:=Lib.hid hyC;have LC:=Lib.hid hlC;clear hbC hyC hlC)
          |fail)
         have ZD:=Lib.hid (Blk.new wC [.int .u64 (dN H l E x 0),.int .u64 (dN H l E x 1),.int .u64 (dN H l E x 2),.int .u64 (dN H l E x 3),.int .u64 (dN H l E x 4),.int .u64 (dN H l E x 5),.slice AC mC cC] 67)
         have bD:=Lib.hid ((Below.refl wC.heap.size wC).alloc (Nat.le_refl _) (.cells #[.int .u64 (dN H l E x 0),.int .u64 (dN H l E x 1),.int .u64 (dN H l E x 2),.int .u64 (dN H l E x 3),.int .u64 (dN H l E x 4),.int .u64 (dN H l E x 5),.slice AC mC cC] 67))
         generalize (wC.alloc (.cells #[.int .u64 (dN H l E x 0),.int .u64 (dN H l E x 1),.int .u64 (dN H l E x 2),.int .u64 (dN H l E x 3),.int .u64 (dN H l E x 4),.int .u64 (dN H l E x 5),.slice AC mC cC] 67))=wD at*
         have YD:=Lib.hid (YC.out.below bD.out (Nat.le_refl _))
         have BD:=Lib.hid (BC.out.trans (bD.out.mono BC.out.size))
         have WD:=Lib.hid BD.out
         have hT:=Lib.hid ht0
         generalize wC.heap.size=sC at*
         have D0:=Lib.hid (show Below wD.heap.size wD wD.drew from(Below.refl wD.heap.size wD).drew)
         refine wp_region_noPanic ?_
         refine wp_region_held_drew (S:=fun W:World=>Below wD.heap.size wD W) (by kernel_rfl) (by exact D0.out) (fun hHeld=>?_)
         refine tk (i:=0) (oi:=⟨some 121,_,_,_,_,_⟩) (v:=?_) rfl (Or.inl ⟨by rfl,?_⟩) ?_
         rotate_left
         ·intro W hSw;have q0:=(ZD.out.below hSw ZD.out.lt).cell (i:=6) rfl;have q1:=((R8.out.below WD.out R8.out.lt).below hSw (Nat.lt_of_lt_of_le R8.out.lt WD.out.size)).cell (i:=0) rfl;have q2:=((R8.out.below WD.out R8.out.lt).below hSw (Nat.lt_of_lt_of_le R8.out.lt WD.out.size)).cell (i:=1) rfl;have q3:=bytes_back cC (YD.out.below hSw (Nat.le_refl _)) LC.out hT.out;go_simp;try (with_reducible rfl)
         try simp only[Act.put,sA,sZ,sS]
         refine tk (i:=1) (oi:=⟨some 122,_,_,_,_,_⟩) (v:=?_) rfl (Or.inl ⟨by rfl,?_⟩) ?_
         rotate_left
         ·intro W hSw;have q0:=(ZD.out.below hSw ZD.out.lt).cell (i:=6) rfl;have q1:=((R8.out.below WD.out R8.out.lt).below hSw (Nat.lt_of_lt_of_le R8.out.lt WD.out.size)).cell (i:=0) rfl;have q2:=((R8.out.below WD.out R8.out.lt).below hSw (Nat.lt_of_lt_of_le R8.out.lt WD.out.size)).cell (i:=1) rfl;have q3:=bytes_back cC (YD.out.below hSw (Nat.le_refl _)) LC.out hT.out;go_simp;try (with_reducible rfl)
         try simp only[Act.put,sA,sZ,sS]
         refine tk (i:=2) (oi:=⟨some 123,_,_,_,_,_⟩) (v:=?_) rfl (Or.inl ⟨by rfl,?_⟩) ?_
         rotate_left
         ·intro W hSw;have q0:=(ZD.out.below hSw ZD.out.lt).cell (i:=6) rfl;have q1:=((R8.out.below WD.out R8.out.lt).below hSw (Nat.lt_of_lt_of_le R8.out.lt WD.out.size)).cell (i:=0) rfl;have q2:=((R8.out.below WD.out R8.out.lt).below hSw (Nat.lt_of_lt_of_le R8.out.lt WD.out.size)).cell (i:=1) rfl;have q3:=bytes_back cC (YD.out.below hSw (Nat.le_refl _)) LC.out hT.out;go_simp;try (with_reducible rfl)
         try simp only[Act.put,sA,sZ,sS]
         refine tk (i:=3) (oi:=⟨some 124,_,_,_,_,_⟩) (v:=?_) rfl (Or.inl ⟨by rfl,?_⟩) ?_
         rotate_left
         ·intro W hSw;have q0:=(ZD.out.below hSw ZD.out.lt).cell (i:=6) rfl;have q1:=((R8.out.below WD.out R8.out.lt).below hSw (Nat.lt_of_lt_of_le R8.out.lt WD.out.size)).cell (i:=0) rfl;have q2:=((R8.out.below WD.out R8.out.lt).below hSw (Nat.lt_of_lt_of_le R8.out.lt WD.out.size)).cell (i:=1) rfl;have q3:=bytes_back cC (YD.out.below hSw (Nat.le_refl _)) LC.out hT.out;go_simp;try (with_reducible rfl)
         try simp only[Act.put,sA,sZ,sS]
         refine tk (i:=4) (oi:=⟨some 125,_,_,_,_,_⟩) (v:=?_) rfl (Or.inl ⟨by rfl,?_⟩) ?_
         rotate_left
         ·intro W hSw;have q0:=(ZD.out.below hSw ZD.out.lt).cell (i:=6) rfl;have q1:=((R8.out.below WD.out R8.out.lt).below hSw (Nat.lt_of_lt_of_le R8.out.lt WD.out.size)).cell (i:=0) rfl;have q2:=((R8.out.below WD.out R8.out.lt).below hSw (Nat.lt_of_lt_of_le R8.out.lt WD.out.size)).cell (i:=1) rfl;have q3:=bytes_back cC (YD.out.below hSw (Nat.le_refl _)) LC.out hT.out;go_simp;try (with_reducible rfl)
         try simp only[Act.put,sA,sZ,sS]
         refine tk (i:=5) (oi:=⟨some 126,_,_,_,_,_⟩) (v:=?_) rfl (Or.inl ⟨by rfl,?_⟩) ?_
         rotate_left
         ·intro W hSw;have q0:=(ZD.out.below hSw ZD.out.lt).cell (i:=6) rfl;have q1:=((R8.out.below WD.out R8.out.lt).below hSw (Nat.lt_of_lt_of_le R8.out.lt WD.out.size)).cell (i:=0) rfl;have q2:=((R8.out.below WD.out R8.out.lt).below hSw (Nat.lt_of_lt_of_le R8.out.lt WD.out.size)).cell (i:=1) rfl;have q3:=bytes_back cC (YD.out.below hSw (Nat.le_refl _)) LC.out hT.out;go_simp;try (with_reducible rfl)
         try simp only[Act.put,sA,sZ,sS]
         refine tk (i:=6) (oi:=⟨some 127,_,_,_,_,_⟩) (v:=?_) rfl (Or.inl ⟨by rfl,?_⟩) ?_
         rotate_left
         ·intro W hSw;have q0:=(ZD.out.below hSw ZD.out.lt).cell (i:=6) rfl;have q1:=((R8.out.below WD.out R8.out.lt).below hSw (Nat.lt_of_lt_of_le R8.out.lt WD.out.size)).cell (i:=0) rfl;have q2:=((R8.out.below WD.out R8.out.lt).below hSw (Nat.lt_of_lt_of_le R8.out.lt WD.out.size)).cell (i:=1) rfl;have q3:=bytes_back cC (YD.out.below hSw (Nat.le_refl _)) LC.out hT.out;go_simp;try (with_reducible rfl)
         try simp only[Act.put,sA,sZ,sS]
         refine wpAnyH_ready (rs:=[7]) (by kernel_rfl) (by simp) ?_
         refine AllReadyH.cons (o:=⟨some 128,_,_,_,_,_⟩) rfl (fun K hK=>?_) AllReadyH.nil
         go_simp
         ((with_reducible refine(HRp.out _).mono ?_);rintro e w9 ⟨rfl,hb9⟩;have D7:=Lib.hid (D0.out.trans (hb9.mono D0.out.size));clear hb9)
         try go_wp2_with fail
         refine hK.out _ _ (by exact D7.out) (fun hHeld=>?_)
         clear hK K
         try simp only[Act.put,sA,sZ,sS]
         refine tk (i:=8) (oi:=⟨some 129,_,_,_,_,_⟩) (v:=?_) rfl (Or.inl ⟨by rfl,?_⟩) ?_
         rotate_left
         ·intro W hSw;have q0:=(ZD.out.below hSw ZD.out.lt).cell (i:=6) rfl;have q1:=((R8.out.below WD.out R8.out.lt).below hSw (Nat.lt_of_lt_of_le R8.out.lt WD.out.size)).cell (i:=0) rfl;have q2:=((R8.out.below WD.out R8.out.lt).below hSw (Nat.lt_of_lt_of_le R8.out.lt WD.out.size)).cell (i:=1) rfl;have q3:=bytes_back cC (YD.out.below hSw (Nat.le_refl _)) LC.out hT.out;go_simp;try (with_reducible rfl)
         try simp only[Act.put,sA,sZ,sS]
         refine tk (i:=9) (oi:=⟨some 130,_,_,_,_,_⟩) (v:=?_) rfl (Or.inl ⟨by rfl,?_⟩) ?_
         rotate_left
         ·intro W hSw;have q0:=(ZD.out.below hSw ZD.out.lt).cell (i:=6) rfl;have q1:=((R8.out.below WD.out R8.out.lt).below hSw (Nat.lt_of_lt_of_le R8.out.lt WD.out.size)).cell (i:=0) rfl;have q2:=((R8.out.below WD.out R8.out.lt).below hSw (Nat.lt_of_lt_of_le R8.out.lt WD.out.size)).cell (i:=1) rfl;have q3:=bytes_back cC (YD.out.below hSw (Nat.le_refl _)) LC.out hT.out;go_simp;try (with_reducible rfl)
         try simp only[Act.put,sA,sZ,sS]
         refine wpAnyH_done (by kernel_rfl) ?_ _
         refine NoPanic.normal ?_
         have SK:=Lib.hid (B8.out.trans ((BD.out.trans (D7.out.mono BD.out.size)).mono B8.out.size))
         go_wp2_with fail
         go_roundw
         case rel=>exact⟨y+1,by omega,by first|rfl|(congr 1<;>omega),by rw[HHS.out];simp,SK⟩
         case measure=>simp[Vg.natOf];omega
        |false=>
         have c0:=(R8.out.below hbk.out R8.out.lt).cell (i:=0) rfl
         have c1:=(R8.out.below hbk.out R8.out.lt).cell (i:=1) rfl
         go_upto_region 26 with(first
          |(go_at_call 31;(with_reducible refine(HRp.out _).mono ?_);rintro e w9 ⟨rfl,hw9⟩;have B9:=Lib.hid (BK.out.trans (hw9.mono BK.out.size));clear hw9)
          |((with_reducible apply at_slot 98);refine wpList_textc rfl (.tmp 97) rfl tx htA tn htn hml w9.heap.size rfl rfl ?_;intro cA wA hcA hdA hbA hblA;have BA:=Lib.hid (B9.out.trans (hblA.mono B9.out.size));have HbA:=Lib.hid (HFw.out _ cA wA BA.out hbA hcA hdA);clear hbA hblA)
          |(go_at_call 26;(refine HbA.out.mono ?_);rintro e wB ⟨rfl,hbB⟩;have BB:=Lib.hid (BA.out.trans (hbB.mono BA.out.size));clear hbB)
          |fail)
         clear c0 c1
         have HDy:=Lib.hid (HDx.out wB BB.out)
         go_upto_region 30 with(first
          |(go_at_call 32;(refine HDy.out.mono ?_);rintro e wC ⟨hbC,AC,mC,cC,rfl,hyC,hlC,_⟩;have BC:=Lib.hid (BB.out.trans (hbC.mono BB.out.size));have YC:=Lib.hid hyC;have LC:=Lib.hid hlC;clear hbC hyC hlC)
          |fail)
         have ZD:=Lib.hid (Blk.new wC [.int .u64 (dN H l E x 0),.int .u64 (dN H l E x 1),.int .u64 (dN H l E x 2),.int .u64 (dN H l E x 3),.int .u64 (dN H l E x 4),.int .u64 (dN H l E x 5),.slice AC mC cC] 67)
         have bD:=Lib.hid ((Below.refl wC.heap.size wC).alloc (Nat.le_refl _) (.cells #[.int .u64 (dN H l E x 0),.int .u64 (dN H l E x 1),.int .u64 (dN H l E x 2),.int .u64 (dN H l E x 3),.int .u64 (dN H l E x 4),.int .u64 (dN H l E x 5),.slice AC mC cC] 67))
         generalize (wC.alloc (.cells #[.int .u64 (dN H l E x 0),.int .u64 (dN H l E x 1),.int .u64 (dN H l E x 2),.int .u64 (dN H l E x 3),.int .u64 (dN H l E x 4),.int .u64 (dN H l E x 5),.slice AC mC cC] 67))=wD at*
         have YD:=Lib.hid (YC.out.below bD.out (Nat.le_refl _))
         have BD:=Lib.hid (BC.out.trans (bD.out.mono BC.out.size))
         have WD:=Lib.hid BD.out
         have hT:=Lib.hid ht0
         generalize wC.heap.size=sC at*
         have D0:=Lib.hid (show Below wD.heap.size wD wD.drew from(Below.refl wD.heap.size wD).drew)
         refine wp_region_noPanic ?_
         refine wp_region_held_drew (S:=fun W:World=>Below wD.heap.size wD W) (by kernel_rfl) (by exact D0.out) (fun hHeld=>?_)
         refine tk (i:=0) (oi:=⟨some 121,_,_,_,_,_⟩) (v:=?_) rfl (Or.inl ⟨by rfl,?_⟩) ?_
         rotate_left
         ·intro W hSw;have q0:=(ZD.out.below hSw ZD.out.lt).cell (i:=6) rfl;have q1:=((R8.out.below WD.out R8.out.lt).below hSw (Nat.lt_of_lt_of_le R8.out.lt WD.out.size)).cell (i:=0) rfl;have q2:=((R8.out.below WD.out R8.out.lt).below hSw (Nat.lt_of_lt_of_le R8.out.lt WD.out.size)).cell (i:=1) rfl;have q3:=bytes_back cC (YD.out.below hSw (Nat.le_refl _)) LC.out hT.out;go_simp;try (with_reducible rfl)
         try simp only[Act.put,sA,sZ,sS]
         refine tk (i:=1) (oi:=⟨some 122,_,_,_,_,_⟩) (v:=?_) rfl (Or.inl ⟨by rfl,?_⟩) ?_
         rotate_left
         ·intro W hSw;have q0:=(ZD.out.below hSw ZD.out.lt).cell (i:=6) rfl;have q1:=((R8.out.below WD.out R8.out.lt).below hSw (Nat.lt_of_lt_of_le R8.out.lt WD.out.size)).cell (i:=0) rfl;have q2:=((R8.out.below WD.out R8.out.lt).below hSw (Nat.lt_of_lt_of_le R8.out.lt WD.out.size)).cell (i:=1) rfl;have q3:=bytes_back cC (YD.out.below hSw (Nat.le_refl _)) LC.out hT.out;go_simp;try (with_reducible rfl)
         try simp only[Act.put,sA,sZ,sS]
         refine tk (i:=2) (oi:=⟨some 123,_,_,_,_,_⟩) (v:=?_) rfl (Or.inl ⟨by rfl,?_⟩) ?_
         rotate_left
         ·intro W hSw;have q0:=(ZD.out.below hSw ZD.out.lt).cell (i:=6) rfl;have q1:=((R8.out.below WD.out R8.out.lt).below hSw (Nat.lt_of_lt_of_le R8.out.lt WD.out.size)).cell (i:=0) rfl;have q2:=((R8.out.below WD.out R8.out.lt).below hSw (Nat.lt_of_lt_of_le R8.out.lt WD.out.size)).cell (i:=1) rfl;have q3:=bytes_back cC (YD.out.below hSw (Nat.le_refl _)) LC.out hT.out;go_simp;try (with_reducible rfl)
         try simp only[Act.put,sA,sZ,sS]
         refine tk (i:=3) (oi:=⟨some 124,_,_,_,_,_⟩) (v:=?_) rfl (Or.inl ⟨by rfl,?_⟩) ?_
         rotate_left
         ·intro W hSw;have q0:=(ZD.out.below hSw ZD.out.lt).cell (i:=6) rfl;have q1:=((R8.out.below WD.out R8.out.lt).below hSw (Nat.lt_of_lt_of_le R8.out.lt WD.out.size)).cell (i:=0) rfl;have q2:=((R8.out.below WD.out R8.out.lt).below hSw (Nat.lt_of_lt_of_le R8.out.lt WD.out.size)).cell (i:=1) rfl;have q3:=bytes_back cC (YD.out.below hSw (Nat.le_refl _)) LC.out hT.out;go_simp;try (with_reducible rfl)
         try simp only[Act.put,sA,sZ,sS]
         refine tk (i:=4) (oi:=⟨some 125,_,_,_,_,_⟩) (v:=?_) rfl (Or.inl ⟨by rfl,?_⟩) ?_
         rotate_left
         ·intro W hSw;have q0:=(ZD.out.below hSw ZD.out.lt).cell (i:=6) rfl;have q1:=((R8.out.below WD.out R8.out.lt).below hSw (Nat.lt_of_lt_of_le R8.out.lt WD.out.size)).cell (i:=0) rfl;have q2:=((R8.out.below WD.out R8.out.lt).below hSw (Nat.lt_of_lt_of_le R8.out.lt WD.out.size)).cell (i:=1) rfl;have q3:=bytes_back cC (YD.out.below hSw (Nat.le_refl _)) LC.out hT.out;go_simp;try (with_reducible rfl)
         try simp only[Act.put,sA,sZ,sS]
         refine tk (i:=5) (oi:=⟨some 126,_,_,_,_,_⟩) (v:=?_) rfl (Or.inl ⟨by rfl,?_⟩) ?_
         rotate_left
         ·intro W hSw;have q0:=(ZD.out.below hSw ZD.out.lt).cell (i:=6) rfl;have q1:=((R8.out.below WD.out R8.out.lt).below hSw (Nat.lt_of_lt_of_le R8.out.lt WD.out.size)).cell (i:=0) rfl;have q2:=((R8.out.below WD.out R8.out.lt).below hSw (Nat.lt_of_lt_of_le R8.out.lt WD.out.size)).cell (i:=1) rfl;have q3:=bytes_back cC (YD.out.below hSw (Nat.le_refl _)) LC.out hT.out;go_simp;try (with_reducible rfl)
         try simp only[Act.put,sA,sZ,sS]
         refine tk (i:=6) (oi:=⟨some 127,_,_,_,_,_⟩) (v:=?_) rfl (Or.inl ⟨by rfl,?_⟩) ?_
         rotate_left
         ·intro W hSw;have q0:=(ZD.out.below hSw ZD.out.lt).cell (i:=6) rfl;have q1:=((R8.out.below WD.out R8.out.lt).below hSw (Nat.lt_of_lt_of_le R8.out.lt WD.out.size)).cell (i:=0) rfl;have q2:=((R8.out.below WD.out R8.out.lt).below hSw (Nat.lt_of_lt_of_le R8.out.lt WD.out.size)).cell (i:=1) rfl;have q3:=bytes_back cC (YD.out.below hSw (Nat.le_refl _)) LC.out hT.out;go_simp;try (with_reducible rfl)
         try simp only[Act.put,sA,sZ,sS]
         refine wpAnyH_ready (rs:=[7]) (by kernel_rfl) (by simp) ?_
         refine AllReadyH.cons (o:=⟨some 128,_,_,_,_,_⟩) rfl (fun K hK=>?_) AllReadyH.nil
         go_simp
         ((with_reducible refine(HRp.out _).mono ?_);rintro e w9 ⟨rfl,hb9⟩;have D7:=Lib.hid (D0.out.trans (hb9.mono D0.out.size));clear hb9)
         try go_wp2_with fail
         refine hK.out _ _ (by exact D7.out) (fun hHeld=>?_)
         clear hK K
         try simp only[Act.put,sA,sZ,sS]
         refine tk (i:=8) (oi:=⟨some 129,_,_,_,_,_⟩) (v:=?_) rfl (Or.inl ⟨by rfl,?_⟩) ?_
         rotate_left
         ·intro W hSw;have q0:=(ZD.out.below hSw ZD.out.lt).cell (i:=6) rfl;have q1:=((R8.out.below WD.out R8.out.lt).below hSw (Nat.lt_of_lt_of_le R8.out.lt WD.out.size)).cell (i:=0) rfl;have q2:=((R8.out.below WD.out R8.out.lt).below hSw (Nat.lt_of_lt_of_le R8.out.lt WD.out.size)).cell (i:=1) rfl;have q3:=bytes_back cC (YD.out.below hSw (Nat.le_refl _)) LC.out hT.out;go_simp;try (with_reducible rfl)
         try simp only[Act.put,sA,sZ,sS]
         refine tk (i:=9) (oi:=⟨some 130,_,_,_,_,_⟩) (v:=?_) rfl (Or.inl ⟨by rfl,?_⟩) ?_
         rotate_left
         ·intro W hSw;have q0:=(ZD.out.below hSw ZD.out.lt).cell (i:=6) rfl;have q1:=((R8.out.below WD.out R8.out.lt).below hSw (Nat.lt_of_lt_of_le R8.out.lt WD.out.size)).cell (i:=0) rfl;have q2:=((R8.out.below WD.out R8.out.lt).below hSw (Nat.lt_of_lt_of_le R8.out.lt WD.out.size)).cell (i:=1) rfl;have q3:=bytes_back cC (YD.out.below hSw (Nat.le_refl _)) LC.out hT.out;go_simp;try (with_reducible rfl)
         try simp only[Act.put,sA,sZ,sS]
         refine wpAnyH_done (by kernel_rfl) ?_ _
         refine NoPanic.normal ?_
         have SK:=Lib.hid (B8.out.trans ((BD.out.trans (D7.out.mono BD.out.size)).mono B8.out.size))
         go_wp2_with fail
         go_roundw
         case rel=>exact⟨y+1,by omega,by first|rfl|(congr 1<;>omega),by rw[HHS.out];simp,SK⟩
         case measure=>simp[Vg.natOf];omega
       |false=>
        rw[hb]at hhs hfull
        have hx4:find4 H l E (pay nm vl)=(0,16):=by
         rcases HPa.out with⟨h,_⟩|⟨_,h⟩
         ·cases hfull.2 h
         ·exact h
        clear hfull
        have HHS:=Lib.hid hhs
        clear hhs
        have htA:AllB (pay nm vl):=pay_all hnA hvA
        have htl:(pay nm vl).length≤400:=by unfold pay;simp;omega
        have ht0:pay nm vl≠ []:=by unfold pay;simp
        have HRp:=Lib.hid fun(W:World)=>show Calls Tryz.prog 31 #[.agg #[.string (T nm),.string (T vl)]] W fun e w'=>e= .returned (.string (T (pay nm vl)))∧Below W.heap.size W w' from(Fc.rpayload_any nm vl (by omega) W).mono fun e w' h=>⟨h.1,h.2▸(Below.refl W.heap.size W).alloc (Nat.le_refl _) _⟩
        have BK:=Lib.hid hbk.out
        obtain⟨tx,htx⟩: ∃t,t=pay nm vl:=⟨_,rfl⟩
        rw[←htx]at HRp htA htl ht0 hx4
        clear htx
        obtain⟨tn,htn⟩: ∃t,tx.length=t:=⟨_,rfl⟩
        rw[htn]at htl
        have hml:tn≤maxLen:=by unfold maxLen;omega
        have h8:tn≤800000:=by omega
        have HFw:=Lib.hid fun(A1:Option Addr) (c1:Nat) (W:World) (hW:Below w8.heap.size w8 W) (h1:Bytes W A1 tx) (h2:tn≤c1) (h3:c1≤maxLen)=>HFd7.out A1 tx tn c1 W (B8.out.trans (hW.mono B8.out.size)) h1 htn h8 h2 h3
        rw[hx4]at HFw
        clear hx4
        cases hh:hasB rs nm y with
        |true=>
         have c0:=(R8.out.below hbk.out R8.out.lt).cell (i:=0) rfl
         have c1:=(R8.out.below hbk.out R8.out.lt).cell (i:=1) rfl
         go_wp2_with(first
          |(go_at_call 31;(with_reducible refine(HRp.out _).mono ?_);rintro e w9 ⟨rfl,hw9⟩;have B9:=Lib.hid (BK.out.trans (hw9.mono BK.out.size));clear hw9)
          |((with_reducible apply at_slot 98);refine wpList_textc rfl (.tmp 97) rfl tx htA tn htn hml w9.heap.size rfl rfl ?_;intro cA wA hcA hdA hbA hblA;have BA:=Lib.hid (B9.out.trans (hblA.mono B9.out.size));have HbA:=Lib.hid (HFw.out _ cA wA BA.out hbA hcA hdA);clear hbA hblA)
          |(go_at_call 26;(refine HbA.out.mono ?_);rintro e wB ⟨rfl,hbB⟩;have BB:=Lib.hid (BA.out.trans (hbB.mono BA.out.size));clear hbB)
          |fail)
         have SK:=Lib.hid (B8.out.trans (BB.out.mono B8.out.size))
         go_roundw
         case rel=>exact⟨y+1,by omega,by first|rfl|(congr 1<;>omega),by rw[HHS.out,hh];rfl,SK⟩
         case measure=>simp[Vg.natOf];omega
        |false=>
         have c0:=(R8.out.below hbk.out R8.out.lt).cell (i:=0) rfl
         have c1:=(R8.out.below hbk.out R8.out.lt).cell (i:=1) rfl
         go_wp2_with(first
          |(go_at_call 31;(with_reducible refine(HRp.out _).mono ?_);rintro e w9 ⟨rfl,hw9⟩;have B9:=Lib.hid (BK.out.trans (hw9.mono BK.out.size));clear hw9)
          |((with_reducible apply at_slot 98);refine wpList_textc rfl (.tmp 97) rfl tx htA tn htn hml w9.heap.size rfl rfl ?_;intro cA wA hcA hdA hbA hblA;have BA:=Lib.hid (B9.out.trans (hblA.mono B9.out.size));have HbA:=Lib.hid (HFw.out _ cA wA BA.out hbA hcA hdA);clear hbA hblA)
          |(go_at_call 26;(refine HbA.out.mono ?_);rintro e wB ⟨rfl,hbB⟩;have BB:=Lib.hid (BA.out.trans (hbB.mono BA.out.size));clear hbB)
          |fail)
         have SK:=Lib.hid (B8.out.trans (BB.out.mono B8.out.size))
         go_roundw
         case rel=>exact⟨y+1,by omega,by first|rfl|(congr 1<;>omega),by rw[HHS.out,hh];rfl,SK⟩
         case measure=>simp[Vg.natOf];omega
    ·have ds2:decide ((y:Int)<10)=false:=by simp;omega
     have hge2: ¬(y:Int)<10:=by omega
     have hy9:y=10:=by omega
     have hfin:=hasB_full rs nm y hy9 (fun r hr q hq=>((HTd.out r hr).2 q hq).2)
     have HNb:=Lib.hid (HNa.out nm)
     have HFx:=Lib.hid fun(W:World) (hW:Below w7.heap.size w7 W)=>HFf7.out nm hnA (by omega) W hW
     have cN:=HNmI.out _ hby.out
     cases hb:hasB rs nm y with
     |true=>
      rw[hb]at hfin
      obtain⟨x,hx5,hxE,hxc,hxP⟩: ∃x:Nat,find5 H l E nm=((x:Int),0)∧x<E∧fcode H l E x=0∧fP H l E x=nm:=by
       rcases HNb.out with⟨_,h⟩|⟨h,_⟩
       ·exact h
       ·exact absurd (hfin.1 rfl) h
      clear hfin
      rw[hx5]at HFx
      have HDx:=Lib.hid fun(W:World) (hW:Below w7.heap.size w7 W)=>HDf7.out x W hW
      rw[hxc,hxP]at HDx
      clear hx5 hxc hxP
      go_upto_region 33 with(first
       |(go_at_call 22;(refine(HFx.out _ hby.out).mono ?_);rintro e wA ⟨rfl,hbA⟩;have BA:=Lib.hid (hby.out.trans (hbA.mono hby.out.size));clear hbA)
       |fail)
      have HDy:=Lib.hid (HDx.out wA BA.out)
      go_upto_region 37 with(first
       |(go_at_call 33;(refine HDy.out.mono ?_);rintro e wC ⟨hbC,AC,mC,cC,rfl,hyC,hlC,_⟩;have BC:=Lib.hid (BA.out.trans (hbC.mono BA.out.size));have YC:=Lib.hid hyC;have LC:=Lib.hid hlC;clear hbC hyC hlC)
       |fail)
      have ZD:=Lib.hid (Blk.new wC [.int .u64 (fN H l E x 0),.int .u64 (fN H l E x 1),.int .u64 (fN H l E x 2),.slice AC mC cC] 71)
      have bD:=Lib.hid ((Below.refl wC.heap.size wC).alloc (Nat.le_refl _) (.cells #[.int .u64 (fN H l E x 0),.int .u64 (fN H l E x 1),.int .u64 (fN H l E x 2),.slice AC mC cC] 71))
      generalize (wC.alloc (.cells #[.int .u64 (fN H l E x 0),.int .u64 (fN H l E x 1),.int .u64 (fN H l E x 2),.slice AC mC cC] 71))=wD at*
      have YD:=Lib.hid (YC.out.below bD.out (Nat.le_refl _))
      have BD:=Lib.hid (BC.out.trans (bD.out.mono BC.out.size))
      have hT:=Lib.hid hne
      generalize wC.heap.size=sC at*
      have D0:=Lib.hid (show Below wD.heap.size wD wD.drew from(Below.refl wD.heap.size wD).drew)
      refine wp_region_noPanic ?_
      refine wp_region_held_drew (S:=fun W:World=>Below wD.heap.size wD W) (by kernel_rfl) (by exact D0.out) (fun hHeld=>?_)
      refine tk (i:=0) (oi:=⟨some 151,_,_,_,_,_⟩) (v:=?_) rfl (Or.inl ⟨by rfl,?_⟩) ?_
      rotate_left
      ·intro W hSw;have q0:=(ZD.out.below hSw ZD.out.lt).cell (i:=3) rfl;have q1:=HNmI.out W (BD.out.trans (hSw.mono BD.out.size));have q3:=bytes_back cC (YD.out.below hSw (Nat.le_refl _)) LC.out hT.out;go_simp;try (with_reducible rfl)
      try simp only[Act.put,sA,sZ,sS]
      refine tk (i:=1) (oi:=⟨some 152,_,_,_,_,_⟩) (v:=?_) rfl (Or.inl ⟨by rfl,?_⟩) ?_
      rotate_left
      ·intro W hSw;have q0:=(ZD.out.below hSw ZD.out.lt).cell (i:=3) rfl;have q1:=HNmI.out W (BD.out.trans (hSw.mono BD.out.size));have q3:=bytes_back cC (YD.out.below hSw (Nat.le_refl _)) LC.out hT.out;go_simp;try (with_reducible rfl)
      try simp only[Act.put,sA,sZ,sS]
      refine tk (i:=2) (oi:=⟨some 153,_,_,_,_,_⟩) (v:=?_) rfl (Or.inl ⟨by rfl,?_⟩) ?_
      rotate_left
      ·intro W hSw;have q0:=(ZD.out.below hSw ZD.out.lt).cell (i:=3) rfl;have q1:=HNmI.out W (BD.out.trans (hSw.mono BD.out.size));have q3:=bytes_back cC (YD.out.below hSw (Nat.le_refl _)) LC.out hT.out;go_simp;try (with_reducible rfl)
      try simp only[Act.put,sA,sZ,sS]
      refine tk (i:=3) (oi:=⟨some 154,_,_,_,_,_⟩) (v:=?_) rfl (Or.inl ⟨by rfl,?_⟩) ?_
      rotate_left
      ·intro W hSw;have q0:=(ZD.out.below hSw ZD.out.lt).cell (i:=3) rfl;have q1:=HNmI.out W (BD.out.trans (hSw.mono BD.out.size));have q3:=bytes_back cC (YD.out.below hSw (Nat.le_refl _)) LC.out hT.out;go_simp;try (with_reducible rfl)
      try simp only[Act.put,sA,sZ,sS]
      refine tk (i:=4) (oi:=⟨some 155,_,_,_,_,_⟩) (v:=?_) rfl (Or.inl ⟨by rfl,?_⟩) ?_
      rotate_left
      ·intro W hSw;have q0:=(ZD.out.below hSw ZD.out.lt).cell (i:=3) rfl;have q1:=HNmI.out W (BD.out.trans (hSw.mono BD.out.size));have q3:=bytes_back cC (YD.out.below hSw (Nat.le_refl _)) LC.out hT.out;go_simp;try (with_reducible rfl)
      try simp only[Act.put,sA,sZ,sS]
      refine tk (i:=5) (oi:=⟨some 156,_,_,_,_,_⟩) (v:=?_) rfl (Or.inl ⟨by rfl,?_⟩) ?_
      rotate_left
      ·intro W hSw;have q0:=(ZD.out.below hSw ZD.out.lt).cell (i:=3) rfl;have q1:=HNmI.out W (BD.out.trans (hSw.mono BD.out.size));have q3:=bytes_back cC (YD.out.below hSw (Nat.le_refl _)) LC.out hT.out;go_simp;try (with_reducible rfl)
      try simp only[Act.put,sA,sZ,sS]
      refine tk (i:=6) (oi:=⟨some 157,_,_,_,_,_⟩) (v:=?_) rfl (Or.inl ⟨by rfl,?_⟩) ?_
      rotate_left
      ·intro W hSw;have q0:=(ZD.out.below hSw ZD.out.lt).cell (i:=3) rfl;have q1:=HNmI.out W (BD.out.trans (hSw.mono BD.out.size));have q3:=bytes_back cC (YD.out.below hSw (Nat.le_refl _)) LC.out hT.out;go_simp;try (with_reducible rfl)
      try simp only[Act.put,sA,sZ,sS]
      refine tk (i:=7) (oi:=⟨some 158,_,_,_,_,_⟩) (v:=?_) rfl (Or.inl ⟨by rfl,?_⟩) ?_
      rotate_left
      ·intro W hSw;have q0:=(ZD.out.below hSw ZD.out.lt).cell (i:=3) rfl;have q1:=HNmI.out W (BD.out.trans (hSw.mono BD.out.size));have q3:=bytes_back cC (YD.out.below hSw (Nat.le_refl _)) LC.out hT.out;go_simp;try (with_reducible rfl)
      try simp only[Act.put,sA,sZ,sS]
      refine tk (i:=8) (oi:=⟨some 159,_,_,_,_,_⟩) (v:=?_) rfl (Or.inl ⟨by rfl,?_⟩) ?_
      rotate_left
      ·intro W hSw;have q0:=(ZD.out.below hSw ZD.out.lt).cell (i:=3) rfl;have q1:=HNmI.out W (BD.out.trans (hSw.mono BD.out.size));have q3:=bytes_back cC (YD.out.below hSw (Nat.le_refl _)) LC.out hT.out;go_simp;try (with_reducible rfl)
      try simp only[Act.put,sA,sZ,sS]
      refine tk (i:=9) (oi:=⟨some 160,_,_,_,_,_⟩) (v:=?_) rfl (Or.inl ⟨by rfl,?_⟩) ?_
      rotate_left
      ·intro W hSw;have q0:=(ZD.out.below hSw ZD.out.lt).cell (i:=3) rfl;have q1:=HNmI.out W (BD.out.trans (hSw.mono BD.out.size));have q3:=bytes_back cC (YD.out.below hSw (Nat.le_refl _)) LC.out hT.out;go_simp;try (with_reducible rfl)
      try simp only[Act.put,sA,sZ,sS]
      refine tk (i:=10) (oi:=⟨some 161,_,_,_,_,_⟩) (v:=?_) rfl (Or.inl ⟨by rfl,?_⟩) ?_
      rotate_left
      ·intro W hSw;have q0:=(ZD.out.below hSw ZD.out.lt).cell (i:=3) rfl;have q1:=HNmI.out W (BD.out.trans (hSw.mono BD.out.size));have q3:=bytes_back cC (YD.out.below hSw (Nat.le_refl _)) LC.out hT.out;go_simp;try (with_reducible rfl)
      try simp only[Act.put,sA,sZ,sS]
      refine tk (i:=11) (oi:=⟨some 162,_,_,_,_,_⟩) (v:=?_) rfl (Or.inl ⟨by rfl,?_⟩) ?_
      rotate_left
      ·intro W hSw;have q0:=(ZD.out.below hSw ZD.out.lt).cell (i:=3) rfl;have q1:=HNmI.out W (BD.out.trans (hSw.mono BD.out.size));have q3:=bytes_back cC (YD.out.below hSw (Nat.le_refl _)) LC.out hT.out;go_simp;try (with_reducible rfl)
      try simp only[Act.put,sA,sZ,sS]
      refine wpAnyH_done (by kernel_rfl) ?_ _
      refine NoPanic.normal ?_
      have SK:=Lib.hid (BD.out.trans (D0.out.mono BD.out.size))
      go_wp2_with fail
      go_roundw
      case rel=>exact⟨i+1,by omega,by first|rfl|(congr 1<;>omega),SK⟩
      case measure=>simp[Vg.natOf];omega
     |false=>
      rw[hb]at hfin
      have hx5:find5 H l E nm=(0,16):=by
       rcases HNb.out with⟨h,_⟩|⟨_,h⟩
       ·cases hfin.2 h
       ·exact h
      clear hfin
      rw[hx5]at HFx
      clear hx5
      go_wp2_with(first
       |(go_at_call 22;(refine(HFx.out _ hby.out).mono ?_);rintro e wA ⟨rfl,hbA⟩;have BA:=Lib.hid (hby.out.trans (hbA.mono hby.out.size));clear hbA)
       |fail)
      go_roundw
      case rel=>exact⟨i+1,by omega,by first|rfl|(congr 1<;>omega),BA⟩
      case measure=>simp[Vg.natOf];omega
  ·have ds1:decide ((i:Int)<6)=false:=by simp;omega
   have hge1: ¬(i:Int)<6:=by omega
   go_wp2_with fail
   go_ret
   exact⟨rfl,Bf.out _ hbi.out⟩
theorem walk (a:Option Addr)(len cap:Nat)(z:List Int)(w:World)(h:IsRow .i64 w a len cap z):
 Calls Tryz.prog 4 #[.slice a len cap] w fun e w'=>e= .returned (.bool true)∧Below w.heap.size w w':=by
 obtain⟨hI,h2,h3⟩:=ints_in h
 by_cases h1:len≤120
 ·exact walk_main a len cap _ w hI h1
 ·have d1:decide ((120:Int)<(len:Int))=true:=by simp;omega
  clear h hI
  go_enter Tryz.func4,Tryz.ntmps4
  go_wp2_with(go_at_call 12;((with_reducible refine(first_chain _).mono ?_);rintro e w1 ⟨rfl,hb1⟩;have B1:=Lib.hid hb1;clear hb1))
  go_ret
  exact⟨rfl,B1.out⟩
end ChainFindsW
end Go.Proofs.YtjecmgkmcfkcjaaGreat
