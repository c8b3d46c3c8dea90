/-
  Texts beneath the proof.
-/
import Derived.Test.YtelmgldkgccecaaGreatQw43
import Derived.Test.YtelmgldkgccecaaGreatQw40
import Derived.Test.YtelmgldkgccecaaGreatQw35
set_option linter.unusedVariables false
set_option linter.unusedSimpArgs false
set_option maxRecDepth 100000
set_option maxHeartbeats 16000000
open Go.ChangeShapes Go.WideShapes Go.ChangeAt Go.RowKit
namespace Go.Proofs.YtelmgldkgccecaaGreat
namespace ChainWholeW
open Bytes8 Blk8 Own8 OwnM OwnE Rows2 Ga Gb Gj Ma Mb Mg Mh Na Np Ns Nt Nu Ok7 Rc Rn Rp Rr Va Vf Vh Wa Ls Zb Zd Zg Zh Zj Zl Zx Zz Zw Seq8 Kf Xf Xi
open Go1 (hcode HTold)
open Rd (dcode)
open Rf (fcode)
attribute [local irreducible] HD.cells in
theorem head_22 (H:HD)(w:World):(Instr.field 59 (.agg (H.cells 21).toArray) 22).run Tryz.prog w= .ok (.int .u64 (H.N 15)) w:=by
 have hc:(H.cells 21)[82]? =some (.int .u64 (H.N 15)):=H.get_N 21 15 (by decide)
 simp[go_sem,Instr.field,part,isAgg,asAgg,underlying,Tryz.underlying59,Tryz.underlying23,hc]
attribute [local irreducible] HD.cells in
theorem head_23 (H:HD)(w:World):(Instr.field 59 (.agg (H.cells 21).toArray) 23).run Tryz.prog w= .ok (.int .u64 (H.N 16)) w:=by
 have hc:(H.cells 21)[83]? =some (.int .u64 (H.N 16)):=H.get_N 21 16 (by decide)
 simp[go_sem,Instr.field,part,isAgg,asAgg,underlying,Tryz.underlying59,Tryz.underlying23,hc]
section
variable {m : Mk} {n0 : Nat} {os : List Za.O} {hs : Nat → List Nat} {mi : List Nat} {es : List (Nat × List Int)}
theorem hash4 (j:Jn m n0 os hs mi es){st:Int}(ht:0≤st∧st≤2)(s:Nat)(x:Nat)(hx:x∈pl m.datas s):0≤dN (hdOf (stL m st)) (stL m st) m.b.length x 0∧dN (hdOf (stL m st)) (stL m st) m.b.length x 0%(m.C.ds:Int)=(s:Int)∧x<m.b.length:=by
 obtain⟨i,hi,h1,rfl⟩:=mem_at hx
 obtain⟨_,d2,_,d4,_⟩:=st_dat j.k j.dt ht i hi
 have D:=j.k.hold.dat i hi
 have hsl:=D.slot
 have hs2:=(ofS_bd m.C.keyed (Cf.file m.C) m.datas[i].text).1
 have hds:=j.k.good.img.inv.ds
 rw[d2 0 (by decide),D.w0]
 unfold Mk.dslot at hsl
 have h5:=Int.emod_nonneg (Mk.sum m m.datas[i].text) (show(m.C.ds:Int)≠0 by omega)
 exact⟨hs2,by omega,d4⟩
theorem hash5 (j:Jn m n0 os hs mi es){st:Int}(ht:0≤st∧st≤2)(s:Nat)(x:Nat)(hx:x∈pl m.fields s):0≤fN (hdOf (stL m st)) (stL m st) m.b.length x 0∧fN (hdOf (stL m st)) (stL m st) m.b.length x 0%(m.C.fs:Int)=(s:Int)∧x<m.b.length:=by
 obtain⟨i,hi,h1,rfl⟩:=mem_at hx
 obtain⟨_,d2,_,d4,_⟩:=st_fld j.k j.ft ht i hi
 have D:=j.k.hold.fld i hi
 have hsl:=D.slot
 have hs2:=(ofS_bd m.C.keyed (Cf.file m.C) m.fields[i].text).1
 have hds:=j.k.good.img.inv.fs
 rw[d2 0 (by decide),D.w0]
 unfold Mk.fslot at hsl
 have h5:=Int.emod_nonneg (Mk.sum m m.fields[i].text) (show(m.C.fs:Int)≠0 by omega)
 exact⟨hs2,by omega,d4⟩
end
attribute [local irreducible] HD.cells wpList Code.wp
theorem walk_main (a:Option Addr)(len cap:Nat)(f:Nat→Int)(w:World)(hI:InInts .i64 w a len f)(hl:len≤120):
 Calls Tryz.prog 8 #[.slice a len cap] w fun e w'=>e= .returned (.bool true)∧Below w.heap.size w w':=by
 have d1:decide ((120:Int)<(len:Int))=false:=by simp;omega
 have HI:=Lib.hid hI
 clear hI
 go_enter Tryz.func8,Tryz.ntmps8
 go_upto_region 6 with(go_at_call 29;((with_reducible refine(first_chain _).mono ?_);rintro e w1 ⟨rfl,hb1⟩;have B1:=Lib.hid hb1;clear hb1))
 clear d1
 have HIm:=Lib.hid (image_n a len cap f 12 w1 (HI.out.below B1.out) (by omega) (by decide))
 unfold ImagedN at HIm
 go_upto_region 7 with(first
  |(go_at_call 13;((refine HIm.out.mono ?_);rintro e w2 ⟨A,c,m,n,rfl,hg2,ho2,hb2⟩;have HG:=Lib.hid hg2;have B2:=Lib.hid hb2;have HO:=Lib.hid ho2.bytes;have HC:=Lib.hid (own_cap ho2);have HOp:=Lib.hid (show Calls Tryz.prog 14 #[.slice A m.b.length c] w2 _ from open_fine (stL m 1) A m.b.length c w2 HO.out (st_len hg2.img 1) (by have:=hg2.img.lens;omega) HC.out.1 (st_hcode hg2.img (by decide)) m.b.length (st_end hg2.img (by decide)).1 (st_end hg2.img (by decide)).2 (Nat.le_refl _) (hdOf_ok HO.out.1 21));clear hg2 ho2 hb2;unfold Opened at HOp))
  |(go_at_call 14;((refine HOp.out.mono ?_);rintro e w3 ⟨gv,A3,c3,rfl,hgv,hv3,hc3,hb3⟩;have HV:=Lib.hid hv3;have HC3:=Lib.hid hc3;have B3:=Lib.hid (B2.out.trans (hb3.mono B2.out.size));clear hgv hv3 hc3 hb3))
  |fail)
 obtain⟨rs,hrs,hrl⟩:=HG.out.rch
 obtain⟨os,hs,mi,es,j⟩:=jn_of hrs
 have hcnt:=cnt_reach hrs
 have hL:=st_len HG.out.img 1
 rw[List.take_of_length_le (by omega)]at HV
 have hml:=HG.out.img.lens
 have ht:(0:Int)≤1∧(1:Int)≤2:=by decide
 obtain⟨⟨t1,t2,_⟩,t4,t5,_⟩:=st_tab j.k ht
 have hds:=j.k.good.img.inv.ds
 have hfs:=j.k.good.img.inv.fs
 have hn15:=(st_N HG.out.img ht 15 (by decide) (by decide)).trans hcnt.1
 have hn16:=(st_N HG.out.img ht 16 (by decide) (by decide)).trans hcnt.2
 have hdn:=j.k.good.img.inv.dn
 have hfn:=j.k.good.img.inv.fn
 have HT4:=Lib.hid fun(W:World) (hW:Below w3.heap.size w3 W)=>by have q:=tabTell 4 W (HV.out.below hW) HC3.out;unfold TellT at q;rw[t1,t2]at q;exact q
 have HT5:=Lib.hid fun(W:World) (hW:Below w3.heap.size w3 W)=>by have q:=tabTell 5 W (HV.out.below hW) HC3.out;unfold TellT at q;rw[t4,t5]at q;exact q
 have HB4:=Lib.hid fun(s:Nat) (hs2:s<m.C.ds) (W:World) (hW:Below w3.heap.size w3 W)=>by have q:=bucket4_any (s:Int) W (HV.out.below hW) HC3.out;rw[st_bucket4 j ht s hs2]at q;unfold TellL at q;exact q
 have HB5:=Lib.hid fun(s:Nat) (hs2:s<m.C.fs) (W:World) (hW:Below w3.heap.size w3 W)=>by have q:=bucket5_any (s:Int) W (HV.out.below hW) HC3.out;rw[st_bucket5 j ht s hs2]at q;unfold TellL at q;exact q
 have HD4:=Lib.hid fun(x:Nat) (W:World) (hW:Below w3.heap.size w3 W)=>by have q:=dataTell x W (HV.out.below hW) HC3.out;unfold TellD at q;exact q
 have HD5:=Lib.hid fun(x:Nat) (W:World) (hW:Below w3.heap.size w3 W)=>by have q:=fieldTell x W (HV.out.below hW) HC3.out;unfold TellF at q;exact q
 have HH4:=Lib.hid fun(s x:Nat) (hx:x∈pl m.datas s)=>hash4 j ht s x hx
 have HH5:=Lib.hid fun(s x:Nat) (hx:x∈pl m.fields s)=>hash5 j ht s x hx
 have HHd:=Lib.hid fun(W:World) (hW:Below w3.heap.size w3 W)=>vhead_any W (HV.out.below hW).blk
 have HCn4:=Lib.hid (cnt_all m.datas m.C.ds fun x hx=>by
  obtain⟨i,hi,rfl⟩:=List.getElem_of_mem hx
  rw[(j.k.hold.dat i hi).slot];exact(slot_lt j.k _).1)
 have HCn5:=Lib.hid (cnt_all m.fields m.C.fs fun x hx=>by
  obtain⟨i,hi,rfl⟩:=List.getElem_of_mem hx
  rw[(j.k.hold.fld i hi).slot];exact(slot_lt j.k _).2)
 have hf22:=fun W=>head_22 (hdOf (stL m 1)) W
 have hf23:=fun W=>head_23 (hdOf (stL m 1)) W
 rw[hn15]at hf22
 rw[hn16]at hf23
 have HF22:=Lib.hid hf22
 have HF23:=Lib.hid hf23
 have HDl:=Lib.hid (And.intro (show m.datas.length≤1000000 by omega) (show m.fields.length≤1000000 by omega))
 have HEb:=Lib.hid (show m.b.length≤1000000 by omega)
 have BB:=Lib.hid (B1.out.trans (B3.out.mono B1.out.size))
 have S3:=Lib.hid (Below.refl w3.heap.size w3)
 obtain⟨DS,hDS⟩: ∃x,m.datas=x:=⟨_,rfl⟩
 obtain⟨FS,hFS⟩: ∃x,m.fields=x:=⟨_,rfl⟩
 obtain⟨ds,hds2⟩: ∃x,m.C.ds=x:=⟨_,rfl⟩
 obtain⟨fs,hfs2⟩: ∃x,m.C.fs=x:=⟨_,rfl⟩
 rw[hDS]at HB4 HH4 HCn4 HF22 HDl
 rw[hFS]at HB5 HH5 HCn5 HF23 HDl
 rw[hds2]at HT4 HB4 HH4 HCn4 hds
 rw[hfs2]at HT5 HB5 HH5 HCn5 hfs
 clear HI HIm HOp HO HC HG j hL hml hrs hrl hcnt t1 t2 t4 t5 hn15 hn16 hdn hfn hf22 hf23 ht hDS hFS hds2 hfs2 HV B1 B2 B3
 generalize hdOf (stL m 1)=H at*
 generalize stL m 1=l at*
 generalize m.b.length=E at*
 go_upto_region 9 with fail
 go_wp2_with fail
 go_loopw [6] (fun kv wr=> ∃k:Nat,4≤k∧k≤6∧kv= .int .i64 (k:Int)∧Hid (Below w3.heap.size w3 wr)) (fun kv _=>6-natOf kv)
 case atStart=>exact⟨4,by omega,by omega,rfl,S3⟩
 case round=>
  obtain⟨k,hk1,hk2,rfl,hbr⟩:=hrel
  by_cases hk4:k=4
  ·subst hk4
   have hdne:((ds:Int)==0)=false:=by simp;omega
   have hdne2:decide ((ds:Int)=0)=false:=by simp;omega
   have hdne3:decide (ds=0)=false:=by simp;omega
   go_upto_region 15 with(first
    |(go_at_call 16;(refine(HT4.out _ hbr.out).mono ?_);rintro e w4 ⟨hb4,A4,c4,rfl,_⟩;have B4:=Lib.hid (hbr.out.trans (hb4.mono hbr.out.size));clear hb4)
    |fail)
   go_wp2_with fail
   go_loopw [9,10] (fun nv sv wr=> ∃s:Nat,s≤ds∧sv= .int .i64 (s:Int)∧nv= .int .i64 (((DS.filter fun x=>decide (x.slot<s)).length:Nat):Int)∧Hid (Below w3.heap.size w3 wr)) (fun _ sv _=>ds-natOf sv)
   case atStart=>exact⟨0,Nat.zero_le _,rfl,by rw[show(DS.filter fun x=>decide (x.slot<0))=[]from List.filter_eq_nil_iff.2 (fun x _=>by simp)];rfl,B4⟩
   case round=>
    clear hbr
    obtain⟨s,hs1,rfl,rfl,hbs⟩:=hrel
    by_cases hs2:s<ds
    ·have ds1:decide ((s:Int)<(ds:Int))=true:=by simp;omega
     have hsum:=cnt_slots DS s
     have hle:=List.length_filter_le (fun x=>decide (x.slot<s+1)) DS
     obtain⟨P,hP⟩: ∃x,pl DS s=x:=⟨_,rfl⟩
     have HBk:=Lib.hid (HB4.out s hs2 _ hbs.out)
     have HHs:=Lib.hid fun(x:Nat) (hx:x∈P)=>HH4.out s x (hP▸hx)
     rw[hP]at hsum HBk
     obtain⟨cs,hcs⟩: ∃x,(DS.filter fun x=>decide (x.slot<s)).length=x:=⟨_,rfl⟩
     obtain⟨cs1,hcs1⟩: ∃x,(DS.filter fun x=>decide (x.slot<s+1)).length=x:=⟨_,rfl⟩
     rw[hcs,hcs1]at hsum
     rw[hcs1]at hle
     rw[hcs]
     have HCs:=Lib.hid hcs1
     have HLe:=Lib.hid hle
     have hdl:=HDl.out
     clear hcs hcs1 hP hle
     go_upto_region 20 with(first
      |(go_at_call 30;(refine HBk.out.mono ?_);rintro e w5 ⟨hb5,A5,m5,c5,rfl,ho5,hl5⟩;have O5:=Lib.hid ho5;have L5:=Lib.hid hl5;have B5:=Lib.hid (hbs.out.trans (hb5.mono hbs.out.size));clear hb5 ho5 hl5)
      |fail)
     have hm5:m5=P.length:=by have:=L5.out;rw[List.length_map]at this;omega
     subst hm5
     have HI5:=Lib.hid (tell_ints O5.out L5.out (fun y hy=>by
      obtain⟨q,hq,rfl⟩:=List.mem_map.1 hy
      have h1:=(HHs.out q hq).2.2
      have h2:=HEb.out
      omega))
     have hwn:IntKind.i64.wrap ((cs:Int)+(P.length:Int))=(cs1:Int):=by rw[IntKind.wrap_i64];have:=HLe.out;omega
     have hPl:P.length≤1000000:=by have:=HLe.out;omega
     clear HBk O5 L5 hsum
     go_wp2_with fail
     go_loopw [13] (fun iv wr=> ∃i:Nat,i≤P.length∧iv= .int .i64 (i:Int)∧Hid (Below w5.heap.size w5 wr)) (fun iv _=>P.length-natOf iv)
     case atStart=>exact⟨0,Nat.zero_le _,rfl,Lib.hid (Below.refl w5.heap.size w5)⟩
     case round=>
      rename World=>w6
      obtain⟨i,hi1,rfl,hb6⟩:=hrel
      by_cases hi2:i<P.length
      ·have di1:decide ((i:Int)<(P.length:Int))=true:=by simp;omega
       have hii:(i:Int)<(P.length:Int):=by omega
       obtain⟨b7,o7,rfl,hb7,cx,_⟩:=(HI5.out.below hb6.out) i hi2
       dsimp only at cx
       rw[show(toI P).getD i 0=((P[i]:Nat):Int)by simp[List.getD_eq_getElem?_getD,List.getElem?_eq_getElem hi2]]at cx
       have hmem:=List.getElem_mem hi2
       generalize P[i]=x at*
       obtain⟨q1,q2,q3⟩:=HHs.out x hmem
       have HDx:=Lib.hid (HD4.out x w6 (B5.out.trans (hb6.out.mono B5.out.size)))
       generalize dN H l E x 0=hx at*
       generalize dN H l E x 1=x1 at*
       generalize dN H l E x 2=x2 at*
       generalize dN H l E x 3=x3 at*
       generalize dN H l E x 4=x4 at*
       generalize dN H l E x 5=x5 at*
       generalize dcode H l E x=cdx at*
       have hwt:IntKind.u64.wrap (ds:Int)=(ds:Int):=by rw[IntKind.wrap_u64];omega
       have hws:IntKind.u64.wrap (s:Int)=(s:Int):=by rw[IntKind.wrap_u64];omega
       have htm:hx.tmod (ds:Int)=(s:Int):=by rw[Int.tmod_eq_emod_of_nonneg q1];exact q2
       have hsne:((s:Int)!=(s:Int))=false:=by simp
       have hwi:IntKind.i64.wrap ((i:Int)+1)=((i+1:Nat):Int):=by rw[IntKind.wrap_i64];omega
       clear hmem q3
       go_wp2_with(first
        |(go_at_call 43;(refine HDx.out.mono ?_);rintro e w7 ⟨hb8,A8,m8,c8,rfl,_⟩;have B8:=Lib.hid (hb6.out.trans (hb8.mono hb6.out.size));clear hb8)
        |fail)
       go_roundw
       case rel=>exact⟨i+1,by omega,by first|rfl|(congr 1<;>omega),Lib.hid (B8.out.alloc B8.out.size _)⟩
       case measure=>simp[natOf];omega
      ·have di1:decide ((i:Int)<(P.length:Int))=false:=by simp;omega
       have hwi:IntKind.i64.wrap ((s:Int)+1)=((s+1:Nat):Int):=by rw[IntKind.wrap_i64];omega
       go_wp2_with fail
       go_roundw
       case rel=>exact⟨s+1,by omega,by first|rfl|(congr 1<;>omega),by rw[HCs.out],Lib.hid (B5.out.trans (hb6.out.mono B5.out.size))⟩
       case measure=>simp[natOf];omega
    ·have ds1:decide ((s:Int)<(ds:Int))=false:=by simp;omega
     have hse:s=ds:=by omega
     subst hse
     rw[HCn4.out]
     have HHx:=Lib.hid (HHd.out _ hbs.out)
     have hff:=HF22.out
     have hwl:IntKind.u64.wrap (DS.length:Int)=(DS.length:Int):=by rw[IntKind.wrap_u64];have:=HDl.out;omega
     have hff22:=HF22.out
     have hlne:((DS.length:Int)!=(DS.length:Int))=false:=by simp
     go_wp2_with(first
      |(go_at_call 25;(with_reducible refine(HHd.out _ hbs.out).mono ?_);rintro e w9 ⟨rfl,hb9⟩;have B9:=Lib.hid (hbs.out.trans (hb9.mono hbs.out.size));clear hb9)
      |(go_at_call 25;(with_reducible refine(HHd.out _ B9.out).mono ?_);rintro e w10 ⟨rfl,hb10⟩;have B10:=Lib.hid (B9.out.trans (hb10.mono B9.out.size));clear hb10)
      |fail)
     go_roundw
     case rel=>exact⟨5,by omega,by omega,rfl,B9⟩
     case measure=>simp[natOf]
  by_cases hk5:k=5
  ·subst hk5
   have hdne:((fs:Int)==0)=false:=by simp;omega
   have hdne2:decide ((fs:Int)=0)=false:=by simp;omega
   have hdne3:decide (fs=0)=false:=by simp;omega
   go_upto_region 15 with(first
    |(go_at_call 16;(refine(HT5.out _ hbr.out).mono ?_);rintro e w4 ⟨hb4,A4,c4,rfl,_⟩;have B4:=Lib.hid (hbr.out.trans (hb4.mono hbr.out.size));clear hb4)
    |fail)
   go_wp2_with fail
   go_loopw [9,10] (fun nv sv wr=> ∃s:Nat,s≤fs∧sv= .int .i64 (s:Int)∧nv= .int .i64 (((FS.filter fun x=>decide (x.slot<s)).length:Nat):Int)∧Hid (Below w3.heap.size w3 wr)) (fun _ sv _=>fs-natOf sv)
   case atStart=>exact⟨0,Nat.zero_le _,rfl,by rw[show(FS.filter fun x=>decide (x.slot<0))=[]from List.filter_eq_nil_iff.2 (fun x _=>by simp)];rfl,B4⟩
   case round=>
    clear hbr
    obtain⟨s,hs1,rfl,rfl,hbs⟩:=hrel
    by_cases hs2:s<fs
    ·have ds1:decide ((s:Int)<(fs:Int))=true:=by simp;omega
     have hsum:=cnt_slots FS s
     have hle:=List.length_filter_le (fun x=>decide (x.slot<s+1)) FS
     obtain⟨P,hP⟩: ∃x,pl FS s=x:=⟨_,rfl⟩
     have HBk:=Lib.hid (HB5.out s hs2 _ hbs.out)
     have HHs:=Lib.hid fun(x:Nat) (hx:x∈P)=>HH5.out s x (hP▸hx)
     rw[hP]at hsum HBk
     obtain⟨cs,hcs⟩: ∃x,(FS.filter fun x=>decide (x.slot<s)).length=x:=⟨_,rfl⟩
     obtain⟨cs1,hcs1⟩: ∃x,(FS.filter fun x=>decide (x.slot<s+1)).length=x:=⟨_,rfl⟩
     rw[hcs,hcs1]at hsum
     rw[hcs1]at hle
     rw[hcs]
     have HCs:=Lib.hid hcs1
     have HLe:=Lib.hid hle
     have hdl:=HDl.out
     clear hcs hcs1 hP hle
     go_upto_region 20 with(first
      |(go_at_call 30;(refine HBk.out.mono ?_);rintro e w5 ⟨hb5,A5,m5,c5,rfl,ho5,hl5⟩;have O5:=Lib.hid ho5;have L5:=Lib.hid hl5;have B5:=Lib.hid (hbs.out.trans (hb5.mono hbs.out.size));clear hb5 ho5 hl5)
      |fail)
     have hm5:m5=P.length:=by have:=L5.out;rw[List.length_map]at this;omega
     subst hm5
     have HI5:=Lib.hid (tell_ints O5.out L5.out (fun y hy=>by
      obtain⟨q,hq,rfl⟩:=List.mem_map.1 hy
      have h1:=(HHs.out q hq).2.2
      have h2:=HEb.out
      omega))
     have hwn:IntKind.i64.wrap ((cs:Int)+(P.length:Int))=(cs1:Int):=by rw[IntKind.wrap_i64];have:=HLe.out;omega
     have hPl:P.length≤1000000:=by have:=HLe.out;omega
     clear HBk O5 L5 hsum
     go_wp2_with fail
     go_loopw [13] (fun iv wr=> ∃i:Nat,i≤P.length∧iv= .int .i64 (i:Int)∧Hid (Below w5.heap.size w5 wr)) (fun iv _=>P.length-natOf iv)
     case atStart=>exact⟨0,Nat.zero_le _,rfl,Lib.hid (Below.refl w5.heap.size w5)⟩
     case round=>
      rename World=>w6
      obtain⟨i,hi1,rfl,hb6⟩:=hrel
      by_cases hi2:i<P.length
      ·have di1:decide ((i:Int)<(P.length:Int))=true:=by simp;omega
       have hii:(i:Int)<(P.length:Int):=by omega
       obtain⟨b7,o7,rfl,hb7,cx,_⟩:=(HI5.out.below hb6.out) i hi2
       dsimp only at cx
       rw[show(toI P).getD i 0=((P[i]:Nat):Int)by simp[List.getD_eq_getElem?_getD,List.getElem?_eq_getElem hi2]]at cx
       have hmem:=List.getElem_mem hi2
       generalize P[i]=x at*
       obtain⟨q1,q2,q3⟩:=HHs.out x hmem
       have HDx:=Lib.hid (HD5.out x w6 (B5.out.trans (hb6.out.mono B5.out.size)))
       generalize fN H l E x 0=hx at*
       generalize fN H l E x 1=x1 at*
       generalize fN H l E x 2=x2 at*
       generalize fcode H l E x=cdx at*
       have hwt:IntKind.u64.wrap (fs:Int)=(fs:Int):=by rw[IntKind.wrap_u64];omega
       have hws:IntKind.u64.wrap (s:Int)=(s:Int):=by rw[IntKind.wrap_u64];omega
       have htm:hx.tmod (fs:Int)=(s:Int):=by rw[Int.tmod_eq_emod_of_nonneg q1];exact q2
       have hsne:((s:Int)!=(s:Int))=false:=by simp
       have hwi:IntKind.i64.wrap ((i:Int)+1)=((i+1:Nat):Int):=by rw[IntKind.wrap_i64];omega
       clear hmem q3
       go_wp2_with(first
        |(go_at_call 44;(refine HDx.out.mono ?_);rintro e w7 ⟨hb8,A8,m8,c8,rfl,_⟩;have B8:=Lib.hid (hb6.out.trans (hb8.mono hb6.out.size));clear hb8)
        |fail)
       go_roundw
       case rel=>exact⟨i+1,by omega,by first|rfl|(congr 1<;>omega),Lib.hid (B8.out.alloc B8.out.size _)⟩
       case measure=>simp[natOf];omega
      ·have di1:decide ((i:Int)<(P.length:Int))=false:=by simp;omega
       have hwi:IntKind.i64.wrap ((s:Int)+1)=((s+1:Nat):Int):=by rw[IntKind.wrap_i64];omega
       go_wp2_with fail
       go_roundw
       case rel=>exact⟨s+1,by omega,by first|rfl|(congr 1<;>omega),by rw[HCs.out],Lib.hid (B5.out.trans (hb6.out.mono B5.out.size))⟩
       case measure=>simp[natOf];omega
    ·have ds1:decide ((s:Int)<(fs:Int))=false:=by simp;omega
     have hse:s=fs:=by omega
     subst hse
     rw[HCn5.out]
     have HHx:=Lib.hid (HHd.out _ hbs.out)
     have hff:=HF23.out
     have hwl:IntKind.u64.wrap (FS.length:Int)=(FS.length:Int):=by rw[IntKind.wrap_u64];have:=HDl.out;omega
     have hff22:=HF22.out
     have hlne:((FS.length:Int)!=(FS.length:Int))=false:=by simp
     go_wp2_with(first
      |(go_at_call 25;(with_reducible refine(HHd.out _ hbs.out).mono ?_);rintro e w9 ⟨rfl,hb9⟩;have B9:=Lib.hid (hbs.out.trans (hb9.mono hbs.out.size));clear hb9)
      |(go_at_call 25;(with_reducible refine(HHd.out _ B9.out).mono ?_);rintro e w10 ⟨rfl,hb10⟩;have B10:=Lib.hid (B9.out.trans (hb10.mono B9.out.size));clear hb10)
      |fail)
     go_roundw
     case rel=>exact⟨6,by omega,by omega,rfl,B10⟩
     case measure=>simp[natOf]
  ·have hk6:k=6:=by omega
   subst hk6
   go_wp2_with fail
   go_ret
   exact⟨rfl,BB.out.trans (hbr.out.mono BB.out.size)⟩
theorem walk (a:Option Addr)(len cap:Nat)(z:List Int)(w:World)(h:IsRow .i64 w a len cap z):
 Calls Tryz.prog 8 #[.slice a len cap] w fun e w'=>e= .returned (.bool true)∧Below w.heap.size w w':=by
 obtain⟨hI,h2,h3⟩:=ints_in h
 by_cases h1:len≤120
 ·exact walk_main a len cap _ w hI h1
 ·have d1:decide ((120:Int)<(len:Int))=true:=by simp;omega
  clear h hI
  go_enter Tryz.func8,Tryz.ntmps8
  go_wp2_with(go_at_call 29;((with_reducible refine(first_chain _).mono ?_);rintro e w1 ⟨rfl,hb1⟩;have B1:=Lib.hid hb1;clear hb1))
  go_ret
  exact⟨rfl,B1.out⟩
end ChainWholeW
end Go.Proofs.YtelmgldkgccecaaGreat
