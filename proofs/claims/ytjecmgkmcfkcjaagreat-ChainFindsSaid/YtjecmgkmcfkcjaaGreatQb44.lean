/-
  Texts beneath the proof.
-/
import Derived.Test.YtjecmgkmcfkcjaaGreatQb43
import Derived.Test.YtjecmgkmcfkcjaaGreatQb41
import Derived.Test.YtjecmgkmcfkcjaaGreatQb30
import Derived.Test.YtjecmgkmcfkcjaaGreatQb28
import Derived.Test.YtjecmgkmcfkcjaaGreatQb31
set_option linter.unusedVariables false
set_option linter.unusedSimpArgs false
set_option maxRecDepth 100000
set_option maxHeartbeats 4000000
open Go.ChangeShapes Go.WideShapes Go.ChangeAt Go.RowKit
namespace Go.Proofs.YtjecmgkmcfkcjaaGreat
namespace Xi
open Bytes8 Blk8 Own8 OwnM OwnE Rows2 Ob Ga Gb Gj Ma Mb Mh Na Np Ns Nt Nu Rc Rp Vf Wg Zb Zd Zg Zj Zl Zx Zz Zy Seq8 Kf Xh Ff
open Go1 (hcode HTold)
theorem jn_of {m:Mk}{rs:List RR}(h:Nu.Reach m rs): ∃os hs mi es,Jn m rs.length os hs mi es:=by
 obtain⟨os,hs,mi,es,k,q⟩:=kept_recs h
 obtain⟨t1,t2⟩:=tx_full h
 exact⟨os,hs,mi,es,{k:=k,dt:=t1,ft:=t2,ic:=q.ic,I:=q.I}⟩
theorem tabs {m:Mk}{n0:Nat}{os:List Za.O}{hs:Nat→List Nat}{mi:List Nat}{es:List (Nat×List Int)}(j:Jn m n0 os hs mi es){st:Int}(ht:0≤st∧st≤2):
 (tCode (hdOf (stL m st)) (stL m st) 4=0→0<tNum (hdOf (stL m st)) (stL m st) 4∧tNum (hdOf (stL m st)) (stL m st) 4≤1000000)∧(tCode (hdOf (stL m st)) (stL m st) 5=0→0<tNum (hdOf (stL m st)) (stL m st) 5∧tNum (hdOf (stL m st)) (stL m st) 5≤1000000):=by
 obtain⟨⟨_,t2,_⟩,_,t5,_⟩:=st_tab j.k ht
 have h1:=j.k.good.img.inv.ds
 have h2:=j.k.good.img.inv.fs
 rw[t2,t5]
 exact⟨fun _=>by omega,fun _=>by omega⟩
theorem empty_find {m:Mk}{os:List Za.O}{hs:Nat→List Nat}{mi:List Nat}{es:List (Nat×List Int)}(h:Nu.Reach m [])(j:Jn m 0 os hs mi es){st:Int}(ht:0≤st∧st≤2)(t:List Int):find4 (hdOf (stL m st)) (stL m st) m.b.length t=(0,16):=by
 rcases st_find4 j ht t with⟨i,hi,_⟩|⟨_,h1⟩
 ·have h2:=(tx_reach h).1
  have h3:m.datas.length=0:=by
   have:=congrArg List.length h2
   simpa [tx,allP]using this
  omega
 ·exact h1
abbrev cA:List Int:=[65,61,49]
attribute [local irreducible] HD.cells wpList Code.wp
theorem first_chain (w:World):Calls Tryz.prog 12 #[] w fun e w'=>e= .returned (.bool true)∧Below w.heap.size w w':=by
 have kc:=fun(w:World) (C:Array Value) (n c:Nat)=>Lib.run_convert_bytes_const (P:=Tryz.prog) w 23 5 C n c Tryz.underlying23 Tryz.underlying5
 have aA:AllB cA:=small_all rfl
 have HI:=Lib.hid (image_n none 0 0 (fun _=>0) 0 w (fun i hi=>absurd hi (Nat.not_lt_zero i)) (by decide) (by decide))
 unfold ImagedN at HI
 go_enter Tryz.func12,Tryz.ntmps12
 go_upto_region 2 with(first
  |(go_at_call 14;((refine HI.out.mono ?_);rintro e w2 ⟨A,c,m,n,rfl,hg2,ho2,hb2⟩;have HG:=Lib.hid hg2;have B2:=Lib.hid hb2;have HO:=Lib.hid ho2.bytes;have HC:=Lib.hid (own_cap ho2);have HOp:=Lib.hid (show Calls Tryz.prog 15 #[.slice A m.b.length c] w2 _ from open_fine (stL m 1) A m.b.length c w2 HO.out (st_len hg2.img 1) (by have:=hg2.img.lens;omega) HC.out.1 (st_hcode hg2.img (by decide)) m.b.length (st_end hg2.img (by decide)).1 (st_end hg2.img (by decide)).2 (Nat.le_refl _) (hdOf_ok HO.out.1 21));clear hg2 ho2 hb2;unfold Opened at HOp))
  |(go_at_call 15;((refine HOp.out.mono ?_);rintro e w3 ⟨gv,A3,c3,rfl,hgv,hv3,hc3,hb3⟩;have HV:=Lib.hid hv3;have HC3:=Lib.hid hc3;have B3:=Lib.hid (B2.out.trans (hb3.mono B2.out.size));clear hgv hv3 hc3 hb3))
  |fail)
 obtain⟨rs,hrs,hrl⟩:=HG.out.rch
 have hn0:n=0:=by have:=HG.out.le;omega
 have hr0:rs=[]:=List.eq_nil_of_length_eq_zero (by omega)
 subst hr0
 obtain⟨os,hs,mi,es,j⟩:=jn_of hrs
 have hL:=st_len HG.out.img 1
 rw[List.take_of_length_le (by omega)]at HV
 have hml:=HG.out.img.lens
 have HFd:=Lib.hid fun(W:World) (g:Nat) (hg:W.heap.size=g) (M:Nat×Nat) (hW:Below w3.heap.size w3 (W.alloc (.cells #[.int .u8 65,.int .u8 61,.int .u8 49] 5 M)))=>by
  have q:=finddata_any (some ⟨g,0,none⟩) cA 3 3 (W.alloc (.cells #[.int .u8 65,.int .u8 61,.int .u8 49] 5 M)) (HV.out.below hW) HC3.out (hg▸const_bytes cA aA W M) rfl (by decide) (by decide) (by decide) (tabs j (by decide)).1
  rw[empty_find hrs j (by decide)]at q
  exact q
 have z0:=Lib.hid ((Below.refl w3.heap.size w3).alloc (Nat.le_refl _) (.cells #[.int .u8 65,.int .u8 61,.int .u8 49] 5 (3,4)))
 clear HI HOp HO HC HG j hL hml hrs hrl
 go_wp2_with(first
  |(go_at_call 26;(refine(HFd.out _ _ (by simp) _ z0.out).mono ?_);rintro e w5 ⟨rfl,hb5⟩;have B5:=Lib.hid (z0.out.trans (hb5.mono z0.out.size));clear hb5)
  |fail)
 go_ret
 exact⟨rfl,B3.out.trans (B5.out.mono B3.out.size)⟩
end Xi
end Go.Proofs.YtjecmgkmcfkcjaaGreat
