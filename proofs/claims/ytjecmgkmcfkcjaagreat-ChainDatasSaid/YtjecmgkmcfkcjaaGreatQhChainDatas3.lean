/-
  Texts beneath the proof.
-/
import Derived.Test.YtjecmgkmcfkcjaaGreatQhChainDatas1
set_option linter.unusedVariables false
set_option linter.unusedSimpArgs false
set_option maxRecDepth 100000
set_option maxHeartbeats 4000000
open Go.ChangeShapes Go.WideShapes Go.ChangeAt Go.RowKit
namespace Go.Proofs.YtjecmgkmcfkcjaaGreat
namespace Zz
open Bytes8 Blk8 Ga Gj Ma Mb Mg Na Nc Nt Np Nq Ns Sg Za Zb Zc Zd Ze Zg Va Wa Wg Zj Zk Zl Zx Rj
open Rd (dcode)
open Rf (fcode)
theorem seek_fol (E:Nat)(oC:Nat→Int)(oX:Nat→Nat)(oH:Nat→Int)(oP:Nat→List Int)(hv:Int)(pl:List Int)(nx:Nat→Int): ∀(xs:List Nat) (a last f:Nat),Fol nx (a:Int) xs→(last::xs).Pairwise (· < ·)→(∀x∈xs,oC x=0∧(oX x:Int)=nx x∧x<E)→last≤E→E+1≤f+last→
 (∃x∈xs,oH x=hv∧oP x=pl∧seek E oC oX oH oP hv pl f a last=((x:Int),0))∨((∀x∈xs,¬(oH x=hv∧oP x=pl))∧seek E oC oX oH oP hv pl f a last=(0,16))
 | [],a,last,f,h,_,_,hl,hf=>by
   have h0:(a:Int)=0:=h
   obtain⟨f,rfl⟩: ∃q,f=q+1:=⟨f-1,by omega⟩
   refine .inr ⟨(fun x hx=>by cases hx),?_⟩
   unfold seek
   rw[if_pos (by rw[h0];simp[nothB])]
 |x::xs,a,last,f,h,hp,hx,hl,hf=>by
  obtain⟨f,rfl⟩: ∃q,f=q+1:=⟨f-1,by omega⟩
  have h0:(a:Int)=(x:Int):=h.1
  have hax:a=x:=by omega
  subst hax
  obtain⟨x1,x2,x3⟩:=hx a (List.mem_cons_self ..)
  rw[List.pairwise_cons]at hp
  have hlt:=hp.1 a (List.mem_cons_self ..)
  unfold seek
  rw[if_neg (by simp[nothB];omega),if_neg (by omega),if_neg (by rw[x1];simp)]
  by_cases hm:oH a=hv∧oP a=pl
  ·rw[if_pos hm]
   exact .inl ⟨a,List.mem_cons_self ..,hm.1,hm.2,rfl⟩
  ·rw[if_neg hm]
   have h2:=h.2
   rw[←x2]at h2
   rcases seek_fol E oC oX oH oP hv pl nx xs (oX a) a f h2 hp.2 (fun y hy=>hx y (List.mem_cons_of_mem _ hy)) (by omega) (by omega)with⟨y,y1,y2,y3,y4⟩|⟨y1,y2⟩
   ·exact .inl ⟨y,List.mem_cons_of_mem _ y1,y2,y3,y4⟩
   ·refine .inr ⟨fun y hy=>?_,y2⟩
    rcases List.mem_cons.1 hy with e|e
    ·rw[e];exact hm
    ·exact y1 y e
variable {m : Mk} {n0 : Nat} {os : List O} {hs : Nat → List Nat} {mi : List Nat} {es : List (Nat × List Int)}
structure Jn (m:Mk)(n0:Nat)(os:List O)(hs:Nat→List Nat)(mi:List Nat)(es:List (Nat×List Int)):Prop where
 k:Kept m n0 os hs mi es
 dt: ∀d∈m.datas,d.text≠ []
 ft: ∀f∈m.fields,f.text≠ []
 ic:m.h.ic=if m.C.keyed then 4 else 0
 I: ∀i,i<16→m.h.I i=m.C.F i
theorem mem_at {l:List Kn}{s x:Nat}(h:x∈pl l s): ∃i,∃hi:i<l.length,l[i].slot=s∧l[i].at_=x:=by
 obtain⟨d,hd,h1,h2⟩:=mem_pl h
 obtain⟨i,hi,e⟩:=List.getElem_of_mem hd
 exact⟨i,hi,by rw[e];exact h1,by rw[e];exact h2⟩
theorem at_mem {l:List Kn}{i:Nat}(hi:i<l.length):l[i].at_∈pl l l[i].slot:=by
 unfold pl
 exact List.mem_map.2 ⟨l[i],List.mem_filter.2 ⟨List.getElem_mem hi,by simp⟩,rfl⟩
theorem st_key (j:Jn m n0 os hs mi es){st:Int}(ht:0≤st∧st≤2)(t:List Int):ofS (keyB (hdOf (stL m st)).ic) (idL (hdOf (stL m st)).I) t=Mk.sum m t:=by
 have s:=st_says j.k.good.img ht
 obtain⟨k1,k2⟩:=key_is (hdOf (stL m st)) m.C (s.ic.trans j.ic) (fun i hi=>(s.I i (by omega)).trans (j.I i hi))
 rw[k1,k2]
 rfl
theorem chainD (j:Jn m n0 os hs mi es){st:Int}(ht:0≤st∧st≤2)(s:Nat): ∀x∈pl m.datas s,dcode (hdOf (stL m st)) (stL m st) m.b.length x=0∧(((fun a=>(dN (hdOf (stL m st)) (stL m st) m.b.length a 1).toNat) x:Nat):Int)=wd os x 1∧x<m.b.length:=fun x hx=>by
 obtain⟨i,hi,_,rfl⟩:=mem_at hx
 obtain⟨d1,d2,_,d4,_⟩:=st_dat j.k j.dt ht i hi
 have hb:=wd_bd j.k.hold.rep (a:=m.datas[i].at_) (j:=1)
 refine⟨d1,?_,d4⟩
 dsimp only
 rw[d2 1 (by decide)]
 omega
theorem chainF (j:Jn m n0 os hs mi es){st:Int}(ht:0≤st∧st≤2)(s:Nat): ∀x∈pl m.fields s,fcode (hdOf (stL m st)) (stL m st) m.b.length x=0∧(((fun a=>(fN (hdOf (stL m st)) (stL m st) m.b.length a 1).toNat) x:Nat):Int)=wd os x 1∧x<m.b.length:=fun x hx=>by
 obtain⟨i,hi,_,rfl⟩:=mem_at hx
 obtain⟨d1,d2,_,d4,_⟩:=st_fld j.k j.ft ht i hi
 have hb:=wd_bd j.k.hold.rep (a:=m.fields[i].at_) (j:=1)
 refine⟨d1,?_,d4⟩
 dsimp only
 rw[d2 1 (by decide)]
 omega
theorem pos_pl {l:List Kn}(h:Asc l)(hp: ∀d∈l,0<d.at_)(s:Nat):(0::pl l s).Pairwise (· < ·):=by
 rw[List.pairwise_cons]
 refine⟨fun x hx=>?_,h.pl s⟩
 obtain⟨d,hd,_,e⟩:=mem_pl hx
 rw[←e];exact hp d hd
theorem posD (j:Jn m n0 os hs mi es): ∀d∈m.datas,0<d.at_:=fun d hd=>by
 obtain⟨i,hi,rfl⟩:=List.getElem_of_mem hd
 have:=(st_dat j.k j.dt (st:=0) (by decide) i hi).2.2.2.2
 omega
theorem posF (j:Jn m n0 os hs mi es): ∀d∈m.fields,0<d.at_:=fun d hd=>by
 obtain⟨i,hi,rfl⟩:=List.getElem_of_mem hd
 have:=(st_fld j.k j.ft (st:=0) (by decide) i hi).2.2.2.2
 omega
theorem nat_of {z:Int}(h:0≤z):((z.toNat:Nat):Int)=z:=by omega
theorem slot_mod (x:Int)(n:Nat)(h:0≤x):x.toNat%n=(x%(n:Int)).toNat:=by
 obtain⟨q,rfl⟩: ∃q:Nat,x=(q:Int):=⟨x.toNat,by omega⟩
 rw[Int.toNat_natCast]
 have:((q:Int)%(n:Int))=((q%n:Nat):Int):=by omega
 rw[this,Int.toNat_natCast]
theorem st_find4 (j:Jn m n0 os hs mi es){st:Int}(ht:0≤st∧st≤2)(t:List Int):
 (∃i,∃hi:i<m.datas.length,m.datas[i].text=t∧find4 (hdOf (stL m st)) (stL m st) m.b.length t=((m.datas[i].at_:Int),0))∨((∀d∈m.datas,d.text≠t)∧find4 (hdOf (stL m st)) (stL m st) m.b.length t=(0,16)):=by
 obtain⟨⟨t1,t2,t3⟩,_⟩:=st_tab j.k ht
 have hsl:=(slot_lt j.k t).1
 have hsum:=(ofS_bd m.C.keyed (Cf.file m.C) t).1
 have hss:(Mk.sum m t).toNat%m.C.ds=Mk.dslot m t:=slot_mod _ _ hsum
 unfold find4
 rw[if_neg (by rw[t1];simp),t2,st_key j ht,hss,t3 _ hsl]
 have hb:=wd_bd j.k.hold.rep (a:=272) (j:=2*Mk.dslot m t)
 have hf:=j.k.hold.td.fol _ hsl
 rw[←nat_of hb.1]at hf
 rcases seek_fol m.b.length (dcode (hdOf (stL m st)) (stL m st) m.b.length) (fun a=>(dN (hdOf (stL m st)) (stL m st) m.b.length a 1).toNat) (fun a=>dN (hdOf (stL m st)) (stL m st) m.b.length a 0) (dP (hdOf (stL m st)) (stL m st) m.b.length) (Mk.sum m t) t (fun x=>wd os x 1) _ _ 0 (m.b.length+1) hf (pos_pl j.k.hold.asc (posD j) _) (chainD j ht _) (Nat.zero_le _) (by omega)with⟨x,x1,_,x3,x4⟩|⟨x1,x2⟩
 ·obtain⟨i,hi,_,rfl⟩:=mem_at x1
  refine .inl ⟨i,hi,?_,x4⟩
  rw[(st_dat j.k j.dt ht i hi).2.2.1]at x3
  exact x3
 ·refine .inr ⟨fun d hd e=>?_,x2⟩
  obtain⟨i,hi,rfl⟩:=List.getElem_of_mem hd
  have hD:=j.k.hold.dat i hi
  have hm:=at_mem hi
  rw[hD.slot,e]at hm
  obtain⟨_,d2,d3,_⟩:=st_dat j.k j.dt ht i hi
  refine x1 _ hm ⟨?_,d3.trans e⟩
  rw[d2 0 (by decide),hD.w0,e]
theorem st_find5 (j:Jn m n0 os hs mi es){st:Int}(ht:0≤st∧st≤2)(t:List Int):
 (∃i,∃hi:i<m.fields.length,m.fields[i].text=t∧find5 (hdOf (stL m st)) (stL m st) m.b.length t=((m.fields[i].at_:Int),0))∨((∀d∈m.fields,d.text≠t)∧find5 (hdOf (stL m st)) (stL m st) m.b.length t=(0,16)):=by
 obtain⟨_,t1,t2,t3⟩:=st_tab j.k ht
 have hsl:=(slot_lt j.k t).2
 have hsum:=(ofS_bd m.C.keyed (Cf.file m.C) t).1
 have hss:(Mk.sum m t).toNat%m.C.fs=Mk.fslot m t:=slot_mod _ _ hsum
 unfold find5
 rw[if_neg (by rw[t1];simp),t2,st_key j ht,hss,t3 _ hsl]
 have hb:=wd_bd j.k.hold.rep (a:=288+16*m.C.ds) (j:=2*Mk.fslot m t)
 have hf:=j.k.hold.tf.fol _ hsl
 rw[←nat_of hb.1]at hf
 rcases seek_fol m.b.length (fcode (hdOf (stL m st)) (stL m st) m.b.length) (fun a=>(fN (hdOf (stL m st)) (stL m st) m.b.length a 1).toNat) (fun a=>fN (hdOf (stL m st)) (stL m st) m.b.length a 0) (fP (hdOf (stL m st)) (stL m st) m.b.length) (Mk.sum m t) t (fun x=>wd os x 1) _ _ 0 (m.b.length+1) hf (pos_pl j.k.hold.ascF (posF j) _) (chainF j ht _) (Nat.zero_le _) (by omega)with⟨x,x1,_,x3,x4⟩|⟨x1,x2⟩
 ·obtain⟨i,hi,_,rfl⟩:=mem_at x1
  refine .inl ⟨i,hi,?_,x4⟩
  rw[(st_fld j.k j.ft ht i hi).2.2.1]at x3
  exact x3
 ·refine .inr ⟨fun d hd e=>?_,x2⟩
  obtain⟨i,hi,rfl⟩:=List.getElem_of_mem hd
  have hD:=j.k.hold.fld i hi
  have hm:=at_mem hi
  rw[hD.slot,e]at hm
  obtain⟨_,d2,d3,_⟩:=st_fld j.k j.ft ht i hi
  refine x1 _ hm ⟨?_,d3.trans e⟩
  rw[d2 0 (by decide),hD.w0,e]
end Zz
namespace Xi
open Bytes8 Blk8 Own8 OwnM OwnE Rows2 Ob Ga Gb Gj Ma Mb Mh Na Np Ns Nt Nu Rc Rp Vf Wg Zb Zd Zg Zj Zl Zx Zz Zy Seq8 Kf Xh Ff
open Go1 (hcode HTold)
theorem jn_of {m:Mk}{rs:List RR}(h:Nu.Reach m rs): ∃os hs mi es,Jn m rs.length os hs mi es:=by
 obtain⟨os,hs,mi,es,k,q⟩:=kept_recs h
 obtain⟨t1,t2⟩:=tx_full h
 exact⟨os,hs,mi,es,{k:=k,dt:=t1,ft:=t2,ic:=q.ic,I:=q.I}⟩
theorem tabs {m:Mk}{n0:Nat}{os:List Za.O}{hs:Nat→List Nat}{mi:List Nat}{es:List (Nat×List Int)}(j:Jn m n0 os hs mi es){st:Int}(ht:0≤st∧st≤2):
 (tCode (hdOf (stL m st)) (stL m st) 4=0→0<tNum (hdOf (stL m st)) (stL m st) 4∧tNum (hdOf (stL m st)) (stL m st) 4≤1000000)∧(tCode (hdOf (stL m st)) (stL m st) 5=0→0<tNum (hdOf (stL m st)) (stL m st) 5∧tNum (hdOf (stL m st)) (stL m st) 5≤1000000):=by
 obtain⟨⟨_,t2,_⟩,_,t5,_⟩:=st_tab j.k ht
 have h1:=j.k.good.img.inv.ds
 have h2:=j.k.good.img.inv.fs
 rw[t2,t5]
 exact⟨fun _=>by omega,fun _=>by omega⟩
theorem empty_find {m:Mk}{os:List Za.O}{hs:Nat→List Nat}{mi:List Nat}{es:List (Nat×List Int)}(h:Nu.Reach m [])(j:Jn m 0 os hs mi es){st:Int}(ht:0≤st∧st≤2)(t:List Int):find4 (hdOf (stL m st)) (stL m st) m.b.length t=(0,16):=by
 rcases st_find4 j ht t with⟨i,hi,_⟩|⟨_,h1⟩
 ·have h2:=(tx_reach h).1
  have h3:m.datas.length=0:=by
   have:=congrArg List.length h2
   simpa [tx,allP]using this
  omega
 ·exact h1
abbrev cA:List Int:=[65,61,49]
attribute [local irreducible] HD.cells wpList Code.wp
theorem first_chain (w:World):Calls Tryz.prog 12 #[] w fun e w'=>e= .returned (.bool true)∧Below w.heap.size w w':=by
 have kc:=fun(w:World) (C:Array Value) (n c:Nat)=>Lib.run_convert_bytes_const (P:=Tryz.prog) w 23 5 C n c Tryz.underlying23 Tryz.underlying5
 have aA:AllB cA:=small_all rfl
 have HI:=Lib.hid (image_n none 0 0 (fun _=>0) 0 w (fun i hi=>absurd hi (Nat.not_lt_zero i)) (by decide) (by decide))
 unfold ImagedN at HI
 go_enter Tryz.func12,Tryz.ntmps12
 go_upto_region 2 with(first
  |(go_at_call 14;((refine HI.out.mono ?_);rintro e w2 ⟨A,c,m,n,rfl,hg2,ho2,hb2⟩;have HG:=Lib.hid hg2;have B2:=Lib.hid hb2;have HO:=Lib.hid ho2.bytes;have HC:=Lib.hid (own_cap ho2);have HOp:=Lib.hid (show Calls Tryz.prog 15 #[.slice A m.b.length c] w2 _ from open_fine (stL m 1) A m.b.length c w2 HO.out (st_len hg2.img 1) (by have:=hg2.img.lens;omega) HC.out.1 (st_hcode hg2.img (by decide)) m.b.length (st_end hg2.img (by decide)).1 (st_end hg2.img (by decide)).2 (Nat.le_refl _) (hdOf_ok HO.out.1 21));clear hg2 ho2 hb2;unfold Opened at HOp))
  |(go_at_call 15;((refine HOp.out.mono ?_);rintro e w3 ⟨gv,A3,c3,rfl,hgv,hv3,hc3,hb3⟩;have HV:=Lib.hid hv3;have HC3:=Lib.hid hc3;have B3:=Lib.hid (B2.out.trans (hb3.mono B2.out.size));clear hgv hv3 hc3 hb3))
  |fail)
 obtain⟨rs,hrs,hrl⟩:=HG.out.rch
 have hn0:n=0:=by have:=HG.out.le;omega
 have hr0:rs=[]:=List.eq_nil_of_length_eq_zero (by omega)
 subst hr0
 obtain⟨os,hs,mi,es,j⟩:=jn_of hrs
 have hL:=st_len HG.out.img 1
 rw[List.take_of_length_le (by omega)]at HV
 have hml:=HG.out.img.lens
 have HFd:=Lib.hid fun(W:World) (g:Nat) (hg:W.heap.size=g) (M:Nat×Nat) (hW:Below w3.heap.size w3 (W.alloc (.cells #[.int .u8 65,.int .u8 61,.int .u8 49] 5 M)))=>by
  have q:=finddata_any (some ⟨g,0,none⟩) cA 3 3 (W.alloc (.cells #[.int .u8 65,.int .u8 61,.int .u8 49] 5 M)) (HV.out.below hW) HC3.out (hg▸const_bytes cA aA W M) rfl (by decide) (by decide) (by decide) (tabs j (by decide)).1
  rw[empty_find hrs j (by decide)]at q
  exact q
 have z0:=Lib.hid ((Below.refl w3.heap.size w3).alloc (Nat.le_refl _) (.cells #[.int .u8 65,.int .u8 61,.int .u8 49] 5 (3,4)))
 clear HI HOp HO HC HG j hL hml hrs hrl
 go_wp2_with(first
  |(go_at_call 26;(refine(HFd.out _ _ (by simp) _ z0.out).mono ?_);rintro e w5 ⟨rfl,hb5⟩;have B5:=Lib.hid (z0.out.trans (hb5.mono z0.out.size));clear hb5)
  |fail)
 go_ret
 exact⟨rfl,B3.out.trans (B5.out.mono B3.out.size)⟩
end Xi
namespace Hn
open Bytes8 Ga Gj Ma Mb Na Nc Nh Nt Fa Za Zb Zc Zd Zg Zh Zj Zl Zx Zy Zz Va Wa Xb Xh Pr8 Ps8 Pl8 Nrs
open Rd (dcode)
abbrev pq (q:PR):List Int:=pay q.1 q.2
theorem ded_self: ∀(l acc:List PR),(acc++l).Nodup→l.foldl addU acc=acc++l
 | [],acc,_=>(List.append_nil _).symm
 |q::l,acc,h=>by
  have hq:q∉acc:=fun hm=>by
   rw[List.nodup_append]at h
   exact h.2.2 _ hm _ (List.mem_cons_self ..) rfl
  have e:addU acc q=acc++ [q]:=by unfold addU;rw[if_neg hq]
  show l.foldl addU (addU acc q)=_
  rw[e,ded_self l (acc++ [q]) (by rw[List.append_assoc];exact h),List.append_assoc]
  rfl
theorem sortP_self {l:List PR}(h:l.Pairwise fun x y=>(!ltP y x)=true):sortP l=l:=by
 unfold sortP
 exact List.mergeSort_of_pairwise h
theorem list_self {L:List PR}(hT:Nrs.Told L)(h0:listE L=0):listL L=L:=by
 obtain⟨⟨L0,rfl⟩,_⟩:=hT
 have hE0:listE L0=0:=by
  by_cases h:listE L0=0
  ·exact h
  ·have e:listL L0=[]:=if_neg h
   rw[e]at h0
   cases h0
 have e:listL L0=sortP (ded L0):=if_pos hE0
 rw[e]at h0⊢
 have hn:(sortP (ded L0)).Nodup:=(sortP_perm _).nodup_iff.2 (ded_nodup L0)
 have e2:listL (sortP (ded L0))=sortP (ded (sortP (ded L0))):=if_pos h0
 have e3:ded (sortP (ded L0))=sortP (ded L0):=by
  unfold ded
  rw[ded_self _ [] (by simpa [ded]using hn)]
  rfl
 rw[e2,e3,sortP_self (Pq8.sortP_le _)]
theorem addU_mem (acc:List PR)(q x:PR):x∈addU acc q↔x∈acc∨x=q:=by
 unfold addU
 split
 ·next h=>exact⟨.inl,fun h1=>h1.elim id fun e=>e▸h⟩
 ·rw[List.mem_append,List.mem_singleton]
theorem fold_pay: ∀(l acc:List PR),(∀q∈l,flawI q.1 q.2=0)→(∀q∈acc,flawI q.1 q.2=0)→(l.map pq).foldl addN (acc.map pq)=(l.foldl addU acc).map pq
 | [],acc,_,_=>rfl
 |q::l,acc,h1,h2=>by
  have hq:=h1 q (List.mem_cons_self ..)
  have e:addN (acc.map pq) (pq q)=(addU acc q).map pq:=by
   unfold addN addU
   by_cases hm:q∈acc
   ·rw[if_pos hm,if_pos (List.mem_map.2 ⟨q,hm,rfl⟩)]
   ·rw[if_neg hm,if_neg (fun hx=>by
     obtain⟨y,hy,he⟩:=List.mem_map.1 hx
     obtain⟨e1,e2⟩:=pay_inj (h2 y hy) hq he
     exact hm (by rw[←show y=q from Prod.ext e1 e2];exact hy)),List.map_append]
    rfl
  show(l.map pq).foldl addN (addN (acc.map pq) (pq q))=_
  rw[e]
  exact fold_pay l (addU acc q) (fun y hy=>h1 y (List.mem_cons_of_mem _ hy)) fun y hy=>((addU_mem _ _ _).1 hy).elim (h2 y) fun e=>e▸hq
theorem addU_filter (P:PR→Bool)(acc:List PR)(q:PR):(addU acc q).filter P=if P q then addU (acc.filter P) q else acc.filter P:=by
 unfold addU
 by_cases hm:q∈acc
 ·rw[if_pos hm]
  by_cases hp:P q=true
  ·rw[if_pos hp,if_pos (List.mem_filter.2 ⟨hm,hp⟩)]
  ·rw[if_neg hp]
 ·rw[if_neg hm,List.filter_append]
  by_cases hp:P q=true
  ·rw[if_pos hp,if_neg (fun h=>hm (List.mem_filter.1 h).1)]
   simp[hp]
  ·rw[if_neg hp]
   simp[hp]
theorem fold_filter (P:PR→Bool): ∀(l acc:List PR),(l.foldl addU acc).filter P=(l.filter P).foldl addU (acc.filter P)
 | [],acc=>rfl
 |q::l,acc=>by
  show(l.foldl addU (addU acc q)).filter P=_
  rw[fold_filter P l,addU_filter]
  by_cases hp:P q=true
  ·rw[if_pos hp,List.filter_cons_of_pos hp];rfl
  ·rw[if_neg hp,List.filter_cons_of_neg hp]
theorem map_filter_name (nm:List Int): ∀(l:List PR),(∀q∈l,nameL (pq q)=q.1)→(l.map pq).filter (fun t=>nameL t==nm)=(l.filter (fun q=>q.1==nm)).map pq
 | [],_=>rfl
 |q::l,h=>by
  have hq:=h q (List.mem_cons_self ..)
  have ih:=map_filter_name nm l fun y hy=>h y (List.mem_cons_of_mem _ hy)
  rw[List.map_cons]
  by_cases hp:q.1=nm
  ·rw[List.filter_cons_of_pos (by rw[hq];simpa using hp),List.filter_cons_of_pos (by simpa using hp),ih];rfl
  ·rw[List.filter_cons_of_neg (by rw[hq];simpa using hp),List.filter_cons_of_neg (by simpa using hp),ih]
def allQ (rs:List RR):List PR:=rs.flatMap fun r=>r.1
def ofN (rs:List RR)(nm:List Int):List PR:=ded ((allQ rs).filter fun q=>q.1==nm)
theorem allP_is {rs:List RR}(h: ∀r∈rs,listL r.1=r.1):allP rs=(allQ rs).map pq:=by
 induction rs with
 |nil=>rfl
 |cons r rs ih=>
  show paysL (listL r.1)++allP rs=(r.1++allQ rs).map pq
  rw[ih fun x hx=>h x (List.mem_cons_of_mem _ hx),h r (List.mem_cons_self ..),List.map_append]
  rfl
theorem texts_of {m:Mk}{rs:List RR}(h:Nu.Reach m rs)(hT: ∀r∈rs,Nrs.Told r.1)(nm:List Int):((m.datas.filter fun k=>nameL k.text==nm).map Kn.text)=(ofN rs nm).map pq:=by
 obtain⟨h1,_,h3⟩:=tx_reach h
 have hs: ∀r∈rs,listL r.1=r.1:=fun r hr=>list_self (hT r hr) (h3 r hr)
 have hok: ∀q∈allQ rs,flawI q.1 q.2=0:=fun q hq=>by
  obtain⟨r,hr,hq⟩:=List.mem_flatMap.1 hq
  rw[←hs r hr]at hq
  exact((list_ok (h3 r hr)).2 q hq).2
 have h61: ∀q∈allQ rs,nameL (pq q)=q.1:=fun q hq=>nameL_pay _ _ (name_61 (flaw_name (hok q hq)))
 have e1:tx m=((allQ rs).foldl addU []).map pq:=by
  rw[h1,allP_is hs]
  exact fold_pay (allQ rs) [] hok (fun q hq=>absurd hq List.not_mem_nil)
 have e2:(m.datas.filter fun k=>nameL k.text==nm).map Kn.text=(tx m).filter fun t=>nameL t==nm:=by
  rw[List.filter_map]
  rfl
 rw[e2,e1,show(allQ rs).foldl addU []=ded (allQ rs)from rfl,map_filter_name nm _ (fun q hq=>h61 q ((ded_mem (allQ rs) q).1 hq))]
 show(((allQ rs).foldl addU []).filter _).map pq=_
 rw[fold_filter]
 rfl
theorem desc_len: ∀(xs:List Nat) (E:Nat),xs.Pairwise (· > ·)→(∀x∈xs,x<E)→xs.length≤E
 | [],E,_,_=>Nat.zero_le _
 |x::xs,E,h,hb=>by
  rw[List.pairwise_cons]at h
  have h1:=desc_len xs x h.2 fun y hy=>h.1 y hy
  have h2:=hb x (List.mem_cons_self ..)
  rw[List.length_cons];omega
theorem yk_fol (E:Nat)(oC:Nat→Int)(oX:Nat→Nat)(nx:Nat→Int): ∀(xs:List Nat) (a f:Nat) (la:Option Nat) (out:List Int),Fol nx (a:Int) xs→xs.Pairwise (· > ·)→(∀y,la=some y→ ∀x∈xs,x<y)→(∀x∈xs,oC x=0∧(oX x:Int)=nx x∧0<x∧x<E)→xs.length<f→plR (yk E false oC oX f a la) out=(out++toI xs,0)
 | [],a,f,la,out,hF,_,_,_,hf=>by
   obtain⟨f,rfl⟩: ∃q,f=q+1:=⟨f-1,by simp at hf;omega⟩
   have ha:(a:Int)=0:=hF
   unfold yk
   rw[if_pos (by rw[ha];simp[nothB])]
   show(out,0)=(out++ [],0)
   rw[List.append_nil]
 |x::xs,a,f,la,out,hF,hd,hl,hx,hf=>by
  obtain⟨f,rfl⟩: ∃q,f=q+1:=⟨f-1,by simp at hf;omega⟩
  obtain⟨ha,hF2⟩:=hF
  have hax:a=x:=by omega
  subst hax
  obtain⟨x1,x2,x3,x4⟩:=hx a (List.mem_cons_self ..)
  rw[List.pairwise_cons]at hd
  have hbad:badW false a la=false:=by
   cases la with
   |none=>rfl
   |some y=>have:=hl y rfl a (List.mem_cons_self ..);simp[badW];omega
  unfold yk
  rw[if_neg (by simp[nothB];omega),hbad,if_neg (by simp),if_neg (by rw[x1];decide)]
  show(if(0:Int)≠0 then _ else _)=_
  rw[if_neg (by decide),yk_fol E oC oX nx xs (oX a) f (some a) _ (by rw[x2];exact hF2) hd.2 (fun y hy z hz=>by injection hy with hy;subst hy;exact hd.1 z hz) (fun z hz=>hx z (List.mem_cons_of_mem _ hz)) (by simp at hf;omega),List.append_assoc]
  rfl
variable {m : Mk} {n0 : Nat} {os : List O} {hs : Nat → List Nat} {mi : List Nat} {es : List (Nat × List Int)}
theorem byN_desc (h:Asc m.datas)(nm:List Int):(byN m.datas nm).Pairwise (· > ·):=by
 unfold byN
 rw[List.pairwise_reverse]
 have h2:(m.datas.map Kn.at_).Pairwise (· < ·):=h
 rw[List.pairwise_map]at h2⊢
 exact(h2.sublist List.filter_sublist).imp fun h=>h
theorem st_datas {rs:List RR}(hR:Nu.Reach m rs)(hT: ∀r∈rs,Nrs.Told r.1)(j:Jn m n0 os hs mi es){st:Int}(ht:0≤st∧st≤2)(nm:List Int):
 (ofN rs nm=[]→datasG (hdOf (stL m st)) (stL m st) m.b.length nm=([],16))∧(ofN rs nm≠ []→datasG (hdOf (stL m st)) (stL m st) m.b.length nm=(toI (byN m.datas nm),0))∧(byN m.datas nm).length=(ofN rs nm).length∧ ∀k,k<(ofN rs nm).length→ ∃i,∃hi:i<m.datas.length,m.datas[i].at_=(byN m.datas nm).getD k 0∧m.datas[i].text=pq ((ofN rs nm).getD ((ofN rs nm).length-1-k) nil2):=by
 have htx:=texts_of hR hT nm
 obtain⟨_,hft,h3⟩:=tx_reach hR
 have hlen:(byN m.datas nm).length=(ofN rs nm).length:=by
  have:=congrArg List.length htx
  rw[List.length_map,List.length_map]at this
  unfold byN
  rw[List.length_reverse,List.length_map,this]
 refine⟨fun h0=>?_,fun h0=>?_,hlen,fun k hk=>?_⟩
 ·rcases st_find5 j ht nm with⟨i,hi,h1,h2⟩|⟨h1,h2⟩
  ·exfalso
   obtain⟨r,hr,q,hq,e⟩:=hft _ (List.getElem_mem hi)
   rw[list_self (hT r hr) (h3 r hr)]at hq
   have hm:q∈ofN rs nm:=by
    unfold ofN
    rw[ded_mem]
    exact List.mem_filter.2 ⟨List.mem_flatMap.2 ⟨r,hr,hq⟩,by rw[←e,h1];simp⟩
   rw[h0]at hm
   cases hm
  ·unfold datasG
   rw[h2,if_pos (by decide)]
 ·rcases st_find5 j ht nm with⟨i,hi,h1,h2⟩|⟨h1,h2⟩
  ·obtain⟨f1,f2,f3,f4,f5⟩:=st_fld j.k j.ft ht i hi
   have F:=j.k.hold.fld i hi
   have hb:=wd_bd j.k.hold.rep (a:=m.fields[i].at_) (j:=2)
   have hfol:=F.fol
   rw[h1]at hfol
   unfold datasG
   rw[h2,if_neg (by simp),Int.toNat_natCast,f2 2 (by decide)]
   rw[←nat_of hb.1]at hfol
   have hx: ∀x∈byN m.datas nm,dcode (hdOf (stL m st)) (stL m st) m.b.length x=0∧(((fun a=>(dN (hdOf (stL m st)) (stL m st) m.b.length a 2).toNat) x:Nat):Int)=wd os x 2∧0<x∧x<m.b.length:=fun x hx=>by
    obtain⟨d,hd,_,rfl⟩:=mem_byN hx
    obtain⟨i2,hi2,rfl⟩:=List.getElem_of_mem hd
    obtain⟨d1,d2,d3,d4,d5⟩:=st_dat j.k j.dt ht i2 hi2
    refine⟨d1,?_,by omega,d4⟩
    show((dN _ _ _ _ 2).toNat:Int)=_
    rw[d2 2 (by decide)]
    exact nat_of (wd_bd j.k.hold.rep).1
   have hd:=byN_desc j.k.hold.asc nm
   have hl:=desc_len _ m.b.length hd fun x hx2=>(hx x hx2).2.2.2
   exact yk_fol m.b.length _ _ (fun x=>wd os x 2) (byN m.datas nm) _ (m.b.length+2) none [] hfol hd (fun y hy=>by cases hy) hx (by omega)
  ·exfalso
   have hne:(byN m.datas nm)≠ []:=fun e=>by
    rw[e]at hlen
    exact h0 (List.eq_nil_of_length_eq_zero hlen.symm)
   obtain⟨x,hx⟩:=List.exists_mem_of_ne_nil _ hne
   obtain⟨d,hd,e,_⟩:=mem_byN hx
   obtain⟨f,hf,e2⟩:=j.k.hold.ownF d hd
   exact h1 f hf (e2.trans e)
 ·generalize hD:(m.datas.filter fun k=>nameL k.text==nm)=D at*
  have hDl:D.length=(ofN rs nm).length:=by
   have:=congrArg List.length htx
   rwa[List.length_map,List.length_map]at this
  have hby:byN m.datas nm=(D.map Kn.at_).reverse:=by unfold byN;rw[hD]
  have hk2:D.length-1-k<D.length:=by omega
  have hmem:D[D.length-1-k]∈m.datas:=by
   have:D[D.length-1-k]∈m.datas.filter fun k=>nameL k.text==nm:=by rw[hD];exact List.getElem_mem hk2
   exact(List.mem_filter.1 this).1
  obtain⟨i,hi,e⟩:=List.getElem_of_mem hmem
  refine⟨i,hi,?_,?_⟩
  ·rw[e,hby,List.getD_eq_getElem?_getD,List.getElem?_reverse (by rw[List.length_map];omega),List.length_map,List.getElem?_map,List.getElem?_eq_getElem hk2]
   rfl
  ·rw[e]
   have h5:(D.map Kn.text)[D.length-1-k]'(by rw[List.length_map];exact hk2)=((ofN rs nm).map pq)[D.length-1-k]'(by rw[List.length_map];omega):=by simp only[htx]
   rw[List.getElem_map,List.getElem_map]at h5
   rw[h5,show(ofN rs nm).length-1-k=D.length-1-k by omega,List.getD_eq_getElem?_getD,List.getElem?_eq_getElem (by omega)]
   rfl
end Hn
end Go.Proofs.YtjecmgkmcfkcjaaGreat
