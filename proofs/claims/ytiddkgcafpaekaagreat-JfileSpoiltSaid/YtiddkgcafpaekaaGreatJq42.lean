/-
  Texts beneath the proof.
-/
import Derived.Test.YtiddkgcafpaekaaGreatJq41
set_option linter.unusedVariables false
set_option linter.unusedSimpArgs false
set_option maxRecDepth 100000
set_option maxHeartbeats 4000000
open Go.ChangeShapes Go.WideShapes Go.ChangeAt Go.RowKit
namespace Go.Proofs.YtiddkgcafpaekaaGreat
namespace Jp
open Bytes8 Blk8 OwnE RefAl Rows2 Ob Og Oh Ga Gb Gj Ma Mb Mg Na Nh Va Vd Dc Za Zb Zg Zj Zl Nt Nu
open Ym (wordElt)
open Go1 (hcode)
def places:Nat→List O→List Nat
 |_,[]=>[]
 |s,o::os=>s::places (s+o.n) os
theorem places_len: ∀(os:List O) (s:Nat),(places s os).length=os.length
 | [],s=>rfl
 |o::os,s=>by unfold places;rw[List.length_cons,List.length_cons,places_len os]
theorem places_at: ∀(os:List O) (s k:Nat) (hk:k<os.length),(places s os)[k]? =some (s+(enc (os.take k)).length)∧obj s os (s+(enc (os.take k)).length)=some os[k]
 | [],s,k,hk=>absurd hk (Nat.not_lt_zero k)
 |o::os,s,0,hk=>⟨rfl,if_pos rfl⟩
 |o::os,s,k+1,hk=>by
  obtain⟨h1,h2⟩:=places_at os (s+o.n) k (by simpa using hk)
  have e:s+(enc ((o::os).take (k+1))).length=s+o.n+(enc (os.take k)).length:=by
   rw[List.take_succ_cons,enc_cons,List.length_append]
   show s+(o.n+_)=_
   omega
  have h8:=o.n8
  refine⟨?_,?_⟩
  ·rw[e];exact h1
  ·rw[e]
   unfold obj
   rw[if_neg (by omega)]
   exact h2
theorem take_step (os:List O)(k:Nat)(hk:k<os.length):(enc (os.take (k+1))).length=(enc (os.take k)).length+os[k].n:=by
 rw[List.take_succ_eq_append_getElem hk,enc_app,List.length_append,enc_one]
 rfl
abbrev u64s (l:List Nat):List Value:=l.map fun(x:Nat)=>Value.int .u64 (x:Int)
attribute [local irreducible] HD.cells wpList Code.wp
theorem objects_any {gv:Nat}{h:HD}{d:Int}{A:Option Addr}{c:Nat}{l hd:List Int}{os:List O}(hl:l=hd++enc os)(hh:hd.length=272)(hok: ∀o∈os,o.Ok)(h0:h.N 0=272)(w:World)(v:ViewR w gv h d A l.length c l):
 Calls Tryz.prog 55 #[.pointer (some ⟨gv,0,none⟩)] w fun e w'=> ∃A1 c1,e= .returned (.tuple #[.slice A1 os.length c1,.int .i64 0])∧OwnE 27 1 w' w.heap.size A1 os.length c1 (u64s (places 272 os))∧Below w.heap.size w w':=by
 have hbig:=v.big
 have hsz:l.length=272+(enc os).length:=by rw[hl,List.length_append,hh]
 have hlt:=v.blk.lt
 have hV:=yH v
 have HE:=yH fun(W:World) (hW:Below w.heap.size w W)=>rvend_any W (hV.out.below hW)
 have HRd:=yH fun(a:Nat) (ha:a≤18446744073709551615) (W:World) (hW:Below w.heap.size w W)=>rread_any A l l.length c a W ((hV.out.below hW).by_) rfl (by omega) ha
 unfold FrTold at HRd
 have c67:w.cell? ⟨gv,67,none⟩=some (.int .u64 (h.N 0)):=v.blk.cell (rview_N _ _ _ 0 (by decide))
 rw[h0]at c67
 have hOk:=yH hok
 have HL:=yH hl
 clear v hok h0 hl
 go_enter Tryz.func55,Tryz.ntmps55
 go_upto_region 3 with fail
 go_loopw [4,5] (fun s i wr=> ∃(k:Nat) (A1:Option Addr) (c1:Nat),k≤os.length∧s= .slice A1 k c1∧i= .int .u64 ((272+(enc (os.take k)).length:Nat):Int)∧Hid (OwnE 27 1 wr w.heap.size A1 k c1 (u64s ((places 272 os).take k)))∧Hid (Below w.heap.size w wr)) (fun s _ _=>os.length-slen s)
 case atStart=>exact⟨0,none,0,Nat.zero_le _,rfl,rfl,yH (OwnE.nil _ _ (yR _)),yH (Below.refl _ _)⟩
 case round=>
  obtain⟨k,A1,c1,hk,rfl,rfl,hO,hB⟩:=hrel
  have c67r:=(hB.out.cell (p:=⟨gv,67,none⟩) hlt).trans c67
  have c91:wr.cell? ⟨gv,91,none⟩=some (.slice A l.length c):=(hV.out.below hB.out).blk.cell (rview_b _ _ _)
  have HEr:=yH (HE.out wr hB.out)
  by_cases hlt2:k<os.length
  ·obtain⟨hp,hob⟩:=places_at os 272 k hlt2
   have hbd:=obj_bd _ _ _ _ hob
   have hok:=hOk.out os[k] (List.getElem_mem hlt2)
   obtain⟨q1,q2,q3,q4⟩:=read_at HL.out hh hob hok
   have hst:=take_step os k hlt2
   have hpt:(places 272 os).take (k+1)=(places 272 os).take k++ [272+(enc (os.take k)).length]:=by
    have h1:k<(places 272 os).length:=by rw[places_len];exact hlt2
    rw[List.getElem?_eq_getElem h1]at hp
    injection hp with hp
    rw[List.take_succ_eq_append_getElem h1,hp]
   have HPt:=yH hpt
   have hn:=os[k].n_is
   have hbl:=os[k].body_len
   have hkl:k≤800000:=by
    have h1: ∀(l:List O),l.length≤(enc l).length:=by
     intro l
     induction l with
     |nil=>exact yR _
     |cons o l ih=>rw[enc_cons,List.length_append,List.length_cons];have:=o.n8;show _≤o.n+_;omega
    have:=h1 os
    omega
   have HR:=yH (by
    have h:=HRd.out (272+(enc (os.take k)).length) (by omega) wr hB.out
    rw[q1,q2,q3]at h
    exact h)
   have HAl:=yH fun(W:World)=>by
    have h:=ralign_yes ((16+os[k].body.length:Nat):Int) W (by omega) (by omega)
    rw[align_pad,show 16+os[k].body.length+padN os[k].body.length=os[k].n by rw[hn,hbl],show((16+os[k].body.length:Nat):Int)=16+(os[k].body.length:Int)by omega]at h
    exact h
   have hnx:272+(enc (os.take (k+1))).length=272+(enc (os.take k)).length+os[k].n:=by omega
   have HNx:=yH hnx
   have hnb:16+os[k].body.length≤os[k].n:=by omega
   have hn1:0<os[k].n:=by omega
   clear hp hob q1 q2 q3 q4 hst hpt hok hn hnx hbl
   generalize 272+(enc (os.take k)).length=a at*
   generalize os[k].n=n at*
   generalize os[k].k=kk at*
   generalize os[k].body.length=bl at*
   have hle:a+n≤l.length:=by omega
   have hn8:16+bl≤l.length:=by omega
   have ha272:272≤a:=by omega
   clear hsz hh hbd
   have d1:decide ((a:Int)<(l.length:Int))=true:=by simp;omega
   have d1n:decide (a<l.length)=true:=by simp;omega
   have hw1:IntKind.u64.wrap ((a:Int)+(n:Int))=((a+n:Nat):Int):=by rw[IntKind.wrap_u64];omega
   go_upto_region 7 with(first
    |(go_at_call 112;(refine HEr.out.mono ?_);rintro e w1 ⟨rfl,rfl⟩)
    |(go_at_call 56;(refine HR.out.mono ?_);rintro e w2 ⟨rfl,hb2⟩;have B2:=yH (hB.out.trans (hb2.mono hB.out.size));have O2:=yH (hO.out.kept hb2 (yR _));clear hb2)
    |fail)
   have X3:=yH (Blk.new w2 [.int .i64 kk,.int .i64 0,.int .u64 (16+(bl:Int))] 114)
   have O3:=yH (OwnE.alloc O2.out (.cells #[.int .i64 kk,.int .i64 0,.int .u64 (16+(bl:Int))] 114))
   have B3:=yH (B2.out.alloc B2.out.size (.cells #[.int .i64 kk,.int .i64 0,.int .u64 (16+(bl:Int))] 114))
   generalize w2.alloc (.cells #[.int .i64 kk,.int .i64 0,.int .u64 (16+(bl:Int))] 114)=w3 at*
   go_upto_region 8 with(first
    |(at_builtin;refine wpList_append_elt_at wordElt rfl (.tmp 32) (.tmp 34) rfl w.heap.size A1 k c1 _ rfl (OwnE.alloc O3.out _) ⟨w3.heap.size,0,none⟩ 1 1 [.int .u64 (a:Int)] rfl rfl (Blk.news (Blk.new w3 [.int .u64 (a:Int)] 27)) (by intro u hu;simp at hu;subst hu;rfl) (by omega) (by omega) (by unfold maxLen;omega) ?_;intro A5 c5 w5 ho5 hg5 hat5;have HO5:=yH ho5;have HG5:=yH hg5;clear ho5 hg5 hat5)
    |fail)
   have hxl:=X3.out.lt
   have hs3:w3.heap.size<(w3.alloc (.cells #[.int .u64 (a:Int)] 27)).heap.size:=by simp
   have B5:=yH ((B3.out.alloc B3.out.size _).trans (Own8.below_grown HG5.out (by have:=B3.out.size;omega) (fun k' hk'=>(OwnE.ltB O3.out k' hk').1)))
   have X5:=yH (show Blk w5 w2.heap.size [.int .i64 kk,.int .i64 0,.int .u64 (16+(bl:Int))] 114 from
    (HG5.out.block w2.heap.size (by omega) (fun e=>by have:=(OwnE.ltB O2.out _ e.symm).2;omega)).trans (((Below.refl w3.heap.size w3).alloc (yR _) _).block w2.heap.size hxl |>.trans X3.out))
   have c2:w5.cell? ⟨w2.heap.size,2,none⟩=some (.int .u64 (16+(bl:Int))):=X5.out.cell rfl
   have HOn:=yH (show OwnE 27 1 w5 w.heap.size A5 (k+1) c5 (u64s ((places 272 os).take (k+1)))from by
    rw[HPt.out]
    show OwnE _ _ _ _ _ _ _ (List.map _ (_++ [_]))
    rw[List.map_append]
    exact HO5.out)
   clear hs3 hxl X3 O3 B3 HG5 X5 HO5 O2 B2 c67r c91 HEr HR HPt d1 d1n
   go_wp2_with(first
    |(go_at_call 113;(refine(HAl.out _).mono ?_);rintro e w6 ⟨rfl,rfl⟩)
    |fail)
   go_roundw
   case rel=>exact⟨k+1,A5,c5,by omega,rfl,(by rw[HNx.out];first|rfl|(push_cast;rfl)),HOn,B5⟩
   case measure=>simp[slen];omega
  ·have e:os.take k=os:=List.take_of_length_le (by omega)
   have hk2:k=os.length:=by omega
   have d1:decide (((272+(enc (os.take k)).length:Nat):Int)<(l.length:Int))=false:=by rw[e];simp;omega
   have e3:(places 272 os).take k=places 272 os:=List.take_of_length_le (by rw[places_len];omega)
   have HO:=yH (by have h:=hO.out;rw[e3]at h;exact h)
   clear e e3 hO
   subst hk2
   go_wp2_with(first
    |(go_at_call 112;(refine HEr.out.mono ?_);rintro e w1 ⟨rfl,rfl⟩)
    |fail)
   go_ret2
   exact⟨A1,c1,rfl,HO.out,hB.out⟩
theorem objs_any {m:Mk}{n0:Nat}{os:List Za.O}{hs:Nat→List Nat}{mi:List Nat}{es:List (Nat×List Int)}(k:Zg.Kept m n0 os hs mi es){st:Int}(ht:0≤st∧st≤2)(A:Option Addr)(c:Nat)(w:World)(hb:Bytes w A (stL m st))(hc:m.b.length≤c):
 Calls Tryz.prog 17 #[.slice A m.b.length c] w fun e w'=> ∃A1 c1,e= .returned (.tuple #[.slice A1 os.length c1,.int .i64 0])∧OwnE 27 1 w' w.heap.size A1 os.length c1 (u64s (places 272 os))∧Below w.heap.size w w':=by
 have hI:=k.good.img
 have hlens:=hI.lens
 have hL:=st_len hI st
 obtain⟨e1,e2⟩:=st_end hI ht
 have s:=st_says hI ht
 have e0:=(s.N 0 (by decide)).trans (stH_N m st 0 (by decide))
 rw[if_neg (by decide),hI.hg.n0]at e0
 have HOp:=yH (ropen_fine (stL m st) A m.b.length c w hb hL (by omega) hc (st_hcode hI ht) m.b.length e1 e2 (yR _) (hdOf_ok hb.1 21))
 unfold OpenedR at HOp
 rw[List.take_of_length_le (by omega)]at HOp
 have HOb:=yH fun(gv:Nat) (d:Int) (A2:Option Addr) (c2:Nat) (W:World) (v:ViewR W gv (hdOf (stL m st)) d A2 m.b.length c2 (stL m st))=>
  objects_any (l:=stL m st) (hd:=(stH m st).bytes 21) (os:=os) (by unfold stL;rw[k.hold.rep.rep.eq]) (by rw[HD.bytes_len]) k.hold.rep.ok e0 W (by rw[hL];exact v)
 generalize hdOf (stL m st)=H at*
 generalize Ob.u8 (stL m st) 248=d at*
 generalize stL m st=l at*
 generalize m.b.length=E at*
 clear hI hlens e1 e2 s e0 hL hb k
 go_enter Tryz.func17,Tryz.ntmps17
 go_wp2_with(first
  |(go_at_call 54;(refine HOp.out.mono ?_);rintro e w1 ⟨gv,A2,c2,rfl,hlo,hv,hb1⟩;have HO1:=yH (HOb.out gv d A2 c2 w1 hv);have B1:=yH hb1;clear hv hb1)
  |(go_at_call 55;(refine HO1.out.mono ?_);rintro e w2 ⟨A1,c1,rfl,ho,hb2⟩;have HO:=yH ho;have B2:=yH (B1.out.trans (hb2.mono B1.out.size));have hs1:=B1.out.size;clear ho hb2)
  |fail)
 go_ret2
 exact⟨A1,c1,rfl,⟨Nat.le_trans hs1 (by have:=HO.out.1;omega),HO.out.2.1,by
  rcases HO.out.2.2 with h|⟨g,cap,cur,h1,h2,h3⟩
  ·exact .inl h
  ·exact .inr ⟨g,cap,cur,h1,Nat.le_trans hs1 h2,h3⟩⟩,B2.out⟩
theorem data_of {m:Mk}{n0:Nat}{os:List Za.O}{hs:Nat→List Nat}{mi:List Nat}{es:List (Nat×List Int)}(k:Zg.Kept m n0 os hs mi es){st:Int}(ht:0≤st∧st≤2)(i:Nat)(hi:i<os.length)(hz:bcode (stL m st) (272+(enc (os.take i)).length) 1 6=0):
 ∃x,x<m.datas.length∧(Mk.kn m x).at_=272+(enc (os.take i)).length∧bnum (stL m st) (272+(enc (os.take i)).length) 1 6 0=Mk.sum m (Mk.kn m x).text∧bpay (stL m st) (272+(enc (os.take i)).length) 1 6=(Mk.kn m x).text:=by
 obtain⟨_,hob⟩:=places_at os 272 i hi
 generalize 272+(enc (os.take i)).length=a at*
 have hl:stL m st=(stH m st).bytes 21++enc os:=by unfold stL;rw[k.hold.rep.rep.eq]
 have ok:=k.hold.rep.ok os[i] (List.getElem_mem hi)
 obtain⟨c1,c2,c3,c4⟩:=read_at hl (by rw[HD.bytes_len]) hob ok
 have hk1:os[i].k=1:=by
  unfold bcode at hz
  rw[if_neg (by omega),c2]at hz
  by_cases h:os[i].k=1
  ·exact h
  ·rw[if_pos h]at hz;cases hz
 have hsh:shp os a=some (O.sh os[i]):=by unfold shp;rw[hob];rfl
 have hkk:(O.sh os[i]).k=1:=hk1
 have hH:=k.hold
 rcases hH.cov a _ hsh with h|h|⟨d,hd,e⟩|⟨f,hf,e⟩|⟨e0,he,e⟩|h
 ·obtain⟨g,hg⟩:=hH.td.sh
  rw[←h,hsh]at hg
  injection hg with hg
  rw[hg]at hkk
  cases hkk
 ·obtain⟨g,hg⟩:=hH.tf.sh
  rw[←h,hsh]at hg
  injection hg with hg
  rw[hg]at hkk
  cases hkk
 ·obtain⟨x,hx,rfl⟩:=List.getElem_of_mem hd
  have D:=hH.dat x hx
  have h1:=D.sh
  have hw:=D.w0
  rw[e,hsh]at h1
  injection h1 with h1
  injection h1 with h2 h3 h4 h5
  have hw2:wd os a 0=os[i].ws.getD 0 0:=by unfold wd;rw[hob]
  rw[e,hw2]at hw
  refine⟨x,hx,by rw[Zj.kn_at hx];exact e,?_,?_⟩
  ·rw[Zj.kn_at hx,←hw]
   unfold bnum
   rw[if_pos hz,c4]
   exact Zh.u8_body ok 0 _ (by omega) rfl
  ·rw[Zj.kn_at hx]
   unfold bpay
   rw[if_pos hz,c4]
   unfold O.body
   rw[List.drop_left' (by rw[nums_len,h3])]
   exact h4
 ·obtain⟨x,hx,rfl⟩:=List.getElem_of_mem hf
  have h1:=(hH.fld x hx).sh
  rw[e,hsh]at h1
  injection h1 with h1
  rw[h1]at hkk
  cases hkk
 ·obtain⟨x,hx,rfl⟩:=List.getElem_of_mem he
  have h1:=hH.ent x hx
  rw[e,hsh]at h1
  injection h1 with h1
  rw[h1]at hkk
  cases hkk
 ·rw[hkk]at h;cases h
end Jp
end Go.Proofs.YtiddkgcafpaekaaGreat
