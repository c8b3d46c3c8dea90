/-
  Texts beneath the proof.
-/
import Derived.Test.YtjecmgkmcfkcjaaGreatQc38
set_option linter.unusedVariables false
set_option linter.unusedSimpArgs false
set_option maxRecDepth 100000
set_option maxHeartbeats 16000000
open Go.ChangeShapes Go.WideShapes Go.ChangeAt Go.RowKit
namespace Go.Proofs.YtjecmgkmcfkcjaaGreat
namespace Gt
open Ga Gb
open Gm (flB stB fcode end_bd)
open Go1 (magicB hcode bytes_take)
attribute [local irreducible] HD.cells wpList Code.wp
end Gt
namespace Vg
open Bytes8 Blk8 Own8 OwnE Rows2 Numb
theorem xor8 {x y:Int}(hx:0≤x∧x<256)(hy:0≤y∧y<256):0≤bits .xor .u8 x y∧bits .xor .u8 x y<256:=by
 obtain⟨a,rfl⟩: ∃a:Nat,x=(a:Int):=⟨x.toNat,by omega⟩
 obtain⟨b,rfl⟩: ∃b:Nat,y=(b:Int):=⟨y.toNat,by omega⟩
 rw[u8_xor_nat a b (by omega) (by omega)]
 have:=Nat.xor_lt_two_pow (n:=8) (x:=a) (y:=b) (by omega) (by omega)
 omega
theorem own_cell {w:World}{base g n c:Nat}{l:List Int}(h:Own8.Own w base (some ⟨g,0,none⟩) n c l)(i:Nat)(hi:i<n):w.cell? ⟨g,i,none⟩=some (.int .u8 (l.getD i 0)):=by
 obtain⟨b,off,e,_,hc⟩:=h.bytes.2 i (by rw[h.2.1];exact hi)
 injection e with e
 injection e with e1 e2
 subst e1 e2
 rw[Nat.zero_add]at hc
 exact hc
theorem own_fz {w:World}{base g n c:Nat}{l:List Int}(h:Own8.Own w base (some ⟨g,0,none⟩) n c l)(i:Nat)(hi:i<n):w.frozen? ⟨g,i,none⟩=false:=by
 rcases h.2.2.2.2 with⟨h1,h2⟩|⟨k,cap,cur,h1,h2,h3,h4⟩
 ·cases h1
 ·injection h1 with e1 e2 e3
  injection e1 with e1
  injection e1 with e1
  subst e1
  simp[World.frozen?,h3]
theorem own_set {w:World}{base g n c:Nat}{l:List Int}(h:Own8.Own w base (some ⟨g,0,none⟩) n c l)(i:Nat){x:Int}(h0:0≤x)(h1:x<256):Own8.Own (w.setCell ⟨g,i,none⟩ (.int .u8 x)) base (some ⟨g,0,none⟩) n c (l.set i x):=by
 refine⟨h.1.set i h0 h1,by rw[List.length_set];exact h.2.1,by simpa using h.2.2.1,?_⟩
 have:=(h.2.2.2.stored i (.int .u8 x)).1
 rw[List.map_set]
 exact this
def natOf:Value→Nat
 | .int _ z=>z.toNat
 |_=>0
attribute [local irreducible] wpList Code.wp
theorem spoil_any (A:Option Addr)(n c:Nat)(l:List Int)(P:Option Addr)(k kc:Nat)(f:Nat→Int)(y:Int)(w:World)(hb:Bytes w A l)(hL:l.length=n)(hn:n≤1000000)(hI:InInts .i64 w P k f)(hk:k≤1000)(hy:0≤y∧y<256):
 Calls Tryz.prog 13 #[.slice A n c,.slice P k kc,.int .u8 y] w fun e w'=> ∃A2 c2 l2,e= .returned (.slice A2 n c2)∧l2.length=n∧Own8.Own w' w.heap.size A2 n c2 l2∧Below w.heap.size w w':=by
 have HB:=Lib.hid (Cl8.bytes_any A l n c w hb hL hn)
 have HI:=Lib.hid hI
 clear hb hI
 go_enter Tryz.func13,Tryz.ntmps13
 go_upto_region 3 with(first
  |(go_at_call 62;(refine HB.out.mono ?_);rintro e w1 ⟨A2,c2,rfl,ho1,hb1⟩;have HO:=Lib.hid ho1;have B1:=Lib.hid hb1;clear ho1 hb1)
  |fail)
 clear HB
 go_loopw [8] (fun i wr=> ∃(j:Nat) (l2:List Int),j≤k∧i= .int .i64 (j:Int)∧Hid (l2.length=n)∧Hid (Own8.Own wr w.heap.size A2 n c2 l2)∧Hid (Below w.heap.size w wr)) (fun i _=>k-natOf i)
 case atStart=>exact⟨0,l,Nat.zero_le _,rfl,Lib.hid hL,HO,B1⟩
 case round=>
  obtain⟨j,l2,hj,rfl,HL2,HO2,HB2⟩:=hrel
  clear HO B1
  by_cases hlt:j<k
  ·have d1:decide ((j:Int)<(k:Int))=true:=by simp;omega
   by_cases h0:0<n
   ·have d2:decide ((n:Int)>0)=true:=by simp;omega
    have hIj:=(HI.out.below HB2.out) j hlt
    obtain⟨bI,oI,rfl,hbI,hcI,_⟩:=hIj
    obtain⟨q,hqn,hqb⟩:=below_nat (f j) (n:Int) (by omega)
    have HNum:=Lib.hid fun(W:World)=>number_nat (f j) (n:Int) q W (by omega) (by omega) hqn.out
    clear hqn
    have hq:q<n:=by omega
    generalize f j=fj at*
    obtain⟨g,rfl⟩: ∃g,A2=some ⟨g,0,none⟩:=by
     rcases HO2.out.2.2.2.2 with⟨h1,h2⟩|⟨g,cap,cur,h1,h2,h3,h4⟩
     ·injection h1 with e1 e2 e3;omega
     ·injection h1 with e1 e2 e3;exact⟨g,e1⟩
    have cq:=own_cell HO2.out q hq
    have fq:=own_fz HO2.out q hq
    have hx:0≤l2.getD q 0∧l2.getD q 0<256:=by
     rw[List.getD_eq_getElem?_getD,List.getElem?_eq_getElem (by rw[HL2.out];exact hq)]
     exact HO2.out.1 _ (List.getElem_mem _)
    have hxy:=xor8 hx hy
    have HS:=Lib.hid (own_set HO2.out q hxy.1 hxy.2)
    have hlt9:=(HO2.out.lt g rfl).1
    have HBs:=Lib.hid (HB2.out.setCell (p:=⟨g,q,none⟩) hlt9 (.int .u8 (bits .xor .u8 (l2.getD q 0) y)))
    have hwj:IntKind.i64.wrap ((j:Int)+1)=((j+1:Nat):Int):=by rw[IntKind.wrap_i64];omega
    have hj0:(0:Int)≤(j:Int):=by omega
    have hjk:(j:Int)<(k:Int):=by omega
    have hq0:(0:Int)≤(q:Int):=by omega
    have hqn:(q:Int)<(n:Int):=by omega
    clear hx hxy
    generalize l2.getD q 0=x2 at*
    go_wp2_with(first
     |(go_at_call 54;(refine(HNum.out _).mono ?_);rintro e w3 ⟨rfl,rfl⟩)
     |fail)
    go_roundw
    case rel=>exact⟨j+1,l2.set q (bits .xor .u8 x2 y),by omega,rfl,Lib.hid (by rw[List.length_set];exact HL2.out),HS,HBs⟩
    case measure=>simp[natOf];omega
   ·have d2:decide ((n:Int)>0)=false:=by simp;omega
    go_wp2
    go_ret
    exact⟨A2,c2,l2,rfl,HL2.out,HO2.out,HB2.out⟩
  ·have d1:decide ((j:Int)<(k:Int))=false:=by simp;omega
   go_wp2
   go_ret
   exact⟨A2,c2,l2,rfl,HL2.out,HO2.out,HB2.out⟩
end Vg
namespace Vd
open Bytes8 Blk8 Own8 OwnE Ga Gb Gi Ok7
open Go1 (hcode rhd hread_any HTold magicB)
def bldRV (parts:Array (Nat×Value)):Sem Value:=Instr.build 131 parts
theorem bldRV_fold (parts:Array (Nat×Value)):Instr.build 131 parts=bldRV parts:=rfl
attribute [local irreducible] HD.cells wpList Code.wp
theorem open_bad (l:List Int)(A:Option Addr)(n c:Nat)(w:World)(hb:Bytes w A l)(hL:l.length=n)(hn:n≤800000)(hc:n≤c)(hz:hcode l n≠0):
 Calls Tryz.prog 15 #[.slice A n c] w fun e w'=>e= .returned (.tuple #[.pointer none,.int .i64 (hcode l n)])∧Below w.heap.size w w':=by
 have HR:=Lib.hid (by have k:=hread_any A l n c w hb hL (by omega) hc;rw[show rhd l n=hd0 from if_neg hz]at k;exact k)
 unfold HTold at HR
 have d1:(hcode l n !=0)=true:=by simpa using hz
 generalize hcode l n=cd at*
 clear hb hL
 go_enter Tryz.func15,Tryz.ntmps15
 go_wp2_with(first
  |(go_at_call 66;((refine HR.out.mono ?_);rintro e w1 ⟨rfl,hb1⟩;have B1:=Lib.hid hb1;clear hb1))
  |((with_reducible apply at_store (.tmp 4) (.tmp 11));refine wpList_store_row rfl 78 (.tmp 4) (.tmp 11) rfl w1.heap.size (hd0.cells 21).toArray rfl rfl 78 Tryz.zeroCells78 (heap_alloc_new w1 _) (cells_info _) zeros_size (HD.one _ 21) ?_)
  |fail)
 have B2:=Lib.hid (show Below w.heap.size w ((w1.alloc (.cells Tryz.zeroCells78 78)).setRow w1.heap.size (hd0.cells 21).toArray)from below_setRow (B1.out.alloc B1.out.size _) B1.out.size _)
 go_ret2
 exact⟨rfl,B2.out⟩
attribute [local go_sem ↓] bldRV_fold
end Vd
namespace Jh
open Bytes8 Ga Vd
open Go1 (hcode)
attribute [local irreducible] HD.cells wpList Code.wp
theorem jopen_bad (l:List Int)(A:Option Addr)(n c:Nat)(w:World)(hb:Bytes w A l)(hL:l.length=n)(hn:n≤800000)(hc:n≤c)(hz:hcode l n≠0):
 Calls Tryz.prog 42 #[.slice A n c] w fun e w'=>e= .returned (.tuple #[.pointer none,.int .i64 (hcode l n)])∧Below w.heap.size w w':=by
 have HO:=Lib.hid (open_bad l A n c w hb hL hn hc hz)
 have d1:(hcode l n !=0)=true:=by simpa using hz
 have d2:decide (hcode l n=0)=false:=by simpa using hz
 clear hb hL hz
 generalize hcode l n=cd at*
 go_enter Tryz.func42,Tryz.ntmps42
 go_wp2_with(first
  |(go_at_call 15;((refine HO.out.mono ?_);rintro e w1 ⟨rfl,hb1⟩;have B1:=Lib.hid hb1;clear hb1))
  |fail)
 go_ret2
 exact⟨rfl,B1.out⟩
end Jh
namespace JfileRisesW
open Bytes8 Blk8 Own8 OwnM OwnE Rows2 Ob Ga Gb Gj Ma Na Ns Nt Nu Rc Rn Rp Rr Vg Wa Ja Jb Jd Je Jf Jg Jh
open Go1 (hcode)
theorem goodRecs_spec (h:HD)(l:List Int)(E:Nat)(out:List Int)(n:Nat):(goodRecs h l E out n).length≤n∧(∀r∈goodRecs h l E out n,0<r.s∧1≤r.n∧r.n≤16)∧(goodRecs h l E out n).Pairwise (fun a b=>a.s<b.s):=by
 obtain⟨h1,h2,h3,h4⟩:=goodR_spec (jC h l E out) (fun x=>(jR h l E out x).s) n
 unfold goodRecs goodL
 refine⟨by rw[List.length_map];exact h2,fun r hr=>?_,?_⟩
 ·obtain⟨x,hx,rfl⟩:=List.mem_map.1 hr
  obtain⟨q1,q2,q3,q4⟩:=h1 x hx
  exact⟨q3,rec_n q2⟩
 ·rw[List.pairwise_map]
  exact h4
abbrev dP:RecP:=⟨0,0,0,fun _=>0,0,[]⟩
def lastS (G:List RecP):Nat→Int
 |0=>0
 |k+1=>(G.getD k dP).s
attribute [local irreducible] HD.cells wpList Code.wp
theorem walk_main (a:Option Addr)(len cap:Nat)(f:Nat→Int)(P:Option Addr)(k kc:Nat)(g:Nat→Int)(by_:Int)(w:World)(hI:InInts .i64 w a len f)(hl:len≤150)(hP:InInts .i64 w P k g)(hk:k≤20)(hy:0≤by_∧by_<256):
 Calls Tryz.prog 11 #[.slice a len cap,.slice P k kc,.int .u8 by_] w fun e w'=>e= .returned (.bool true)∧Below w.heap.size w w':=by
 have d1:decide ((150:Int)<(len:Int))=false:=by simp;omega
 have d2:decide ((20:Int)<(k:Int))=false:=by simp;omega
 have HI:=Lib.hid hI
 have HP:=Lib.hid hP
 clear hI hP
 go_enter Tryz.func11,Tryz.ntmps11
 go_upto_region 6 with(go_at_call 41;((with_reducible refine(first_jfile _).mono ?_);rintro e w1 ⟨rfl,hb1⟩;have B1:=Lib.hid hb1;clear hb1))
 clear d1 d2
 have HIm:=Lib.hid (image_made a len cap f 15 w1 (HI.out.below B1.out) (by omega) (by decide))
 unfold Imaged at HIm
 have HP1:=Lib.hid (HP.out.below B1.out)
 go_upto_region 7 with(first
  |(go_at_call 14;((refine HIm.out.mono ?_);rintro e w2 ⟨A0,c0,m,rfl,hg2,ho2,hb2⟩;have hlen:=hg2.img.lens;have HO2:=Lib.hid ho2;have B2:=Lib.hid (B1.out.trans (hb2.mono B1.out.size));have HSp:=Lib.hid (spoil_any A0 m.b.length c0 (imgB m) P k kc g by_ w2 ho2.bytes (imgB_len hg2.img) (by omega) (HP1.out.below hb2) (by omega) hy);clear hg2 ho2 hb2))
  |(go_at_call 13;((refine HSp.out.mono ?_);rintro e w3 ⟨A,c,l,rfl,hl3,ho3,hb3⟩;have HO:=Lib.hid ho3;have B3:=Lib.hid (B2.out.trans (hb3.mono B2.out.size));clear ho3 hb3))
  |fail)
 generalize m.b.length=n at*
 have hb:=HO.out.bytes
 have hcap:=own_cap HO.out
 have HB:=Lib.hid hb
 have hL:l.length=n:=hl3
 clear HIm HP HP1 HI HSp HO2 B1 B2 HO hl3
 by_cases hz:hcode l n=0
 ·have hok:=hdOf_ok hb.1 21
  obtain⟨E,hE,hEB,hEn⟩:=fine_end hz hok
  have HOp:=Lib.hid (jopen_fine l A n c w3 hb hL (by omega) hcap.1 hz E hE hEB hEn hok)
  unfold JOpened at HOp
  clear hb hz hE hEB hok
  generalize hdOf l=H at*
  generalize chase H (l.take E) E (H.N 8) 14 2 (E+1) [] (H.N 11).toNat 0=R at*
  obtain⟨out,cd⟩:=R
  dsimp only at*
  generalize l.take E=lE at*
  go_upto_region 12 with(first
   |(go_at_call 42;((refine HOp.out.mono ?_);rintro e w4 ⟨gf,gv,Av,cv,Pp,np,cp,rfl,hf,hb4⟩;have HF:=Lib.hid hf;have B4:=Lib.hid (B3.out.trans (hb4.mono B3.out.size));clear hf hb4))
   |fail)
  have HR:=Lib.hid (records_any HF.out)
  unfold Gathered at HR
  obtain⟨g1,g2,g3⟩:=goodRecs_spec H lE E out np
  have hnb:=HF.out.nb
  generalize goodRecs H lE E out np=G at*
  clear HOp
  go_upto_region 13 with(first
   |(go_at_call 55;((refine HR.out.mono ?_);rintro e w5 ⟨A5,m5,c5,xs,B0,rfl,hm5,ho5,hq5,hb5⟩;have B5:=Lib.hid (B4.out.trans (hb5.mono B4.out.size));have HL:=Lib.hid fun(W:World) (hW:Below w5.heap.size w5 W)=>len_any ((HF.out.below hb5).below hW);have HRow:=Lib.hid (fun i hi=>rowAt_recs ho5 hq5 i hi);clear ho5 hq5 hb5))
   |fail)
  subst hm5
  have S5:=Lib.hid (Below.refl w5.heap.size w5)
  have HG2:=Lib.hid fun(i:Nat) (hi:i<G.length)=>g2 _ (List.getElem_mem hi)
  have HG3:=Lib.hid fun(i:Nat) (hi:i+1<G.length)=>List.pairwise_iff_getElem.1 g3 i (i+1) (by omega) hi (by omega)
  clear HR g2 g3
  go_wp2_with fail
  go_loopw [13,14] (fun s i wr=> ∃x:Nat,x≤G.length∧s= .int .u64 (lastS G x)∧i= .int .i64 (x:Int)∧wr=w5) (fun _ i _=>G.length-Rn.natOf i)
  case atStart=>exact⟨0,Nat.zero_le _,rfl,rfl,rfl⟩
  case round=>
   obtain⟨x,hx,rfl,rfl,rfl⟩:=hrel
   by_cases hlt:x<G.length
   ·have dd1:decide ((x:Int)<(G.length:Int))=true:=by simp;omega
    have hxi:(x:Int)<(G.length:Int):=by omega
    have hwx:IntKind.i64.wrap ((x:Int)+1)=((x+1:Nat):Int):=by rw[IntKind.wrap_i64];omega
    obtain⟨b,F,cF,rfl,hbl,hrg,_,_⟩:=HRow.out x hlt
    have c0:=hrg 0 _ rfl
    rw[Nat.add_zero]at c0
    have c19:=hrg 19 _ rfl
    have q1:=HG2.out x hlt
    have hls:lastS G x<G[x].s:=by
     cases x with
     |zero=>exact q1.1
     |succ y=>
      have q3:=HG3.out y hlt
      show(G.getD y dP).s<_
      rw[List.getD_eq_getElem?_getD,List.getElem?_eq_getElem (by omega)]
      exact q3
    have hl2:lastS G (x+1)=G[x].s:=by
     show(G.getD x dP).s=_
     rw[List.getD_eq_getElem?_getD,List.getElem?_eq_getElem hlt]
     rfl
    have HL2:=Lib.hid hl2
    clear hrg hl2 HG3 HG2
    generalize lastS G x=ls at*
    generalize G[x]=r at*
    have d1:decide (r.s≤ls)=false:=by simp;omega
    have d2:((r.n:Int)==0)=false:=by simp;omega
    have d3:decide ((16:Int)<(r.n:Int))=false:=by simp;omega
    go_wp2_with fail
    go_roundw
    case rel=>exact⟨x+1,hlt,by rw[HL2.out],by simp,trivial⟩
    case measure=>simp[Rn.natOf];omega
   ·have dd1:decide ((x:Int)<(G.length:Int))=false:=by simp;omega
    have dd2:decide ((G.length:Int)≤(np:Int))=true:=by simp;omega
    go_wp2_with(first
     |(go_at_call 44;((refine(HL.out _ S5.out).mono ?_);rintro e w6 ⟨rfl,rfl⟩))
     |fail)
    go_ret
    exact⟨rfl,B5.out⟩
 ·have HOp:=Lib.hid (jopen_bad l A n c w3 hb hL (by omega) hcap.1 hz)
  have d2:(hcode l n !=0)=true:=by simpa using hz
  generalize hcode l n=cd at*
  clear hb
  go_wp2_with(first
   |(go_at_call 42;((refine HOp.out.mono ?_);rintro e w4 ⟨rfl,hb4⟩;have B4:=Lib.hid (B3.out.trans (hb4.mono B3.out.size));clear hb4))
   |fail)
  go_ret
  exact⟨rfl,B4.out⟩
theorem walk (a:Option Addr)(len cap:Nat)(z:List Int)(P:Option Addr)(k kc:Nat)(zp:List Int)(y:Int)(w:World)(h:IsRow .i64 w a len cap z)(hp:IsRow .i64 w P k kc zp)(hy:(Lit.int .u8 y).wf=true):
 Calls Tryz.prog 11 #[.slice a len cap,.slice P k kc,.int .u8 y] w fun e w'=>e= .returned (.bool true)∧Below w.heap.size w w':=by
 obtain⟨hI,h2,h3⟩:=ints_in h
 obtain⟨hP,h4,h5⟩:=ints_in hp
 have hy0:0≤y∧y<256:=by
  simp[Lit.wf,IntKind.min,IntKind.max,IntKind.signed,IntKind.bits]at hy
  omega
 by_cases h1:len≤150∧k≤20
 ·exact walk_main a len cap _ P k kc _ y w hI h1.1 hP h1.2 hy0
 ·by_cases h6:len≤150
  ·have d1:decide ((150:Int)<(len:Int))=false:=by simp;omega
   have d2:decide ((20:Int)<(k:Int))=true:=by simp;omega
   clear h hp hI hP
   go_enter Tryz.func11,Tryz.ntmps11
   go_wp2_with(go_at_call 41;((with_reducible refine(first_jfile _).mono ?_);rintro e w1 ⟨rfl,hb1⟩;have B1:=Lib.hid hb1;clear hb1))
   go_ret
   exact⟨rfl,B1.out⟩
  ·have d1:decide ((150:Int)<(len:Int))=true:=by simp;omega
   clear h hp hI hP
   go_enter Tryz.func11,Tryz.ntmps11
   go_wp2_with(go_at_call 41;((with_reducible refine(first_jfile _).mono ?_);rintro e w1 ⟨rfl,hb1⟩;have B1:=Lib.hid hb1;clear hb1))
   go_ret
   exact⟨rfl,B1.out⟩
end JfileRisesW
end Go.Proofs.YtjecmgkmcfkcjaaGreat
