/-
  Texts beneath the proof.
-/
import Derived.Test.YtiddkgcafpaekaaGreatJq42
set_option linter.unusedVariables false
set_option linter.unusedSimpArgs false
set_option maxRecDepth 100000
set_option maxHeartbeats 16000000
open Go.ChangeShapes Go.WideShapes Go.ChangeAt Go.RowKit
namespace Go.Proofs.YtiddkgcafpaekaaGreat
namespace JfileSpoiltW
open Bytes8 Blk8 Own8 OwnM OwnE Rows2 Ob Od Ok7 Ga Gb Gj Numb Ma Mb Mc Mh Na Nd Nh Np Nq Nr Ns Nt Nu Rc Rn Rr Va Wa Ls Pr8 Za Zb Zg Zh Zj Zl Seq8 Kf Jb Jd Je Jf Jg Ji Jo Jp
open Go1 (hcode)
open Vg (xor8 own_cell own_fz)
open Xl (bytes_back)
open Fa (T pv pay pay_all T_beq)
theorem rows_fields {w4:World}{gq:Nat}{F:Nat→Prop}{B n c:Nat}{A:Option Addr}{xs:List Value}{b0:Int}{rs:List (List PR×Int×Int×(Nat→Int))}(h:RowsR w4 gq F A xs b0 rs)(ho:OwnE 74 20 w4 B A n c xs)(hl:rs.length=n)(k:Nat)(hk:k<n)(W:World)(hW:Below w4.heap.size w4 W):
 ∃(bR:Nat) (Ar:Option Addr) (nr cr:Nat) (L:List PR),A=some ⟨bR,0,none⟩∧W.cell? ⟨bR,k*20+19,none⟩=some (.slice Ar nr cr)∧L.length=nr∧nr≤16∧Prs W Ar L∧L=(rs.getD k ([],0,0,fun _=>0)).1:=by
 subst hl
 obtain⟨Ar,nr,cr,e1,e2,e3,e4,_⟩:=h.at_ k hk
 have hxl:=h.len
 obtain⟨bR,h1,_,h2,h3⟩:=ho.cell (i:=20*k+19) (by omega)
 refine⟨bR,Ar,nr,cr,rs[k].1,h1,?_,e2,e3,e4.below hW,?_⟩
 ·have hv:xs[20*k+19]'(by omega)= .slice Ar nr cr:=by
   have h5:((xs.drop (20*k)).take 20)[19]? =some (.slice Ar nr cr):=by rw[e1];rfl
   rw[List.getElem?_take_of_lt (by decide),List.getElem?_drop,List.getElem?_eq_getElem (by omega)]at h5
   exact Option.some.inj h5
  rw[Nat.mul_comm k 20]
  exact(hW.cell (p:=⟨bR,20*k+19,none⟩) h2).trans (h3.trans (by rw[List.getElem?_eq_getElem (by omega),hv]))
 ·rw[List.getD_eq_getElem?_getD,List.getElem?_eq_getElem hk];rfl
def natV:Value→Nat
 | .int _ z=>z.toNat
 |_=>0
def wantL (pl:List Int)(b0:Int)(rs:List RR)(k:Nat):List RecP:=((List.range k).filter fun i=> !hasB pl (rs.getD i ([],0,0,fun _=>0))).map fun i=>rowP b0 i (rs.getD i ([],0,0,fun _=>0))
theorem wantL_no {pl:List Int}{b0:Int}{rs:List RR}{k:Nat}(h:hasB pl (rs.getD k ([],0,0,fun _=>0))=true):wantL pl b0 rs (k+1)=wantL pl b0 rs k:=by
 unfold wantL
 rw[List.range_succ,List.filter_append,List.map_append,List.filter_cons_of_neg (by show ¬(!hasB pl (rs.getD k ([],0,0,fun _=>0)))=true;rw[h];decide),List.filter_nil,List.map_nil,List.append_nil]
theorem wantL_yes {pl:List Int}{b0:Int}{rs:List RR}{k:Nat}(h:hasB pl (rs.getD k ([],0,0,fun _=>0))=false):wantL pl b0 rs (k+1)=wantL pl b0 rs k++ [rowP b0 k (rs.getD k ([],0,0,fun _=>0))]:=by
 unfold wantL
 rw[List.range_succ,List.filter_append,List.map_append,List.filter_cons_of_pos (by show(!hasB pl (rs.getD k ([],0,0,fun _=>0)))=true;rw[h];decide),List.filter_nil,List.map_singleton]
theorem wantL_len (pl:List Int)(b0:Int)(rs:List RR)(k:Nat):(wantL pl b0 rs k).length≤k:=by
 unfold wantL
 rw[List.length_map]
 exact Nat.le_trans (List.length_filter_le _ _) (by rw[List.length_range];exact yR _)
theorem jopen_sp {m:Mk}{rs:List RR}{os:List Za.O}{hs:Nat→List Nat}{mi:List Nat}{es:List (Nat×List Int)}(k:Zg.Kept m rs.length os hs mi es){x:Nat}(hx:x<m.datas.length){j:Nat}(hj:j<(Mk.kn m x).text.length){st:Int}(ht:0≤st∧st≤2)(v:Int)(A:Option Addr)(c:Nat)(w:World)(hb:Bytes w A (spL m st (Mk.kn m x).at_ j v))(hc:m.b.length≤c):
 Calls Tryz.prog 30 #[.slice A m.b.length c] w fun e w'=> ∃(gf gv:Nat) (A2:Option Addr) (c2:Nat) (P:Option Addr) (cp:Nat),e= .returned (.tuple #[.pointer (some ⟨gf,0,none⟩),.int .i64 0])∧Jb.FileAt w' gf gv (hdOf (spL m st (Mk.kn m x).at_ j v)) A2 m.b.length c2 (spL m st (Mk.kn m x).at_ j v) P mi.length cp (Zh.toI mi) 0∧Below w.heap.size w w':=by
 have hI:=k.good.img
 have D:=k.hold.dat x hx
 rw[←kn_at hx]at D
 have h272:272≤(Mk.kn m x).at_:=(shp_lt D.sh).1
 have hlens:=hI.lens
 have hL:=sp_len hI st (Mk.kn m x).at_ j v
 obtain⟨e1,e2⟩:=sp_end hI ht h272 j v
 have hch:=sp_chase k hx hj ht v
 refine(Jb.jopen_fine (spL m st (Mk.kn m x).at_ j v) A m.b.length c w hb hL (by omega) hc (sp_hcode hI ht h272 j v) m.b.length e1 e2 (yR _) (hdOf_ok hb.1 21)).mono ?_
 rintro e w' ⟨gf,gv,A2,c2,P,q,cp,rfl,hf,hb'⟩
 rw[List.take_of_length_le (by omega),hch]at hf
 dsimp only at hf
 have hq:q=mi.length:=by have:=hf.len;rw[List.length_map]at this;exact this.symm
 subst hq
 exact⟨gf,gv,A2,c2,P,cp,rfl,hf,hb'⟩
attribute [local irreducible] Mk.cells HD.cells wpList Code.wp
theorem walk_main (a:Option Addr)(len cap:Nat)(f:Nat→Int)(wh at_ by_:Int)(w:World)(hI:InInts .i64 w a len f)(hl:len≤150)(hy:0<by_∧by_<256):
 Calls Tryz.prog 7 #[.slice a len cap,.int .i64 wh,.int .i64 at_,.int .u8 by_] w fun e w'=>e= .returned (.bool true)∧Below w.heap.size w w':=by
 have d1:decide ((150:Int)<(len:Int))=false:=by simp;omega
 have d2:(by_==0)=false:=by simp;omega
 have HI:=yH hI
 clear hI
 go_enter Tryz.func7,Tryz.ntmps7
 go_upto_region 6 with(go_at_call 26;((with_reducible refine(first_jfile _).mono ?_);rintro e w1 ⟨rfl,hb1⟩;have B1:=yH hb1;clear hb1))
 clear d1 d2
 have HI1:=yH (HI.out.below B1.out)
 have Q1:=yH (show SeqIn (w1.alloc (.cells #[.slice a len cap,.int .i64 0] 62)) w1.heap.size a len cap f 0 from⟨Blk.new w1 [.slice a len cap,.int .i64 0] _,HI1.out.below ((Below.refl _ _).alloc (yR _) _),fun h0 b off e=>by obtain⟨b',off',e',h1,_⟩:=HI1.out 0 h0;rw[e]at e';injection e' with e';injection e' with e';omega,Nat.zero_le _,by omega⟩)
 have b1:=yH ((Below.refl w1.heap.size w1).alloc (yR _) (.cells #[.slice a len cap,.int .i64 0] 62))
 have HM:=yH (makerR_any w1.heap.size a len cap f 0 15 _ Q1.out (by decide))
 unfold MadeR at HM
 go_upto_region 7 with(first
  |(go_at_call 27;(refine HM.out.mono ?_);rintro e w2 ⟨g,A,n,c,B,p,m,rs,xs,b0,rfl,hB,hat,hgd,hk,hrw,hrc,hrl,hn9,hro⟩;have HA:=yH hat;have HG:=yH hgd;have HK:=yH hk;have HRw:=yH hrw;have HRc:=yH hrc;have HRl:=yH hrl;have HN9:=yH hn9;have HRo:=yH hro;clear hat hgd hk hrw hrc hrl hn9 hro)
  |fail)
 have hI:=HG.out.img
 obtain⟨l1,l2,l3⟩:=hI.lens
 have hn15:=HG.out.le
 obtain⟨os,hs,mi,es,hkept,hrecs⟩:=kept_recs HRc.out
 have HKp:=yH hkept
 have HRs:=yH hrecs
 have HMl:=yH (show mi.length=n by rw[hkept.len,HRl.out])
 have HIm:=yH (image_any B g p.bb p.cb p.S m 1 w2 HA.out.st (by omega) (st_head hI (by decide)) (by have:=hI.inv.dep;omega))
 unfold Owned at HIm
 have hsl:(HD.plus (Mk.head m 1) (m.depth:Int)).bytes 21++m.b.drop 272=stL m 1:=rfl
 rw[hsl]at HIm
 have B2:=yH (B1.out.trans ((b1.out.trans (KeptB.below (HK.out.mono b1.out.size) (yR _))).mono B1.out.size))
 have hL:=st_len hI 1
 have hos:0<os.length∧os.length≤800000:=by
  have h1: ∀(l:List Za.O),l.length≤(enc l).length:=by
   intro l
   induction l with
   |nil=>exact yR _
   |cons o l ih=>rw[enc_cons,List.length_append,List.length_cons];have:=o.n8;show _≤o.n+_;omega
  have h2:=h1 os
  have h3:=hkept.hold.rep.size
  unfold endO at h3
  refine⟨?_,by omega⟩
  cases os with
  |nil=>simp[enc]at h3;omega
  |cons o t=>simp
 have HOb:=yH fun(A:Option Addr) (c:Nat) (W:World) (hb:Bytes W A (stL m 1)) (hc:m.b.length≤c)=>objs_any hkept (st:=1) (by decide) A c W hb hc
 have hn1:=numBelow_lo wh (os.length:Int) (by omega)
 have hn2:=numBelow_hi wh (os.length:Int) (by omega)
 obtain⟨i,hi⟩: ∃i:Nat,numBelow wh (os.length:Int)=(i:Int):=⟨(numBelow wh (os.length:Int)).toNat,by omega⟩
 have hil:i<os.length:=by omega
 have HNb:=yH fun(W:World)=>number_nat wh (os.length:Int) i W (by omega) (by omega) hi
 clear hn1 hn2 hi
 obtain⟨hpl,hob⟩:=places_at os 272 i hil
 have HDo:=yH (data_of hkept (st:=1) (by decide) i hil)
 have hbd:=obj_bd _ _ _ _ hob
 have hsz:=hkept.hold.rep.size
 unfold endO at hsz
 have HPl:=yH hpl
 have ha:272+(enc (os.take i)).length≤32768:=by have:=hn15;omega
 clear hpl hob hbd hsz hsl
 generalize 272+(enc (os.take i)).length=ka at*
 clear hkept hrecs Q1 HM b1 HI HI1
 go_upto_region 9 with(first
  |(go_at_call 28;(refine HIm.out.mono ?_);rintro e w3 ⟨A3,c3,rfl,ho3,hb3⟩;have HO3:=yH ho3;have HCc:=yH (own_cap ho3);have B3:=yH (B2.out.trans (hb3.mono B2.out.size));have B23:=yH hb3;have HO3b:=yH (HOb.out A3 c3 w3 ho3.bytes (own_cap ho3).1);clear ho3 hb3)
  |(go_at_call 17;(refine HO3b.out.mono ?_);rintro e w4 ⟨A1,c1,rfl,ho4,hb4⟩;have HO4:=yH ho4;have B4:=yH (B3.out.trans (hb4.mono B3.out.size));have B34:=yH hb4;clear ho4 hb4)
  |fail)
 have hc3:=HCc.out
 have HB4:=yH (HO3.out.bytes.below B34.out (yR _))
 obtain⟨gp,e1,_,hgl,hcl⟩:=OwnE.cell HO4.out (i:=i) (by rw[List.length_map,places_len];exact hil)
 rw[List.getElem?_map,HPl.out]at hcl
 have hcl:w4.cell? ⟨gp,i,none⟩=some (.int .u64 (ka:Int)):=hcl
 subst e1
 have dk1:decide ((i:Int)<0)=false:=by simp
 have dk2:decide ((i:Int)<(os.length:Int))=true:=by simp;omega
 have HRd:=yH (readData_n A3 (stL m 1) m.b.length c3 ka w4 HB4.out hL (by omega) hc3.1 hc3.2 (by omega))
 unfold DataTold2 at HRd
 have HDs:=yH hil
 clear HIm HOb HO3b HPl hos
 go_upto_region 12 with(first
  |(go_at_call 20;((refine(HNb.out _).mono ?_);rintro e y1 ⟨rfl,rfl⟩))
  |fail)
 clear dk1 dk2 hcl hgl HNb
 have hbn0: ∀(i':Nat),True:=fun _=>trivial
 generalize bnum (stL m 1) ka 1 6 0=x0 at*
 generalize bnum (stL m 1) ka 1 6 1=x1 at*
 generalize bnum (stL m 1) ka 1 6 2=x2 at*
 generalize bnum (stL m 1) ka 1 6 3=x3 at*
 generalize bnum (stL m 1) ka 1 6 4=x4 at*
 generalize bnum (stL m 1) ka 1 6 5=x5 at*
 generalize bpay (stL m 1) ka 1 6=pl at*
 generalize bcode (stL m 1) ka 1 6=bc at*
 go_upto_region 13 with(first
  |(go_at_call 29;(refine HRd.out.mono ?_);rintro e w5 ⟨Ap,mp,cp,rfl,hb5,hbp,hlp,hcp⟩;have B5:=yH (B4.out.trans (hb5.mono B4.out.size));have B45:=yH hb5;have HBp:=yH hbp;have HLp:=yH hlp;have HCp:=yH hcp;clear hb5 hbp hlp hcp)
  |fail)
 have X5:=yH (Blk.new w5 [.int .u64 x0,.int .u64 x1,.int .u64 x2,.int .u64 x3,.int .u64 x4,.int .u64 x5,.slice Ap mp cp] 65)
 have b56:=yH ((Below.refl w5.heap.size w5).alloc (yR _) (.cells #[.int .u64 x0,.int .u64 x1,.int .u64 x2,.int .u64 x3,.int .u64 x4,.int .u64 x5,.slice Ap mp cp] 65))
 generalize w5.alloc (.cells #[.int .u64 x0,.int .u64 x1,.int .u64 x2,.int .u64 x3,.int .u64 x4,.int .u64 x5,.slice Ap mp cp] 65)=w6 at*
 have B6:=yH (B5.out.trans (b56.out.mono B5.out.size))
 have B25:=yH (B23.out.trans ((B34.out.trans (B45.out.mono B34.out.size)).mono B23.out.size))
 have B26:=yH (B25.out.trans (b56.out.mono B25.out.size))
 have hmp:mp≤1000000∧mp≤cp∧cp≤maxLen:=⟨HCp.out.1,HCp.out.2.1,HCp.out.2.2.1⟩
 have c6:w6.cell? ⟨w5.heap.size,6,none⟩=some (.slice Ap mp cp):=X5.out.cell rfl
 have c0:w6.cell? ⟨w5.heap.size,0,none⟩=some (.int .u64 x0):=X5.out.cell rfl
 generalize hs6:w5.heap.size=s6 at*
 clear hbn0
 by_cases hz:bc=0
 ·by_cases hm0:0<mp
  ·have dz:(bc !=0)=false:=by simp[hz]
   have dm:((mp:Int)==0)=false:=by simp;omega
   obtain⟨x,hx,hat,hsum,hpay⟩:=HDo.out hz
   have hk:=HKp.out
   have hend:ka+64+mp≤m.b.length:=by
    have h1:=(shp_lt (hk.hold.dat x hx).sh).1
    obtain⟨o,ho,hsh⟩:=shp_some (hk.hold.dat x hx).sh
    have h2:=obj_bd _ _ _ _ ho
    injection hsh with h3 h4 h5 h6
    have h7:=o.n_is
    rw[h4,h5,←kn_at hx,←hpay,HLp.out]at h7
    rw[←kn_at hx,hat]at h2
    have h8:=hk.hold.rep.size
    unfold endO at h8
    omega
   have hn1:=numBelow_lo at_ (mp:Int) (by omega)
   have hn2:=numBelow_hi at_ (mp:Int) (by omega)
   obtain⟨j,hj⟩: ∃j:Nat,numBelow at_ (mp:Int)=(j:Int):=⟨(numBelow at_ (mp:Int)).toNat,by omega⟩
   have hjl:j<mp:=by omega
   have HNj:=yH fun(W:World)=>number_nat at_ (mp:Int) j W (by omega) (by omega) hj
   clear hn1 hn2 hj
   have hjt:j<(Mk.kn m x).text.length:=by rw[←hpay,HLp.out];exact hjl
   have HOp:=yH fun(v:Int) (A:Option Addr) (c:Nat) (W:World) (hb:Bytes W A (spL m 1 ka j v)) (hc:m.b.length≤c)=>by
    have h:=jopen_sp hk hx hjt (st:=1) (by decide) v A c W (by rw[hat];exact hb) hc
    rw[hat]at h
    exact h
   have HX:=yH hx
   have HAt:=yH hat
   have HSm:=yH hsum
   have HPy:=yH hpay
   have HJt:=yH hjt
   have HZ:=yH hz
   have HB6:=yH ((HB4.out.below B45.out (yR _)).below b56.out (Nat.le_of_eq hs6))
   have HBp6:=yH (HBp.out.below b56.out (Nat.le_of_eq hs6))
   clear hs6
   have HCy:=yH (Cl8.bytes_any A3 (stL m 1) m.b.length c3 w6 HB6.out hL (by omega))
   have hlt6:=X5.out.lt
   clear hx hat hsum hpay hk hjt hz HDo hL
   have hL:=yH (st_len hI 1)
   go_upto_region 16 with(first
    |(go_at_call 23;((refine HCy.out.mono ?_);rintro e w7 ⟨A6,c6',rfl,ho7,hb7⟩;have HO7:=yH ho7;have B67:=yH hb7;have B7:=yH (B6.out.trans (hb7.mono B6.out.size));have X7:=yH (X5.out.below hb7 hlt6);clear ho7 hb7))
    |fail)
   have c67:w7.cell? ⟨s6,6,none⟩=some (.slice Ap mp cp):=X7.out.cell rfl
   have hwka:IntKind.i64.wrap (ka:Int)=(ka:Int):=by rw[IntKind.wrap_i64];omega
   have hw64:IntKind.i64.wrap ((ka:Int)+64)=(ka:Int)+64:=by rw[IntKind.wrap_i64];omega
   obtain⟨ix,hix⟩: ∃ix,ka+64+j=ix:=⟨_,rfl⟩
   have hwj:IntKind.i64.wrap ((ka:Int)+64+(j:Int))=(ix:Int):=by rw[IntKind.wrap_i64];omega
   have Hix:=yH hix
   clear hix
   clear c6 c0
   go_upto_region 17 with(first
    |(go_at_call 20;((refine(HNj.out _).mono ?_);rintro e y1 ⟨rfl,rfl⟩))
    |fail)
   clear hwka hw64 hwj HNj c67
   obtain⟨g6,rfl⟩: ∃g6,A6=some ⟨g6,0,none⟩:=by
    rcases HO7.out.2.2.2.2 with⟨h1,h2⟩|⟨g,cap,cur,h1,h2,h3,h4⟩
    ·injection h1 with e1 e2 e3;omega
    ·injection h1 with e1 e2 e3;exact⟨g,e1⟩
   have hix:=Hix.out
   have hixl:ix<m.b.length:=by omega
   have cq:=own_cell HO7.out ix hixl
   have fq:=own_fz HO7.out ix hixl
   have hx8:0≤(stL m 1).getD ix 0∧(stL m 1).getD ix 0<256:=by
    rw[List.getD_eq_getElem?_getD,List.getElem?_eq_getElem (by rw[hL.out];exact hixl)]
    exact HO7.out.1 _ (List.getElem_mem _)
   have hxy:=xor8 hx8 (y:=by_) ⟨by omega,by omega⟩
   have HS8:=yH (Vg.own_set HO7.out ix hxy.1 hxy.2)
   have hsp:(stL m 1).set ix (bits .xor .u8 ((stL m 1).getD ix 0) by_)=spL m 1 ka j (bits .xor .u8 ((stL m 1).getD ix 0) by_):=by unfold spL;rw[hix]
   rw[hsp]at HS8
   have hlt9:=(HO7.out.lt g6 rfl).1
   have B78:=yH ((Below.refl w6.heap.size w7).setCell (p:=⟨g6,ix,none⟩) hlt9 (.int .u8 (bits .xor .u8 ((stL m 1).getD ix 0) by_)))
   have HOp8:=yH (HOp.out (bits .xor .u8 ((stL m 1).getD ix 0) by_) (some ⟨g6,0,none⟩) c6' (w7.setCell ⟨g6,ix,none⟩ (.int .u8 (bits .xor .u8 ((stL m 1).getD ix 0) by_))) HS8.out.bytes (own_cap HS8.out).1)
   have hq0:(0:Int)≤(ix:Int):=by omega
   have hqn:(ix:Int)<(m.b.length:Int):=by omega
   have dq0:decide ((ix:Int)<0)=false:=by simp
   have dq1:decide ((ix:Int)<(m.b.length:Int))=true:=by simp;omega
   clear hx8 hxy hsp hix HOp
   generalize (stL m 1).getD ix 0=old at*
   go_upto_region 18 with fail
   generalize hv:bits .xor .u8 old by_=v at*
   have B68:=yH (show Below w6.heap.size w6 (w7.setCell ⟨g6,ix,none⟩ (.int .u8 v))from B67.out.setCell (p:=⟨g6,ix,none⟩) hlt9 _)
   have B8:=yH (B6.out.trans (B68.out.mono B6.out.size))
   have B28:=yH (B26.out.trans (B68.out.mono B26.out.size))
   have HBp8:=yH (HBp6.out.below B68.out (yR _))
   generalize w7.setCell ⟨g6,ix,none⟩ (.int .u8 v)=w8 at*
   have X8:=yH (X5.out.below B68.out hlt6)
   clear cq fq B67 B78 X7 HO7 dq0 dq1 hv
   go_upto_region 19 with(first
    |(go_at_call 30;(refine HOp8.out.mono ?_);rintro e w9 ⟨gf,gv,A9,c9,P,cp9,rfl,hf,hb9⟩;have HF:=yH hf;have B89:=yH hb9;have HO9:=yH (HS8.out.kept hb9 (by have:=B68.out.size;omega));have B9:=yH (B8.out.trans (hb9.mono B8.out.size));have X9:=yH (X8.out.below hb9 (yL hlt6 B68.out.size));clear hf hb9)
    |fail)
   clear HOp8 HS8 X8 B68 B8
   go_upto_region 21 with fail
   have D9:=yH (show Below w9.heap.size w9 w9.drew from(Below.refl w9.heap.size w9).drew)
   have hcap6:=own_cap HO9.out
   have hLs:=yH (sp_len HG.out.img 1 ka j v)
   have HT:=yH (show((spL m 1 ka j v).drop (ka+64)).take mp=pl.set j v from by
    have h:=text_sp HKp.out HX.out 1 j v
    rw[HAt.out,←HPy.out,HLp.out]at h
    exact h)
   have HBc:=yH (show Bytes w9 (cutA (some ⟨g6,0,none⟩) c6' (ka+64)) (pl.set j v)from by
    have h:=Bytes.cut HO9.out.bytes c6' (ka+64) mp (by rw[hLs.out];exact hcap6.1)
    rw[HT.out]at h
    exact h)
   have hcut: ∀W:World,(Instr.slice 24 (.slice (some ⟨g6,0,none⟩) m.b.length c6') (some (.int .i64 ((ka:Int)+64))) (some (.int .i64 ((ka:Int)+64+(mp:Int)))) none).run Tryz.prog W= .ok (.slice (cutA (some ⟨g6,0,none⟩) c6' (ka+64)) mp (c6'-(ka+64))) W:=fun W=>by
    have k:=cut_lh (some ⟨g6,0,none⟩) m.b.length c6' (ka+64) (ka+64+mp) (by omega) (by omega) W
    rwa[show ka+64+mp-(ka+64)=mp by omega,show((ka+64:Nat):Int)=(ka:Int)+64 by omega,show((ka+64+mp:Nat):Int)=(ka:Int)+64+(mp:Int)by omega]at k
   have hwka:IntKind.i64.wrap (ka:Int)=(ka:Int):=by rw[IntKind.wrap_i64];omega
   have hw64:IntKind.i64.wrap ((ka:Int)+64)=(ka:Int)+64:=by rw[IntKind.wrap_i64];omega
   have hwm:IntKind.i64.wrap ((ka:Int)+64+(mp:Int))=(ka:Int)+64+(mp:Int):=by rw[IntKind.wrap_i64];omega
   have HV:=yH fun(W:World) (hW:Below w9.heap.size w9 W)=>view_any (HF.out.below hW)
   have HH:=yH fun(W:World) (hW:Below w9.heap.size w9 W)=>Rj.vhash_any (cutA (some ⟨g6,0,none⟩) c6' (ka+64)) (pl.set j v) mp (c6'-(ka+64)) W ((HF.out.below hW).view) (HBc.out.below hW (yR _)) (by rw[List.length_set];exact HLp.out) (by omega) (by omega) (by have:=hcap6.2;omega)
   have HK9:=yH fun(W:World) (hW:Below w9.heap.size w9 W)=>show W.cell? ⟨s6,6,none⟩=some (.slice Ap mp cp)∧W.cell? ⟨s6,0,none⟩=some (.int .u64 x0)from⟨(X9.out.below hW X9.out.lt).cell rfl,(X9.out.below hW X9.out.lt).cell rfl⟩
   obtain⟨i0,i1⟩:=HK9.out _ D9.out
   generalize cutA (some ⟨g6,0,none⟩) c6' (ka+64)=Ac at*
   generalize c6'-(ka+64)=cc at*
   go_region_held3 (fun W=>W.cell? ⟨s6,6,none⟩=some (.slice Ap mp cp)∧W.cell? ⟨s6,0,none⟩=some (.int .u64 x0)) (first|(with_reducible exact⟨i0,i1⟩)|(with_reducible exact⟨p0,p1⟩)|go_keep) (first
    |(go_at_call 31;(refine(HV.out _ D9.out).mono ?_);rintro e y2 ⟨rfl,rfl⟩)
    |(go_at_call 25;(refine(HH.out _ D9.out).mono ?_);rintro e w10 ⟨rfl,hb10⟩;have B10:=yH (D9.out.trans (hb10.mono D9.out.size));obtain⟨p0,p1⟩:=HK9.out _ B10.out;clear hb10)
    |fail)
   have Bw:=yH (B9.out.trans (B10.out.mono B9.out.size))
   have hgood:=fun(hne:x0≠Sg.ofS (Rj.keyB (hdOf (spL m 1 ka j v)).ic) (idL (hdOf (spL m 1 ka j v)).I) (pl.set j v))=>by
    have h:=sp_good HKp.out HRs.out HX.out HJt.out (st:=1) (by decide) v (by rw[HAt.out,←HSm.out,←HPy.out];exact hne) (b0:=b0) (by rw[HRl.out];exact HN9.out)
    rw[HAt.out,←HPy.out,HMl.out]at h
    exact h
   have HGd:=yH hgood
   rw[HMl.out]at HF
   clear hgood HH HV HK9 HBc HT hcut hwka hw64 hwm i0 i1 p0 p1 HKp HSm HJt HPy hLs HO9 hcap6
   generalize Sg.ofS (Rj.keyB (hdOf (spL m 1 ka j v)).ic) (idL (hdOf (spL m 1 ka j v)).I) (pl.set j v)=hsh at*
   by_cases hh:hsh=x0
   ·have dh:(hsh==x0)=true:=by simp[hh]
    clear hh HGd
    go_wp2_with fail
    go_ret
    exact⟨rfl,Bw.out⟩
   ·have dh:(hsh==x0)=false:=by simpa using hh
    have hgs:=HGd.out (fun e=>hh e.symm)
    obtain⟨hg1,hg2⟩:=hgs
    have HG1:=yH hg1
    have HG2:=yH hg2
    clear hh HGd hg1 hg2
    try rw[dh]
    have B2w:=yH (B28.out.trans ((B89.out.trans (B10.out.mono B89.out.size)).mono B28.out.size))
    have HRow:=yH fun(k:Nat) (hk:k<n) (W:World) (hW:Below w2.heap.size w2 W)=>rows_fields HRo.out HRw.out.own HRl.out k hk W hW
    have HKk:=yH fun(i:Nat) (hi:i<rs.length)=>HRs.out.ok _ (List.getElem_mem hi)
    have HRa:=yH fun(i:Nat) (hi:i<rs.length)=>(rowAt_rows HRw.out.own HRo.out i hi (HKk.out i hi).K).below B2w.out
    have HPw:=yH ((HBp8.out.below B89.out (yR _)).below B10.out (yR _))
    have HX10:=yH (X9.out.below B10.out X9.out.lt)
    have HF10:=yH (HF.out.below B10.out)
    have hpA:=HPw.out.1
    have hplE:pl≠ []:=fun e=>by have:=HLp.out;rw[e]at this;simp at this;omega
    have hpne:=yH hplE
    have HLn:=yH fun(j:Nat) (hj:j<rs.length) (q:PR) (hq:q∈rs[j].1)=>show q.1.length≤64∧q.2.length≤256 from by
     have h1:=(HKk.out j hj).list
     have h2:=(list_ok h1).2 q ((list_mem h1 q).2 hq)
     exact Fc.flaw_len h2.2
    have S10:=yH (Below.refl w10.heap.size w10)
    have N10:=yH (OwnE.nil (E:=74) (size:=20) w10 w10.heap.size (yR _))
    have Q10:=yH (RecsR.nil w10 none)
    clear hplE HA HG HK HRc hI l1 l2 l3 HRs HN9 HO3 HCc B23 B34 HB4 hcl HO4 HDs HRd B45 HBp HCp X5 b56 HX HAt HZ HB6 HCy hlt6 Hix HF X9 D9 B9 B10 B89 B28 HBp8 HRw HRo HBp6 B25 B26 hc3 hend ha hil hq0 hqn hlt9 hixl hjl B1 B2 B3 B4 B5 B6 B7 hB hL
    go_wp2_with fail
    go_loopw [22,23] (fun s iv wr=> ∃(k m2:Nat) (A2:Option Addr) (c2:Nat) (ys:List Value),k≤n∧s= .slice A2 m2 c2∧iv= .int .i64 (k:Int)∧Hid ((wantL pl b0 rs k).length=m2)∧Hid (OwnE 74 20 wr w10.heap.size A2 m2 c2 ys)∧Hid (RecsR wr A2 ys (wantL pl b0 rs k))∧Hid (Below w10.heap.size w10 wr)) (fun _ iv _=>n-natV iv)
    case atStart=>exact⟨0,0,none,0,[],Nat.zero_le _,rfl,rfl,yH rfl,N10,Q10,S10⟩
    case round=>
     clear S10 N10 Q10
     obtain⟨x,m2,A2,c2,ys,hx,rfl,rfl,hml,hO,hQ,hB⟩:=hrel
     by_cases hxl:x<n
     ·have dd1:decide ((x:Int)<(n:Int))=true:=by simp;omega
      have hxi:(x:Int)<(n:Int):=by omega
      have hwx:IntKind.i64.wrap ((x:Int)+1)=((x+1:Nat):Int):=by rw[IntKind.wrap_i64];omega
      have Bx:=yH (B2w.out.trans (hB.out.mono B2w.out.size))
      have hxr:x<rs.length:=by rw[HRl.out];exact hxl
      have hrx:rs.getD x ([],0,0,fun _=>0)=rs[x]:=by rw[List.getD_eq_getElem?_getD,List.getElem?_eq_getElem hxr];rfl
      have hra:=HRa.out x hxr
      rw[←hrx]at hra
      obtain⟨bb,F,cf,hAb,hlb,hrg,hpf,okf⟩:=hra
      have HFo:=yH (show ∀b off,F=some ⟨b,off,none⟩→0<(rowP b0 x (rs.getD x ([],0,0,fun _=>0))).n→b<w10.heap.size from fun b off e hn=>by
       obtain⟨b2,off2,e2,hb2,_⟩:=hpf.2 0 (by have:=okf.len;omega)
       rw[e]at e2
       injection e2 with e2
       injection e2 with e2
       subst e2
       exact hb2)
      have HRx:=yH fun(W:World) (hW:Below w10.heap.size w10 W)=>And.intro (show W.rangeAt bb (x*20) _ from fun j v hj=>(World.cell?_of_block (a:=⟨bb,x*20+j,none⟩) (hW.block bb hlb)).trans (hrg j v hj)) (hpf.below hW)
      have HOkf:=yH okf
      obtain⟨bR,Ar,nr,cr,L,hAe,hcR,hLl,hnr,hPL,hLe⟩:=HRow.out x hxl _ Bx.out
      have hbR:=bounds_of_cell hcR
      dsimp only at hbR
      have HPL:=yH hPL
      have hLen:=HLn.out x hxr
      rw[←hrx,←hLe]at hLen
      have HLen:=yH hLen
      have hml2:=wantL_len pl b0 rs x
      have hm2:m2≤20:=by have:=hml.out;omega
      have HNo:=yH (wantL_no (pl:=pl) (b0:=b0) (rs:=rs) (k:=x))
      have HYe:=yH (wantL_yes (pl:=pl) (b0:=b0) (rs:=rs) (k:=x))
      have hhas:hasB pl (rs.getD x ([],0,0,fun _=>0))=decide (pl∈L.map fun q=>pay q.1 q.2):=by unfold hasB;rw[hLe]
      have HHas:=yH hhas
      have HPy2:=yH (HPw.out.below hB.out (yR _))
      have HXr:=yH (HX10.out.below hB.out HX10.out.lt)
      clear hLen hLe hPL hml2 hhas hrx HRow HLn HRa hxr hrg hpf okf hlb
      subst hAe
      obtain rfl:bR=bb:=by injection hAb with h1;injection h1
      clear hAb
      rename World=>wx
      have Sx:=yH (Below.refl wx.heap.size wx)
      go_wp2_with fail
      go_loopw [24,25] (fun hv jv wr=> ∃y:Nat,y≤nr∧jv= .int .i64 (y:Int)∧hv= .bool (decide (pl∈(L.take y).map fun q=>pay q.1 q.2))∧Hid (Below wx.heap.size wx wr)) (fun _ j _=>nr-natV j)
      case atStart=>exact⟨0,Nat.zero_le _,rfl,by simp,Sx⟩
      case round=>
       clear Sx
       obtain⟨y,hy,rfl,rfl,hby⟩:=hrel
       rename World=>wy
       have hcRy:=(hby.out.cell (p:=⟨bR,x*20+19,none⟩) hbR).trans hcR
       by_cases hyl:y<nr
       ·have dd3:decide ((y:Int)<(nr:Int))=true:=by simp;omega
        have hyi:(y:Int)<(nr:Int):=by omega
        have hwy:IntKind.i64.wrap ((y:Int)+1)=((y+1:Nat):Int):=by rw[IntKind.wrap_i64];omega
        have hst:decide (pl∈(L.take (y+1)).map fun q=>pay q.1 q.2)=(decide (pl∈(L.take y).map fun q=>pay q.1 q.2)||decide (pay (L[y]'(by omega)).1 (L[y]'(by omega)).2=pl)):=by
         rw[List.take_succ_eq_append_getElem (by omega),List.map_append,List.map_singleton,←Bool.decide_or]
         refine decide_eq_decide.2 ?_
         rw[List.mem_append,List.mem_singleton,eq_comm (a:=pl)]
        go_upto_region 31 with fail
        cases hb:decide (pl∈(L.take y).map fun q=>pay q.1 q.2)with
        |true=>
         rw[hb]at hst
         have HSt:=yH hst
         clear hst hb
         go_quiet (fail)
         have SK:=yH (show Below wx.heap.size wx (wy.drewN nq)from hby.out.trans ⟨rfl,rfl,rfl,yR _,fun _ _=>rfl⟩)
         go_wp2_with fail
         go_roundw
         case rel=>exact⟨y+1,hyl,by first|rfl|(congr 1<;>omega),by rw[HSt.out];simp,SK⟩
         case measure=>simp[natV];omega
        |false=>
         rw[hb]at hst
         have HSt:=yH hst
         clear hst hb
         have hyL:y<L.length:=by omega
         obtain⟨bN,oN,hAr,hbN,hcN,hcV⟩:=HPL.out.2 y hyL
         have hgd:L.getD y nil2=L[y]:=by rw[List.getD_eq_getElem?_getD,List.getElem?_eq_getElem hyL];rfl
         rw[hgd]at hcN hcV
         have hAp:=HPL.out.1 _ (List.getElem_mem hyL)
         have hln:=HLen.out _ (List.getElem_mem hyL)
         subst hAr
         generalize L[y]=pr at*
         obtain⟨nm,vl⟩:=pr
         dsimp only at hcN hcV hAp hln HSt
         have hbq:=T_beq (pay_all hAp.1 hAp.2.1) hpA
         have HRp:=yH fun(W:World)=>show Calls Tryz.prog 32 #[.agg #[.string (T nm),.string (T vl)]] W fun e w'=>e= .returned (.string (T (pay nm vl)))∧Below W.heap.size W w' from(Fc.rpayload_any nm vl (by omega) W).mono fun e w' h=>⟨h.1,h.2▸(Below.refl W.heap.size W).alloc (yR _) _⟩
         have hxR:bR<wy.heap.size:=yL hbR hby.out.size
         have hxN:bN<wy.heap.size:=yL hbN hby.out.size
         have hcN2:=(hby.out.cell (p:=⟨bN,oN+y*2,none⟩) hbN).trans hcN
         have hcV2:=(hby.out.cell (p:=⟨bN,oN+y*2+1,none⟩) hbN).trans hcV
         have HXy:=yH (HXr.out.below hby.out HXr.out.lt)
         have hs6y:=HXy.out.lt
         have HcR:=yH fun(W:World) (hW:Below wy.heap.size wy W)=>(hW.cell (p:=⟨bR,x*20+19,none⟩) hxR).trans hcRy
         have HcN:=yH fun(W:World) (hW:Below wy.heap.size wy W)=>(hW.cell (p:=⟨bN,oN+y*2,none⟩) hxN).trans hcN2
         have HcV:=yH fun(W:World) (hW:Below wy.heap.size wy W)=>(hW.cell (p:=⟨bN,oN+y*2+1,none⟩) hxN).trans hcV2
         have HcD:=yH fun(W:World) (hW:Below wy.heap.size wy W)=>show W.cell? ⟨s6,6,none⟩=some (.slice Ap mp cp)from(HXy.out.below hW hs6y).cell rfl
         have HPy:=yH (HPy2.out.below hby.out (yR _))
         have D0:=yH (show Below wy.heap.size wy wy.drew from(Below.refl wy.heap.size wy).drew)
         have hmpl:=HLp.out
         subst hmpl
         clear hcN hcV hcN2 hcV2 hgd hAp hln
         generalize hdq:decide (pay nm vl=pl)=bq at*
         refine wp_region_noPanic ?_
         refine wp_region_held_drew (S:=fun W:World=>Below wy.heap.size wy W) (by kernel_rfl) (by exact D0.out) (fun hHeld=>?_)
         refine tk (i:=0) (oi:=⟨some 143,_,_,_,_,_⟩) (v:=?_) rfl (Or.inl ⟨by rfl,?_⟩) ?_
         rotate_left
         ·intro W hSw;have q0:=HcR.out W hSw;have q1:=HcN.out W hSw;have q2:=HcV.out W hSw;have q4:=HcD.out W hSw;have q3:=bytes_back cp (HPy.out.below hSw (yR _)) rfl hpne.out;go_simp;try (with_reducible rfl)
         try simp only[Act.put,sA,sZ,sS]
         refine tk (i:=1) (oi:=⟨some 144,_,_,_,_,_⟩) (v:=?_) rfl (Or.inl ⟨by rfl,?_⟩) ?_
         rotate_left
         ·intro W hSw;have q0:=HcR.out W hSw;have q1:=HcN.out W hSw;have q2:=HcV.out W hSw;have q4:=HcD.out W hSw;have q3:=bytes_back cp (HPy.out.below hSw (yR _)) rfl hpne.out;go_simp;try (with_reducible rfl)
         try simp only[Act.put,sA,sZ,sS]
         refine tk (i:=2) (oi:=⟨some 145,_,_,_,_,_⟩) (v:=?_) rfl (Or.inl ⟨by rfl,?_⟩) ?_
         rotate_left
         ·intro W hSw;have q0:=HcR.out W hSw;have q1:=HcN.out W hSw;have q2:=HcV.out W hSw;have q4:=HcD.out W hSw;have q3:=bytes_back cp (HPy.out.below hSw (yR _)) rfl hpne.out;go_simp;try (with_reducible rfl)
         try simp only[Act.put,sA,sZ,sS]
         refine tk (i:=3) (oi:=⟨some 146,_,_,_,_,_⟩) (v:=?_) rfl (Or.inl ⟨by rfl,?_⟩) ?_
         rotate_left
         ·intro W hSw;have q0:=HcR.out W hSw;have q1:=HcN.out W hSw;have q2:=HcV.out W hSw;have q4:=HcD.out W hSw;have q3:=bytes_back cp (HPy.out.below hSw (yR _)) rfl hpne.out;go_simp;try (with_reducible rfl)
         try simp only[Act.put,sA,sZ,sS]
         refine tk (i:=4) (oi:=⟨some 147,_,_,_,_,_⟩) (v:=?_) rfl (Or.inl ⟨by rfl,?_⟩) ?_
         rotate_left
         ·intro W hSw;have q0:=HcR.out W hSw;have q1:=HcN.out W hSw;have q2:=HcV.out W hSw;have q4:=HcD.out W hSw;have q3:=bytes_back cp (HPy.out.below hSw (yR _)) rfl hpne.out;go_simp;try (with_reducible rfl)
         try simp only[Act.put,sA,sZ,sS]
         refine tk (i:=5) (oi:=⟨some 148,_,_,_,_,_⟩) (v:=?_) rfl (Or.inl ⟨by rfl,?_⟩) ?_
         rotate_left
         ·intro W hSw;have q0:=HcR.out W hSw;have q1:=HcN.out W hSw;have q2:=HcV.out W hSw;have q4:=HcD.out W hSw;have q3:=bytes_back cp (HPy.out.below hSw (yR _)) rfl hpne.out;go_simp;try (with_reducible rfl)
         try simp only[Act.put,sA,sZ,sS]
         refine tk (i:=6) (oi:=⟨some 149,_,_,_,_,_⟩) (v:=?_) rfl (Or.inl ⟨by rfl,?_⟩) ?_
         rotate_left
         ·intro W hSw;have q0:=HcR.out W hSw;have q1:=HcN.out W hSw;have q2:=HcV.out W hSw;have q4:=HcD.out W hSw;have q3:=bytes_back cp (HPy.out.below hSw (yR _)) rfl hpne.out;go_simp;try (with_reducible rfl)
         try simp only[Act.put,sA,sZ,sS]
         refine tk (i:=7) (oi:=⟨some 150,_,_,_,_,_⟩) (v:=?_) rfl (Or.inl ⟨by rfl,?_⟩) ?_
         rotate_left
         ·intro W hSw;have q0:=HcR.out W hSw;have q1:=HcN.out W hSw;have q2:=HcV.out W hSw;have q4:=HcD.out W hSw;have q3:=bytes_back cp (HPy.out.below hSw (yR _)) rfl hpne.out;go_simp;try (with_reducible rfl)
         try simp only[Act.put,sA,sZ,sS]
         refine tk (i:=8) (oi:=⟨some 151,_,_,_,_,_⟩) (v:=?_) rfl (Or.inl ⟨by rfl,?_⟩) ?_
         rotate_left
         ·intro W hSw;have q0:=HcR.out W hSw;have q1:=HcN.out W hSw;have q2:=HcV.out W hSw;have q4:=HcD.out W hSw;have q3:=bytes_back cp (HPy.out.below hSw (yR _)) rfl hpne.out;go_simp;try (with_reducible rfl)
         try simp only[Act.put,sA,sZ,sS]
         refine tk (i:=9) (oi:=⟨some 152,_,_,_,_,_⟩) (v:=?_) rfl (Or.inl ⟨by rfl,?_⟩) ?_
         rotate_left
         ·intro W hSw;have q0:=HcR.out W hSw;have q1:=HcN.out W hSw;have q2:=HcV.out W hSw;have q4:=HcD.out W hSw;have q3:=bytes_back cp (HPy.out.below hSw (yR _)) rfl hpne.out;go_simp;try (with_reducible rfl)
         try simp only[Act.put,sA,sZ,sS]
         refine tk (i:=11) (oi:=⟨some 154,_,_,_,_,_⟩) (v:=?_) rfl (Or.inl ⟨by rfl,?_⟩) ?_
         rotate_left
         ·intro W hSw;have q0:=HcR.out W hSw;have q1:=HcN.out W hSw;have q2:=HcV.out W hSw;have q4:=HcD.out W hSw;have q3:=bytes_back cp (HPy.out.below hSw (yR _)) rfl hpne.out;go_simp;try (with_reducible rfl)
         try simp only[Act.put,sA,sZ,sS]
         refine tk (i:=12) (oi:=⟨some 155,_,_,_,_,_⟩) (v:=?_) rfl (Or.inl ⟨by rfl,?_⟩) ?_
         rotate_left
         ·intro W hSw;have q0:=HcR.out W hSw;have q1:=HcN.out W hSw;have q2:=HcV.out W hSw;have q4:=HcD.out W hSw;have q3:=bytes_back cp (HPy.out.below hSw (yR _)) rfl hpne.out;go_simp;try (with_reducible rfl)
         try simp only[Act.put,sA,sZ,sS]
         refine tk (i:=13) (oi:=⟨some 156,_,_,_,_,_⟩) (v:=?_) rfl (Or.inl ⟨by rfl,?_⟩) ?_
         rotate_left
         ·intro W hSw;have q0:=HcR.out W hSw;have q1:=HcN.out W hSw;have q2:=HcV.out W hSw;have q4:=HcD.out W hSw;have q3:=bytes_back cp (HPy.out.below hSw (yR _)) rfl hpne.out;go_simp;try (with_reducible rfl)
         try simp only[Act.put,sA,sZ,sS]
         refine wpAnyH_ready (rs:=[10]) (by kernel_rfl) (by simp) ?_
         refine AllReadyH.cons (o:=⟨some 153,_,_,_,_,_⟩) rfl (fun K hK=>?_) AllReadyH.nil
         go_simp
         ((with_reducible refine(HRp.out _).mono ?_);rintro e w9 ⟨rfl,hb9⟩;have D7:=yH (D0.out.trans (hb9.mono D0.out.size));clear hb9)
         try go_wp2_with fail
         refine hK.out _ _ (by exact D7.out) (fun hHeld=>?_)
         clear hK K
         try simp only[Act.put,sA,sZ,sS]
         refine tk (i:=14) (oi:=⟨some 157,_,_,_,_,_⟩) (v:=?_) rfl (Or.inl ⟨by rfl,?_⟩) ?_
         rotate_left
         ·intro W hSw;have q0:=HcR.out W hSw;have q1:=HcN.out W hSw;have q2:=HcV.out W hSw;have q4:=HcD.out W hSw;have q3:=bytes_back cp (HPy.out.below hSw (yR _)) rfl hpne.out;go_simp;try (with_reducible rfl)
         try simp only[Act.put,sA,sZ,sS]
         refine tk (i:=15) (oi:=⟨some 158,_,_,_,_,_⟩) (v:=?_) rfl (Or.inl ⟨by rfl,?_⟩) ?_
         rotate_left
         ·intro W hSw;have q0:=HcR.out W hSw;have q1:=HcN.out W hSw;have q2:=HcV.out W hSw;have q4:=HcD.out W hSw;have q3:=bytes_back cp (HPy.out.below hSw (yR _)) rfl hpne.out;go_simp;try (with_reducible rfl)
         try simp only[Act.put,sA,sZ,sS]
         refine tk (i:=16) (oi:=⟨some 24,_,_,_,_,_⟩) (v:=?_) rfl (Or.inl ⟨by rfl,?_⟩) ?_
         rotate_left
         ·intro W hSw;have q0:=HcR.out W hSw;have q1:=HcN.out W hSw;have q2:=HcV.out W hSw;have q4:=HcD.out W hSw;have q3:=bytes_back cp (HPy.out.below hSw (yR _)) rfl hpne.out;go_simp;try (with_reducible rfl)
         try simp only[Act.put,sA,sZ,sS]
         refine wpAnyH_done (by kernel_rfl) ?_ _
         refine NoPanic.normal ?_
         have SK:=yH (hby.out.trans (D7.out.mono hby.out.size))
         go_wp2_with fail
         go_roundw
         case rel=>exact⟨y+1,hyl,by first|rfl|(congr 1<;>omega),by rw[HSt.out];simp,SK⟩
         case measure=>simp[natV];omega
       ·have dd3:decide ((y:Int)<(nr:Int))=false:=by simp;omega
        have hyn:y=nr:=by omega
        subst hyn
        have hfull:L.take y=L:=List.take_of_length_le (by omega)
        rw[hfull]
        have By:=yH (hB.out.trans (hby.out.mono hB.out.size))
        have Oy:=yH (hO.out.kept hby.out (yR _))
        have Qy:=yH (hQ.out.below hby.out)
        have HRy:=yH (HRx.out wy By.out)
        cases hb:decide (pl∈L.map fun q=>pay q.1 q.2)with
        |true=>
         have HW:=yH (HNo.out (by rw[HHas.out];exact hb))
         clear hb
         go_wp2_with fail
         go_roundw
         case rel=>exact⟨x+1,m2,A2,c2,ys,hxl,rfl,rfl,by rw[HW.out];exact hml,Oy,by rw[HW.out];exact Qy,By⟩
         case measure=>simp[natV];omega
        |false=>
         have HW:=yH (HYe.out (by rw[HHas.out];exact hb))
         have hml':=yH (show(wantL pl b0 rs (x+1)).length=m2+1 by rw[HW.out,List.length_append,hml.out];rfl)
         clear hb
         rw[HW.out]at hml'
         generalize hrp:rowP b0 x (rs.getD x ([],0,0,fun _=>0))=q at*
         obtain⟨sq,real,mono,K,kk,pl2⟩:=q
         dsimp only at*
         have HRg:=yH HRy.out.1
         have HO3:=yH (OwnE.alloc Oy.out (.cells (recL sq real mono K (.slice F kk cf)).toArray 74))
         have HOn:=yH (Nu.recL_one sq real mono K F kk cf)
         have b3a:=yH ((Below.refl wy.heap.size wy).alloc (yR _) (.cells (recL sq real mono K (.slice F kk cf)).toArray 74))
         have Q3:=yH (Qy.out.snoc ⟨sq,real,mono,K,kk,pl2⟩ (c:=cf) HOkf.out HRy.out.2 (fun b off e hn=>by
          have h1:=HFo.out b off e hn
          exact⟨yL h1 By.out.size,fun ha=>by have:=(Dc.OwnE.ltB Oy.out b ha).1;omega⟩))
         dsimp only at Q3
         clear HRx HNo HYe HHas
         go_wp2_with(first
          |((with_reducible apply at_slot 165);refine wpList_load_mid rfl 74 (.tmp 164) rfl bR (x*20) rfl (recL sq real mono K (.slice F kk cf)) _ HRg.out Tryz.underlying74 rfl (recInfo _ _ _ _ _) ?_)
          |(at_builtin;refine wpList_append_new recElt rfl (.tmp 161) (.tmp 166) rfl w10.heap.size A2 m2 c2 ys rfl HO3.out ⟨wy.heap.size,0,none⟩ 1 1 (recL sq real mono K (.slice F kk cf)) rfl rfl (Blk.news (Blk.new wy _ _)) HOn.out (by omega) (by omega) (by unfold maxLen;omega) ?_;intro A6 c6 w6 ho6 hg6 hat6;have O6:=yH ho6;have G6:=yH hg6;have T6:=yH hat6;clear ho6 hg6 hat6)
          |fail)
         have Q6:=yH ((Q3.out.below b3a.out).step (KeptF.grow _ G6.out) (fun b _ h=>h) (A':=A6) (fun b hb h=>by
          rcases T6.out with h1|⟨h1,_⟩
          ·rw[←h1];exact h
          ·rw[h1]at h
           injection h with h
           simp only[World.alloc,Array.size_push]at h hb
           omega))
         have B6:=yH ((By.out.trans (b3a.out.mono By.out.size)).trans (Own8.below_grown G6.out (by have:=HO3.out.1;omega) (fun b hb=>(Dc.OwnE.ltB HO3.out b hb).1)))
         go_roundw
         case rel=>exact⟨x+1,m2+1,A6,c6,_,hxl,rfl,rfl,by rw[HW.out];exact hml',O6,by rw[HW.out];exact Q6,B6⟩
         case measure=>simp[natV];omega
     ·have dd1:decide ((x:Int)<(n:Int))=false:=by simp;omega
      have hxn:x=n:=by omega
      subst hxn
      have HFr:=yH (HF10.out.below hB.out)
      have HRe:=yH (records_any HFr.out)
      unfold Gathered at HRe
      rw[HG1.out]at HRe
      have HL:=yH fun(W:World) (hW:Below wr.heap.size wr W)=>len_any (HFr.out.below hW)
      obtain⟨fl,hfl⟩: ∃fl,(List.range rs.length).filter (fun i=> !hasB pl (rs.getD i ([],0,0,fun _=>0)))=fl:=⟨_,rfl⟩
      have hflm: ∀i∈fl,i<rs.length∧hasB pl (rs.getD i ([],0,0,fun _=>0))=false:=fun i hi=>by
       rw[←hfl,List.mem_filter,List.mem_range]at hi
       exact⟨hi.1,by simpa using hi.2⟩
      have hwl:wantL pl b0 rs x=fl.map fun i=>rowP b0 i (rs.getD i ([],0,0,fun _=>0)):=by
       unfold wantL
       rw[←HRl.out,hfl]
      have HFm:=yH hflm
      have hm2:fl.length=m2:=by rw[←hml.out,hwl,List.length_map]
      have hfx:fl.length≤x:=by
       have h3:=wantL_len pl b0 rs x
       rw[hwl,List.length_map]at h3
       exact h3
      rw[hfl]at HRe
      rw[hwl]at hQ
      clear hfl hflm hwl HG1 hml HRow HRa HLn HF10 HPw HX10 HKk hx hxl
      generalize hjR:(fun i=>jR (hdOf (spL m 1 ka j v)) (spL m 1 ka j v) m.b.length (toI mi) i)=jf at*
      have HG3:=yH (show ∀i∈fl,SameP (jf i) (rowP b0 i (rs.getD i ([],0,0,fun _=>0)))from fun i hi=>by
       obtain⟨h1,h1b⟩:=HFm.out i hi
       have h2:rs.getD i ([],0,0,fun _=>0)=rs[i]'h1:=by rw[List.getD_eq_getElem?_getD,List.getElem?_eq_getElem h1];rfl
       rw[h2]at h1b⊢
       rw[←hjR]
       exact HG2.out i h1 h1b)
      clear HG2 HFm hjR
      have B11:=yH (Bw.out.trans (hB.out.mono Bw.out.size))
      have HLs:=HRl.out
      go_upto_region 35 with(first
       |(go_at_call 33;((refine HRe.out.mono ?_);rintro e w5 ⟨A5,m5,c5,zs,B0,rfl,hm5,ho5,hq5,hb5⟩;have B5:=yH (B11.out.trans (hb5.mono B11.out.size));have b5:=yH hb5;have HM5:=yH hm5;have HRow5:=yH (fun i hi=>rowAt_recs ho5 hq5 i hi);clear ho5 hq5 hb5 hm5))
       |fail)
      have hm:m5=m2:=by have:=HM5.out;rw[List.length_map]at this;omega
      subst hm
      have HRowQ:=yH (fun i hi=>rowAt_recs (hO.out.kept b5.out (yR _)) (hQ.out.below b5.out) i hi)
      have hnx:x≤15:=hn15
      have hflx:fl.length≤1000000:=by omega
      have HSr:=yH (samerows_yes A5 A2 m5 c5 c2 (fun i=>(fl.map jf).getD i Ji.dP) (fun i=>(fl.map fun i=>rowP b0 i (rs.getD i ([],0,0,fun _=>0))).getD i Ji.dP) w5 (fun i hi=>by
       have h1:i<(fl.map jf).length:=by rw[List.length_map];omega
       have q:=HRow5.out i h1
       rw[List.getD_eq_getElem?_getD,List.getElem?_eq_getElem h1]
       exact q) (fun i hi=>by
       have h1:i<(fl.map fun i=>rowP b0 i (rs.getD i ([],0,0,fun _=>0))).length:=by rw[List.length_map];omega
       have q:=HRowQ.out i h1
       rw[List.getD_eq_getElem?_getD,List.getElem?_eq_getElem h1]
       exact q) (fun i hi=>by
       have h1:i<fl.length:=by omega
       have q:=HG3.out _ (List.getElem_mem h1)
       rw[List.getD_eq_getElem?_getD,List.getElem?_map,List.getD_eq_getElem?_getD,List.getElem?_map,List.getElem?_eq_getElem h1]
       exact q) (by omega))
      have HL5:=yH fun(W:World) (hW:Below w5.heap.size w5 W)=>HL.out W (b5.out.trans (hW.mono b5.out.size))
      have hee:((x:Int)==(x:Int))=true:=by simp
      clear HRe HRow5 HRowQ HG3 HL
      go_wp2_with(first
       |(go_at_call 34;((refine HSr.out.mono ?_);rintro e w6 ⟨rfl,hb6⟩;have b6:=yH hb6;have B6:=yH (B5.out.trans (hb6.mono B5.out.size));clear hb6))
       |(go_at_call 35;((refine(HL5.out _ b6.out).mono ?_);rintro e y1 ⟨rfl,rfl⟩))
       |fail)
      go_ret
      exact⟨rfl,B6.out⟩
  ·have dz:(bc !=0)=false:=by simp[hz]
   have dm:((mp:Int)==0)=true:=by simp;omega
   clear hz hm0 HDo
   go_wp2_with fail
   go_ret
   exact⟨rfl,B6.out⟩
 ·have dz:(bc !=0)=true:=by simp[hz]
  clear hz HDo
  go_wp2_with fail
  go_ret
  exact⟨rfl,B6.out⟩
theorem walk (a:Option Addr)(len cap:Nat)(z:List Int)(wh at_ by_:Int)(w:World)(h:IsRow .i64 w a len cap z)(hw:(Lit.int .i64 wh).wf=true)(ha:(Lit.int .i64 at_).wf=true)(hy:(Lit.int .u8 by_).wf=true):
 Calls Tryz.prog 7 #[.slice a len cap,.int .i64 wh,.int .i64 at_,.int .u8 by_] w fun e w'=>e= .returned (.bool true)∧Below w.heap.size w w':=by
 obtain⟨hI,h2,h3⟩:=ints_in h
 have hy0:0≤by_∧by_<256:=by
  simp[Lit.wf,IntKind.min,IntKind.max,IntKind.signed,IntKind.bits]at hy
  omega
 by_cases h1:len≤150∧0<by_
 ·exact walk_main a len cap _ wh at_ by_ w hI h1.1 ⟨h1.2,hy0.2⟩
 ·clear hw ha hy
  by_cases h6:len≤150
  ·have d1:decide ((150:Int)<(len:Int))=false:=by simp;omega
   have e0:by_=0:=by omega
   subst e0
   clear h hI
   go_enter Tryz.func7,Tryz.ntmps7
   go_wp2_with(go_at_call 26;((with_reducible refine(first_jfile _).mono ?_);rintro e w1 ⟨rfl,hb1⟩;have B1:=yH hb1;clear hb1))
   go_ret
   exact⟨rfl,B1.out⟩
  ·have d1:decide ((150:Int)<(len:Int))=true:=by simp;omega
   clear h hI
   go_enter Tryz.func7,Tryz.ntmps7
   go_wp2_with(go_at_call 26;((with_reducible refine(first_jfile _).mono ?_);rintro e w1 ⟨rfl,hb1⟩;have B1:=yH hb1;clear hb1))
   go_ret
   exact⟨rfl,B1.out⟩
end JfileSpoiltW
end Go.Proofs.YtiddkgcafpaekaaGreat
