/-
  Texts beneath.
-/
import Derived.Test.YteaikbodkgjkdaaGreatQl42
set_option linter.unusedVariables false
set_option linter.unusedSimpArgs false
set_option maxRecDepth 100000
set_option maxHeartbeats 4000000
open Go.ChangeShapes Go.WideShapes Go.ChangeAt Go.RowKit
namespace Go.Proofs.YteaikbodkgjkdaaGreat
namespace Skf
open Bytes8 Blk8 Own8 OwnM OwnE Rows2 Ob Od Ga Gb Gf Gj Ma Kf Mh Na Np Nr Ns Nt Nu Rc Rn Rp Rr Va Wa Ls Pr8 Dc Zg Zj Zl Ja Jb Jd Je Jj Ska Skc Skd
open Go1 (hcode)
open Yg (NewIn)
def RowsN (xs:List Value)(k:Nat)(Q:Nat→RecP):Prop:=xs.length=20*k∧ ∀i,i<k→ ∃F cc,(xs.drop (20*i)).take 20=recL (Q i).s (Q i).r (Q i).m (Q i).K (.slice F (Q i).n cc)
theorem RowsN.nil (Q:Nat→RecP):RowsN [] 0 Q:=⟨rfl,fun i h=>absurd h (Nat.not_lt_zero i)⟩
theorem RowsN.snoc {xs:List Value}{k:Nat}{Q:Nat→RecP}(h:RowsN xs k Q){r:RecP}(hr:Q k=r)(F:Option Addr)(cc:Nat):RowsN (xs++recL r.s r.r r.m r.K (.slice F r.n cc)) (k+1) Q:=by
 subst hr
 obtain⟨h1,h2⟩:=h
 have hl:(recL (Q k).s (Q k).r (Q k).m (Q k).K (.slice F (Q k).n cc)).length=20:=rfl
 refine⟨by rw[List.length_append,hl,h1];omega,fun i hi=>?_⟩
 by_cases hk:i<k
 ·obtain⟨F2,c2,e⟩:=h2 i hk
  refine⟨F2,c2,?_⟩
  rw[List.drop_append_of_le_length (by omega),List.take_append_of_le_length (by rw[List.length_drop];omega)]
  exact e
 ·have e:i=k:=by omega
  subst e
  refine⟨F,cc,?_⟩
  rw[List.drop_append,List.drop_of_length_le (by omega),List.nil_append,h1,Nat.sub_self,List.drop_zero,List.take_of_length_le (by rw[hl];exact yR _)]
def RecsTold (m:Nat)(Q:Nat→RecP)(w:World)(e:Ending)(w':World):Prop:= ∃A c xs B,e= .returned (.slice A m c)∧OwnE 64 20 w' B A m c xs∧RowsN xs m Q∧Below w.heap.size w w'
attribute [local irreducible] HD.cells wpList Code.wp
theorem aGQ {w:World}{gf gv:Nat}{h:HD}{d:Int}{A:Option Addr}{E c:Nat}{l:List Int}{P:Option Addr}{n cp:Nat}{out:List Int}{cd:Int}(f:FileR w gf gv h d A E c l P n cp out cd):
 Calls Tryz.prog 75 #[.pointer (some ⟨gf,0,none⟩)] w (RecsTold (goodL h l E out n).length (rK h l E out n) w):=by
 have hn8:=f.nb
 have HG:=yH (aLJ f)
 have HR:=yH fun(x:Nat) (hx:x<n) (W:World) (hW:Below w.heap.size w W)=>aLI (f.below hW) x hx
 have hsp:=(aAR (jC h l E out) (fun x=>(jR h l E out x).s) n)
 have hgl: ∀x∈goodL h l E out n,x<n:=fun x hx=>(hsp.1 x hx).1
 have hgn:(goodL h l E out n).length≤n:=hsp.2.1
 have hRj: ∀x,jR h l E out x=recP h l E (out.getD x 0).toNat:=fun _=>rfl
 simp only[←hRj]at HR
 have hQ: ∀k,rK h l E out n k=jR h l E out ((goodL h l E out n).getD k 0):=fun _=>rfl
 have HQ:=yH hQ
 clear f hRj hsp hQ
 have Hgl:=yH hgl
 generalize rK h l E out n=Q at*
 generalize goodL h l E out n=L at*
 generalize jR h l E out=R at*
 unfold TellR at HR
 unfold RecsTold
 clear hgl
 go_enter Tryz.func75,Tryz.ntmps75
 go_upto_region 2 with(first
  |(go_at_call 52;(refine HG.out.mono ?_);rintro e w1 ⟨A1,m,c1,rfl,ho1,hl1,hb1⟩;have O1:=yH ho1;have L1:=yH hl1;have B1:=yH hb1;clear ho1 hl1 hb1)
  |fail)
 clear HG
 have hm8:m≤800000:=by have:=L1.out;omega
 have S1:=yH (Below.refl w1.heap.size w1)
 have N1:=yH (OwnE.nil (E:=64) (size:=20) w1 w1.heap.size (yR _))
 have Q1:=yH (RowsN.nil Q)
 go_wp2_with fail
 go_loopw [4,5] (fun s i wr=> ∃(k:Nat) (A2:Option Addr) (c2:Nat) (xs:List Value),k≤m∧s= .slice A2 k c2∧i= .int .i64 (k:Int)∧Hid (OwnE 64 20 wr w1.heap.size A2 k c2 xs)∧Hid (RowsN xs k Q)∧Hid (Below w1.heap.size w1 wr)) (fun _ i _=>m-Rn.natOf i)
 case atStart=>exact⟨0,none,0,[],Nat.zero_le _,rfl,rfl,N1,Q1,S1⟩
 case round=>
  obtain⟨k,A2,c2,xs,hk,rfl,rfl,hO,hQ,hB⟩:=hrel
  by_cases hlt:k<m
  ·have dd1:decide ((k:Int)<(m:Int))=true:=by simp;omega
   have hki:(k:Int)<(m:Int):=by omega
   have hw1:IntKind.i64.wrap ((k:Int)+1)=((k+1:Nat):Int):=by rw[IntKind.wrap_i64];omega
   have hkl:k<L.length:=by rw[L1.out];exact hlt
   have hxe:L.getD k 0=L[k]:=by simp[List.getElem?_eq_getElem hkl]
   obtain⟨gL,rfl,hcl⟩:=aPf (O1.out.kept hB.out (yR _)) L1.out (fun x hx=>by have:=Hgl.out x hx;omega) k hlt
   have hx2:=Hgl.out (L.getD k 0) (by rw[hxe];exact List.getElem_mem hkl)
   have HR1:=yH (HR.out (L.getD k 0) hx2 wr (B1.out.trans (hB.out.mono B1.out.size)))
   have HQk:=yH (HQ.out k)
   clear HR hxe hx2
   generalize R (L.getD k 0)=r at*
   generalize L.getD k 0=x at*
   obtain⟨rs,rr,rm,rK,rn,rpl⟩:=r
   dsimp only at HR1
   generalize rcode h l E (out.getD x 0).toNat=cdx at*
   go_upto_region 7 with(first
    |(go_at_call 96;(refine HR1.out.mono ?_);rintro e w2 ⟨F,cf,rfl,_,hb2⟩;have b2:=yH hb2;clear hb2)
    |((with_reducible apply aAa (.tmp 6) (.tmp 23));refine wpList_store_row rfl 64 (.tmp 6) (.tmp 23) rfl w2.heap.size (recL rs rr rm rK (.slice F rn cf)).toArray rfl rfl 64 zR (heap_alloc_new w2 _) (aAm _ _ _ _ _) rfl (by simp[Value.oneCell']) ?_)
    |fail)
   have R3:=yH (show Blk ((w2.alloc (.cells zR 64)).setRow w2.heap.size (recL rs rr rm rK (.slice F rn cf)).toArray) w2.heap.size (recL rs rr rm rK (.slice F rn cf)) 64 from setRow_heap _ _ _ _ _ (0,0) (heap_alloc_new w2 _))
   have b3:=yH (show Below w2.heap.size w2 ((w2.alloc (.cells zR 64)).setRow w2.heap.size (recL rs rr rm rK (.slice F rn cf)).toArray)from below_setRow ((Below.refl _ _).alloc (yR _) _) (yR _) _)
   generalize (w2.alloc (.cells zR 64)).setRow w2.heap.size (recL rs rr rm rK (.slice F rn cf)).toArray=w3 at*
   have b13:=yH (b2.out.trans (b3.out.mono b2.out.size))
   have B3:=yH (hB.out.trans (b13.out.mono hB.out.size))
   have O3:=yH (hO.out.kept b13.out (yR _))
   have Q3:=yH (hQ.out.snoc HQk.out F cf)
   dsimp only at Q3
   have HO3:=yH (OwnE.alloc O3.out (.cells (recL rs rr rm rK (.slice F rn cf)).toArray 64))
   have HOn:=yH (Nu.aIF rs rr rm rK F rn cf)
   have b3a:=yH ((Below.refl w3.heap.size w3).alloc (yR _) (.cells (recL rs rr rm rK (.slice F rn cf)).toArray 64))
   clear HR1 b2 b3 hO hQ
   generalize w2.heap.size=g2 at*
   go_wp2_with(first
    |((with_reducible apply aAb 26);refine wpList_load_row rfl 64 (.tmp 6) rfl g2 rfl 64 (recL rs rr rm rK (.slice F rn cf)).toArray (0,0) _ R3.out Tryz.underlying64 rfl (aAm _ _ _ _ _) ?_)
    |(at_builtin;refine wpList_append_new aOf rfl (.tmp 25) (.tmp 27) rfl w1.heap.size A2 k c2 xs rfl HO3.out ⟨w3.heap.size,0,none⟩ 1 1 (recL rs rr rm rK (.slice F rn cf)) rfl rfl (Blk.news (Blk.new w3 _ _)) HOn.out (by omega) (by omega) (by unfold maxLen;omega) ?_;intro A6 c6 w6 ho6 hg6 hat6;have O6:=yH ho6;have G6:=yH hg6;clear ho6 hg6 hat6)
    |fail)
   have B6:=yH ((B3.out.trans (b3a.out.mono B3.out.size)).trans (Own8.below_grown G6.out (by have:=HO3.out.1;omega) (fun b hb=>(Dc.OwnE.ltB HO3.out b hb).1)))
   go_roundw
   case rel=>exact⟨k+1,A6,c6,_,hlt,rfl,rfl,O6,Q3,B6⟩
   case measure=>simp[Rn.natOf];omega
  ·have dd1:decide ((k:Int)<(m:Int))=false:=by simp;omega
   have hkm:k=m:=by omega
   subst hkm
   have HLk:=L1.out
   go_wp2_with fail
   go_ret
   rw[HLk]
   exact⟨A2,c2,xs,w1.heap.size,rfl,hO.out,hQ.out,B1.out.trans (hB.out.mono B1.out.size)⟩
def Op16 (h:HD)(l:List Int)(E:Nat)(out:List Int)(w:World)(e:Ending)(w':World):Prop:= ∃gx A c xs B,e= .returned (.tuple #[.pointer (some ⟨gx,0,none⟩),.slice A (goodL h l E out out.length).length c])∧Idx w' gx (goodL h l E out out.length).length (rK h l E out out.length)∧OwnE 64 20 w' B A (goodL h l E out out.length).length c xs∧RowsN xs (goodL h l E out out.length).length (rK h l E out out.length)∧Below w.heap.size w w'
theorem open_fine (l:List Int)(A:Option Addr)(n c:Nat)(w:World)(hb:Bytes w A l)(hL:l.length=n)(hn:n≤800000)(hc:n≤c)(hz:hcode l n=0)(E:Nat)(hE:endV (hdOf l)=(E:Int))(hEB:endB (hdOf l)=true)(hEn:E≤n)(hok:(hdOf l).Ok 21):
 Calls Tryz.prog 31 #[.slice A n c] w (Op16 (hdOf l) (l.take E) E (chase (hdOf l) (l.take E) E ((hdOf l).N 8) 14 2 (E+1) [] ((hdOf l).N 11).toNat 0).1 w):=by
 have HOp:=yH fun(W:World) (hW:Bytes W A l)=>aE6 l A n c W hW hL hn hc hz E hE hEB hEn hok
 have HQ:=yH fun(W:World) (hW:Bytes W A l)=>aGN l A n c W hW hL hn hc hz E hE hEB hEn hok
 unfold JOpened at HOp
 unfold ROpened at HQ
 have HB:=yH hb
 clear hb hz hE hEB hok
 unfold Op16
 generalize hdOf l=H at*
 generalize Ob.u8 l 248=dp at*
 generalize chase H (l.take E) E (H.N 8) 14 2 (E+1) [] (H.N 11).toNat 0=R at*
 obtain⟨out,cd⟩:=R
 dsimp only at*
 generalize l.take E=lE at*
 have HNw:=yH fun(W:World) (gf gv:Nat) (Av:Option Addr) (cv:Nat) (Pp:Option Addr) (np cp:Nat) (f:FileAt W gf gv H Av E cv lE Pp np cp out cd)=>show Calls Tryz.prog 74 #[.pointer (some ⟨gf,0,none⟩)] W fun e w'=> ∃gx,e= .returned (.pointer (some ⟨gx,0,none⟩))∧Idx w' gx (goodL H lE E out out.length).length (rK H lE E out out.length)∧Below W.heap.size W w' from by
  have e:np=out.length:=f.len.symm
  subst e
  exact new_any f
 have HRw:=yH fun(W:World) (gf gv:Nat) (Av:Option Addr) (cv:Nat) (Pp:Option Addr) (np cp:Nat) (f:FileR W gf gv H dp Av E cv lE Pp np cp out cd)=>show Calls Tryz.prog 75 #[.pointer (some ⟨gf,0,none⟩)] W (RecsTold (goodL H lE E out out.length).length (rK H lE E out out.length) W)from by
  have e:np=out.length:=f.len.symm
  subst e
  exact aGQ f
 generalize rK H lE E out out.length=Rr at*
 generalize (goodL H lE E out out.length).length=m at*
 unfold RecsTold at HRw
 go_enter Tryz.func31,Tryz.ntmps31
 go_upto_region 2 with(first
  |(go_at_call 12;((refine(HOp.out _ HB.out).mono ?_);rintro e w4 ⟨gf,gv,Av,cv,Pp,np,cp,rfl,hf,hb4⟩;have HF4:=yH hf;have B4:=yH hb4;have HB4:=yH (HB.out.below hb4 (yR _));clear hf hb4))
  |fail)
 go_upto_region 5 with(first
  |(go_at_call 13;((refine(HQ.out _ HB4.out).mono ?_);rintro e w5 ⟨gr,gw,Aw,cw,Pq,np2,cq2,rfl,hr,hb5⟩;have HR:=yH hr;have HF:=yH (HF4.out.below hb5);have B5:=yH (B4.out.trans (hb5.mono B4.out.size));clear hr hb5))
  |fail)
 have HN:=yH (HNw.out _ _ _ _ _ _ _ _ HF.out)
 have HRs:=yH fun(W:World) (hW:Below w5.heap.size w5 W)=>HRw.out _ _ _ _ _ _ _ _ (HR.out.below hW)
 clear HOp HQ HB HB4 B4 HF4 HF HR HNw HRw
 go_wp2_with(first
  |(go_at_call 74;((refine HN.out.mono ?_);rintro e w6 ⟨gx,rfl,hx,hb6⟩;have HX:=yH hx;have b6:=yH hb6;clear hx hb6))
  |(go_at_call 75;((refine(HRs.out _ b6.out).mono ?_);rintro e w7 ⟨A7,c7,xs,B0,rfl,ho7,hr7,hb7⟩;have HX7:=yH (HX.out.below hb7);have O7:=yH ho7;have R7:=yH hr7;have B7:=yH (B5.out.trans ((b6.out.trans (hb7.mono b6.out.size)).mono B5.out.size));clear ho7 hr7 hb7))
  |fail)
 go_ret2
 exact⟨gx,A7,c7,xs,B0,rfl,HX7.out,O7.out,R7.out,B7.out⟩
theorem aDg (w:World):Calls Tryz.prog 30 #[] w fun e w'=>e= .returned (.bool true)∧Below w.heap.size w w':=by
 have HI:=yH (aOY none 0 0 (fun _=>0) 0 w (fun i hi=>absurd hi (Nat.not_lt_zero i)) (by decide) (by decide))
 unfold ImagedN at HI
 go_enter Tryz.func30,Tryz.ntmps30
 have HOp:=yH fun(m:Mk) (n:Nat) (hg:GoodN m n 0) (A:Option Addr) (c:Nat) (W:World) (B:Nat) (ho:Own8.Own W B A m.b.length c (imgB m))=>show Calls Tryz.prog 12 #[.slice A m.b.length c] W fun e w'=> ∃(gf gv:Nat) (h:HD) (A2:Option Addr) (E c2:Nat) (l:List Int) (P:Option Addr) (cp:Nat),e= .returned (.tuple #[.pointer (some ⟨gf,0,none⟩),.int .i64 0])∧FileAt w' gf gv h A2 E c2 l P 0 cp [] 0∧Below W.heap.size W w' from by
  have hI:=hg.img
  have hlens:=hI.lens
  have hL:=st_len hI 1
  obtain⟨e1,e2⟩:=aOm hI (st:=1) (by decide)
  have e8:=((aEu hI (st:=1) (by decide)).N 8 (by decide)).trans (aHS m 1 8 (by decide))
  rw[if_neg (by decide),hg.cnt,show(n:Int)=0 by have:=hg.le;omega]at e8
  refine(aE6 (stL m 1) A m.b.length c W ho.bytes hL (by omega) (aBs ho).1 (aIU hI (by decide)) m.b.length e1 e2 (yR _) (aDk ho.bytes.1 21)).mono ?_
  rintro e w' ⟨gf,gv,A2,c2,P,q,cp,rfl,hf,hb⟩
  have hcz:=aAN (hdOf (stL m 1)) ((stL m 1).take m.b.length) m.b.length 0 14 2 (m.b.length+1) [] ((hdOf (stL m 1)).N 11).toNat 0 rfl
  rw[e8,hcz]at hf
  dsimp only at hf
  have hq:q=0:=hf.len.symm
  subst hq
  exact⟨gf,gv,_,A2,_,c2,_,P,cp,rfl,hf,hb⟩
 have HNw:=yH fun(W:World) (gf gv:Nat) (h:HD) (A2:Option Addr) (E c2:Nat) (l:List Int) (P:Option Addr) (cp:Nat) (f:FileAt W gf gv h A2 E c2 l P 0 cp [] 0)=>show Calls Tryz.prog 74 #[.pointer (some ⟨gf,0,none⟩)] W fun e w'=> ∃gx R,e= .returned (.pointer (some ⟨gx,0,none⟩))∧Idx w' gx 0 R∧Below W.heap.size W w' from(new_any f).mono fun e w' ⟨gx,h1,h2,h3⟩=>⟨gx,_,h1,h2,h3⟩
 have HSq:=yH fun(W:World) (gx:Nat) (R:Nat→RecP) (x:Idx W gx 0 R)=>show Calls Tryz.prog 34 #[.pointer (some ⟨gx,0,none⟩),.int .u64 3] W fun e w'=>e= .returned (.tuple #[.int .i64 0,.int .i64 0])∧Idx w' gx 0 R∧Below W.heap.size W w' from(aHT x 3).mono fun e w' ⟨r,c,h1,h2,h3,h4⟩=>by
  have e1:r=0:=Nat.le_zero.1 h2.1
  have e2:c=0:=Nat.le_zero.1 (h3 0 (by decide))
  subst e1 e2
  exact⟨h1,x.below h4,h4⟩
 go_wp2_with(first
  |(go_at_call 11;((refine HI.out.mono ?_);rintro e w2 ⟨A,c,m,n,rfl,hg2,ho2,hb2⟩;have HG:=yH (HOp.out m n hg2 A c w2 _ ho2);have B2:=yH hb2;clear hg2 ho2 hb2))
  |(go_at_call 12;((refine HG.out.mono ?_);rintro e w3 ⟨gf,gv,h,A2,E,c2,l,P,cp,rfl,hf,hb3⟩;have B3:=yH (B2.out.trans (hb3.mono B2.out.size));have HN3:=yH (HNw.out w3 gf gv h A2 E c2 l P cp hf);clear hf hb3))
  |(go_at_call 74;((refine HN3.out.mono ?_);rintro e w4 ⟨gx,R,rfl,hx,hb4⟩;have B4:=yH (B3.out.trans (hb4.mono B3.out.size));have HS4:=yH (HSq.out w4 gx R hx);clear hx hb4))
  |(go_at_call 34;((refine HS4.out.mono ?_);rintro e w5 ⟨rfl,hx,hb5⟩;have B5:=yH (B4.out.trans (hb5.mono B4.out.size));have HL:=yH (aFN hx);clear hx hb5))
  |(go_at_call 32;((refine HL.out.mono ?_);rintro e w6 ⟨rfl,rfl⟩))
  |fail)
 go_ret
 exact⟨rfl,B5.out⟩
end Skf
namespace SeekRecordsW
open Bytes8 OwnE Ga Gb Gj Ma Mh Na Np Ns Nt Nu Rn Rp Rr Va Zg Zh Zl Seq8 Kf Jd Je Jf Ji Skc Skf
open Go1 (hcode)
attribute [local irreducible] HD.cells wpList Code.wp
theorem aLR {m:Mk}{n0:Nat}{os:List Za.O}{hs:Nat→List Nat}{mi:List Nat}{es:List (Nat×List Int)}(k:Kept m n0 os hs mi es){st:Int}(ht:0≤st∧st≤2)(A:Option Addr)(c:Nat)(w:World)(hb:Bytes w A (stL m st))(hc:m.b.length≤c):
 Calls Tryz.prog 31 #[.slice A m.b.length c] w (Op16 (hdOf (stL m st)) (stL m st) m.b.length (toI mi) w):=by
 have hI:=k.good.img
 have hlens:=hI.lens
 have hL:=st_len hI st
 obtain⟨e1,e2⟩:=aOm hI ht
 have hch:=(aNL k ht).1
 have h:=Skf.open_fine (stL m st) A m.b.length c w hb hL (by omega) hc (aIU hI ht) m.b.length e1 e2 (yR _) (aDk hb.1 21)
 rw[List.take_of_length_le (by omega),hch]at h
 exact h
theorem aLS (h:HD)(l:List Int)(E:Nat)(out:List Int)(n:Nat)(k:Nat)(hk:k<(goodL h l E out n).length):(goodRecs h l E out n).getD k dP=rK h l E out n k:=by
 unfold goodRecs rK
 rw[List.getD_eq_getElem?_getD,List.getElem?_map,List.getD_eq_getElem?_getD,List.getElem?_eq_getElem hk]
 rfl
theorem aDu (h:HD)(l:List Int)(E:Nat)(out:List Int)(n:Nat):(goodRecs h l E out n).length=(goodL h l E out n).length:=List.length_map _
end SeekRecordsW
end Go.Proofs.YteaikbodkgjkdaaGreat
