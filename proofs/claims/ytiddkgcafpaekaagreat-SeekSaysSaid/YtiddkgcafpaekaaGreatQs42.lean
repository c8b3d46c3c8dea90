/-
  Texts beneath the proof.
-/
import Derived.Test.YtiddkgcafpaekaaGreatQs41
set_option linter.unusedVariables false
set_option linter.unusedSimpArgs false
set_option maxRecDepth 100000
set_option maxHeartbeats 8000000
open Go.ChangeShapes Go.WideShapes Go.ChangeAt Go.RowKit
namespace Go.Proofs.YtiddkgcafpaekaaGreat
namespace Jj
open Bytes8 Blk8 Own8 OwnE Rows2 Ob Ga Gb Gf Gj Ma Na Np Nr Ns Nt Rc Rn Rr Va Vc Vd Wa Ls Pr8 Ja Jd
open Go1 (hcode)
open Nh (intE)
open Dc (wpList_append_elt_at)
open Yg (res_row)
structure FileR (w:World)(gf gv:Nat)(h:HD)(d:Int)(A:Option Addr)(E c:Nat)(l:List Int)(P:Option Addr)(n cp:Nat)(out:List Int)(cd:Int):Prop where
 blk:Blk w gf [.pointer (some ⟨gv,0,none⟩),.slice P n cp,.int .i64 cd] 182
 view:ViewR w gv h d A E c l
 ints:InInts .u64 w P n (fun i=>out.getD i 0)
 len:out.length=n
 nn: ∀y∈out,0≤y∧y≤18446744073709551615
 nb:n≤800000
theorem FileR.below {w w':World}{gf gv:Nat}{h:HD}{d:Int}{A:Option Addr}{E c:Nat}{l:List Int}{P:Option Addr}{n cp:Nat}{out:List Int}{cd:Int}(f:FileR w gf gv h d A E c l P n cp out cd)(hb:Below w.heap.size w w'):FileR w' gf gv h d A E c l P n cp out cd:=
 ⟨f.blk.below hb f.blk.lt,f.view.below hb,f.ints.below hb,f.len,f.nn,f.nb⟩
def ROpened (l:List Int)(E:Nat)(w:World)(e:Ending)(w':World):Prop:= ∃(gf gv:Nat) (A2:Option Addr) (c2:Nat) (P:Option Addr) (k cp:Nat),e= .returned (.tuple #[.pointer (some ⟨gf,0,none⟩),.int .i64 0])∧FileR w' gf gv (hdOf l) (Ob.u8 l 248) A2 E c2 (l.take E) P k cp (chase (hdOf l) (l.take E) E ((hdOf l).N 8) 14 2 (E+1) [] ((hdOf l).N 11).toNat 0).1 (chase (hdOf l) (l.take E) E ((hdOf l).N 8) 14 2 (E+1) [] ((hdOf l).N 11).toNat 0).2∧Below w.heap.size w w'
theorem prs_off {w:World}{F:Option Addr}{pl:List PR}{g:Nat}{T:TypeId}(hp:Prs w F pl)(hz:w.heap[g]? =some (.cells zR T (0,0))): ∀b off,F=some ⟨b,off,none⟩→0<pl.length→b≠g:=fun b off e hl hbg=>by
 obtain⟨b2,off2,e2,_,h1,_⟩:=hp.2 0 hl
 rw[e]at e2
 injection e2 with e2
 injection e2 with e2 e3
 subst e2 e3 hbg
 have hc:w.cell? ⟨b,off+0*2,none⟩=(zR:Array Value)[off+0*2]? :=by simp[World.cell?,hz]
 rw[h1]at hc
 generalize off+0*2=q at hc
 have h20:q<20:=by
  rcases Nat.lt_or_ge q 20 with h|h
  ·exact h
  ·rw[Array.getElem?_eq_none (by show 20≤q;exact h)]at hc;cases hc
 rcases q with _|_|_|_|_|_|_|_|_|_|_|_|_|_|_|_|_|_|_|_|q
 all_goals first|(simp at hc;done)|omega
attribute [local irreducible] HD.cells wpList Code.wp
theorem ropen15_fine (l:List Int)(A:Option Addr)(n c:Nat)(w:World)(hb:Bytes w A l)(hL:l.length=n)(hn:n≤800000)(hc:n≤c)(hz:hcode l n=0)(E:Nat)(hE:endV (hdOf l)=(E:Int))(hEB:endB (hdOf l)=true)(hEn:E≤n)(hok:(hdOf l).Ok 21):
 Calls Tryz.prog 38 #[.slice A n c] w (ROpened l E w):=by
 have HOp:=yH (ropen_fine l A n c w hb hL hn hc hz E hE hEB hEn hok)
 unfold OpenedR at HOp
 have hAll:=hb.1
 have HF:=yH (chase_fit (h:=hdOf l) (hAll.take E) (E:=E) (n:=(hdOf l).N 8) (na:=14) (ni:=2) (E+1) [] ((hdOf l).N 11).toNat 0 (fit_nil E))
 unfold ROpened
 have hE8:E≤800000:=by omega
 clear hb hz hE hEB hok
 generalize hdOf l=H at*
 generalize Ob.u8 l 248=dp at*
 generalize l.take E=lE at*
 have HEn:=yH fun(W:World) (gv:Nat) (A2:Option Addr) (c2:Nat) (v:ViewR W gv H dp A2 E c2 lE)=>Wb.rentries_any W v
 unfold TellL at HEn
 generalize chase H lE E (H.N 8) 14 2 (E+1) [] (H.N 11).toNat 0=R at*
 obtain⟨out,cd⟩:=R
 dsimp only at*
 go_enter Tryz.func38,Tryz.ntmps38
 go_upto_region 5 with(first
  |(go_at_call 54;((refine HOp.out.mono ?_);rintro e w1 ⟨gv,A2,c2,rfl,_,hv,hb1⟩;have HV:=yH hv;have B1:=yH hb1;clear hv hb1))
  |(go_at_call 88;((refine(HEn.out _ gv A2 c2 HV.out).mono ?_);rintro e w3 ⟨hb3,P,k,cp,rfl,ho3,hl3⟩;have B3:=yH hb3;have O3:=yH ho3;have L3:=yH hl3;clear hb3 ho3 hl3))
  |fail)
 have R4:=yH (Blk.new w3 [.pointer (some ⟨gv,0,none⟩),.slice P k cp,.int .i64 cd] 182)
 have b4:=yH ((Below.refl w3.heap.size w3).alloc (yR _) (.cells #[.pointer (some ⟨gv,0,none⟩),.slice P k cp,.int .i64 cd] 182))
 have I4:=yH ((tell_ints O3.out L3.out HF.out.2).below b4.out)
 have V4:=yH ((HV.out.below B3.out).below b4.out)
 have BB:=yH ((B1.out.trans (B3.out.mono B1.out.size)).trans (b4.out.mono (Nat.le_trans B1.out.size B3.out.size)))
 have L5:=L3.out
 have F5:=HF.out
 go_wp2_with fail
 go_ret2
 refine⟨_,gv,A2,c2,P,k,cp,rfl,⟨R4.out,V4.out,I4.out,L5,F5.2,?_⟩,BB.out⟩
 have h6:=F5.1
 unfold Up at h6
 omega
theorem rrec_in {w:World}{gf gv:Nat}{h:HD}{d:Int}{A:Option Addr}{E c:Nat}{l:List Int}{P:Option Addr}{n cp:Nat}{out:List Int}{cd:Int}(f:FileR w gf gv h d A E c l P n cp out cd)(x:Nat)(hx:x<n):Calls Tryz.prog 144 #[.pointer (some ⟨gf,0,none⟩),.int .i64 (x:Int)] w (TellR (recP h l E (out.getD x 0).toNat) (rcode h l E (out.getD x 0).toNat) w):=by
 have b1:=yH ((Below.refl w.heap.size w).alloc (yR _) (.cells zR 74))
 have k0:(w.alloc (.cells zR 74)).cell? ⟨gf,0,none⟩=some (.pointer (some ⟨gv,0,none⟩)):=(b1.out.cell (p:=⟨gf,0,none⟩) f.blk.lt).trans (f.blk.cell (i:=0) rfl)
 have k1:(w.alloc (.cells zR 74)).cell? ⟨gf,1,none⟩=some (.slice P n cp):=(b1.out.cell (p:=⟨gf,1,none⟩) f.blk.lt).trans (f.blk.cell (i:=1) rfl)
 have Z1:=yH (heap_alloc_new w (.cells zR 74))
 have hs1:(w.alloc (.cells zR 74)).heap.size=w.heap.size+1:=by simp
 have d1:decide ((x:Int)<0)=false:=by simp
 have d2:decide ((n:Int)≤(x:Int))=false:=by simp;omega
 have hxi:(x:Int)<(n:Int):=by omega
 obtain⟨a,ha⟩: ∃a:Nat,out.getD x 0=(a:Int):=by
  have hx2:x<out.length:=by rw[f.len];exact hx
  have e:out.getD x 0=out[x]:=by simp[List.getElem?_eq_getElem hx2]
  have:=f.nn _ (List.getElem_mem hx2)
  exact⟨out[x].toNat,by rw[e];omega⟩
 have hAl:AllB l:=f.view.by_.1
 have hOk:=recP_ok h E (out.getD x 0).toNat hAl
 rw[ha]at hOk⊢
 rw[Int.toNat_natCast]at hOk⊢
 have HR:=yH fun(W:World) (hW:Below w.heap.size w W)=>rrecTell a W (f.view.below hW)
 have hil:P.isSome∨True:= .inr trivial
 obtain⟨bP,oP,rfl,hbP,hcP,_⟩:=f.ints x hx
 dsimp only at hcP
 rw[ha]at hcP
 have kP:(w.alloc (.cells zR 74)).cell? ⟨bP,oP+x,none⟩=some (.int .u64 (a:Int)):=(b1.out.cell (p:=⟨bP,oP+x,none⟩) hbP).trans hcP
 have hgf:=f.blk.lt
 unfold TellR at HR⊢
 have HOk:=yH hOk
 clear f hOk hcP hil
 generalize recP h l E a=R at*
 generalize rcode h l E a=cd2 at*
 obtain⟨rs,rr,rm,rK,rn,rpl⟩:=R
 dsimp only at*
 go_enter Tryz.func144,Tryz.ntmps144
 go_upto_region 3 with fail
 generalize hW1:w.alloc (.cells zR 74)=W1 at*
 have HS:=yH fun(W:World) (hW:Below W1.heap.size W1 W)=>show W.cell? ⟨gf,0,none⟩=some (.pointer (some ⟨gv,0,none⟩))∧W.cell? ⟨gf,1,none⟩=some (.slice (some ⟨bP,oP,none⟩) n cp)∧W.cell? ⟨bP,oP+x,none⟩=some (.int .u64 (a:Int))from
  ⟨(hW.cell (p:=⟨gf,0,none⟩) (by show gf<_;omega)).trans k0,(hW.cell (p:=⟨gf,1,none⟩) (by show gf<_;omega)).trans k1,(hW.cell (p:=⟨bP,oP+x,none⟩) (by show bP<_;omega)).trans kP⟩
 have D1:=yH (show Below W1.heap.size W1 W1.drew from(Below.refl W1.heap.size W1).drew)
 refine wp_region_noPanic ?_
 refine wp_region_held_drew (S:=fun W:World=>W.cell? ⟨gf,0,none⟩=some (.pointer (some ⟨gv,0,none⟩))∧W.cell? ⟨gf,1,none⟩=some (.slice (some ⟨bP,oP,none⟩) n cp)∧W.cell? ⟨bP,oP+x,none⟩=some (.int .u64 (a:Int))) (by kernel_rfl) (by exact HS.out _ D1.out) (fun hHeld=>?_)
 refine tk (i:=0) (oi:=⟨some 18,_,_,_,_,_⟩) (v:=?_) rfl (Or.inl ⟨by rfl,?_⟩) ?_
 rotate_left
 ·intro W hSw;obtain⟨s1,s2,s3⟩:=hSw;go_simp;try (with_reducible rfl)
 try simp only[Act.put,sA,sZ,sS]
 refine tk (i:=1) (oi:=⟨some 19,_,_,_,_,_⟩) (v:=?_) rfl (Or.inl ⟨by rfl,?_⟩) ?_
 rotate_left
 ·intro W hSw;obtain⟨s1,s2,s3⟩:=hSw;go_simp;try (with_reducible rfl)
 try simp only[Act.put,sA,sZ,sS]
 refine tk (i:=2) (oi:=⟨some 20,_,_,_,_,_⟩) (v:=?_) rfl (Or.inl ⟨by rfl,?_⟩) ?_
 rotate_left
 ·intro W hSw;obtain⟨s1,s2,s3⟩:=hSw;go_simp;try (with_reducible rfl)
 try simp only[Act.put,sA,sZ,sS]
 refine tk (i:=3) (oi:=⟨some 21,_,_,_,_,_⟩) (v:=?_) rfl (Or.inl ⟨by rfl,?_⟩) ?_
 rotate_left
 ·intro W hSw;obtain⟨s1,s2,s3⟩:=hSw;go_simp;try (with_reducible rfl)
 try simp only[Act.put,sA,sZ,sS]
 refine tk (i:=4) (oi:=⟨some 22,_,_,_,_,_⟩) (v:=?_) rfl (Or.inl ⟨by rfl,?_⟩) ?_
 rotate_left
 ·intro W hSw;obtain⟨s1,s2,s3⟩:=hSw;go_simp;try (with_reducible rfl)
 try simp only[Act.put,sA,sZ,sS]
 refine tk (i:=5) (oi:=⟨some 23,_,_,_,_,_⟩) (v:=?_) rfl (Or.inl ⟨by rfl,?_⟩) ?_
 rotate_left
 ·intro W hSw;obtain⟨s1,s2,s3⟩:=hSw;go_simp;try (with_reducible rfl)
 try simp only[Act.put,sA,sZ,sS]
 refine tk (i:=6) (oi:=⟨some 24,_,_,_,_,_⟩) (v:=?_) rfl (Or.inl ⟨by rfl,?_⟩) ?_
 rotate_left
 ·intro W hSw;obtain⟨s1,s2,s3⟩:=hSw;go_simp;try (with_reducible rfl)
 try simp only[Act.put,sA,sZ,sS]
 refine tk (i:=7) (oi:=⟨some 25,_,_,_,_,_⟩) (v:=?_) rfl (Or.inl ⟨by rfl,?_⟩) ?_
 rotate_left
 ·intro W hSw;obtain⟨s1,s2,s3⟩:=hSw;go_simp;try (with_reducible rfl)
 try simp only[Act.put,sA,sZ,sS]
 refine tk (i:=8) (oi:=⟨some 26,_,_,_,_,_⟩) (v:=?_) rfl (Or.inl ⟨by rfl,?_⟩) ?_
 rotate_left
 ·intro W hSw;obtain⟨s1,s2,s3⟩:=hSw;go_simp;try (with_reducible rfl)
 try simp only[Act.put,sA,sZ,sS]
 refine tk (i:=9) (oi:=⟨some 27,_,_,_,_,_⟩) (v:=?_) rfl (Or.inl ⟨by rfl,?_⟩) ?_
 rotate_left
 ·intro W hSw;obtain⟨s1,s2,s3⟩:=hSw;go_simp;try (with_reducible rfl)
 try simp only[Act.put,sA,sZ,sS]
 refine tk (i:=10) (oi:=⟨some 28,_,_,_,_,_⟩) (v:=?_) rfl (Or.inl ⟨by rfl,?_⟩) ?_
 rotate_left
 ·intro W hSw;obtain⟨s1,s2,s3⟩:=hSw;go_simp;try (with_reducible rfl)
 try simp only[Act.put,sA,sZ,sS]
 refine wpAnyH_ready (rs:=[11]) (by kernel_rfl) (by simp) ?_
 refine AllReadyH.cons (o:=⟨some 29,_,_,_,_,_⟩) rfl (fun KK hKK=>?_) AllReadyH.nil
 go_simp
 ((refine(HR.out _ (b1.out.trans (D1.out.mono (by omega)))).mono ?_);rintro e w2 ⟨F,c2,rfl,hp,hb2⟩;have HP:=yH hp;have b2:=yH (D1.out.trans (hb2.mono D1.out.size));have Z2:=yH ((b2.out.block w.heap.size (by omega)).trans Z1.out);clear hp hb2)
 try go_wp2_with fail
 refine hKK.out _ _ (by exact(HS.out _ b2.out)) (fun hHeld=>?_)
 clear hKK KK
 try simp only[Act.put,sA,sZ,sS]
 refine tk (i:=12) (oi:=⟨some 30,_,_,_,_,_⟩) (v:=?_) rfl (Or.inl ⟨by rfl,?_⟩) ?_
 rotate_left
 ·intro W hSw;obtain⟨s1,s2,s3⟩:=hSw;go_simp;try (with_reducible rfl)
 try simp only[Act.put,sA,sZ,sS]
 refine tk (i:=13) (oi:=⟨some 31,_,_,_,_,_⟩) (v:=?_) rfl (Or.inl ⟨by rfl,?_⟩) ?_
 rotate_left
 ·intro W hSw;obtain⟨s1,s2,s3⟩:=hSw;go_simp;try (with_reducible rfl)
 try simp only[Act.put,sA,sZ,sS]
 refine wpAnyH_ready (rs:=[14]) (by kernel_rfl) (by simp) ?_
 refine AllReadyH.cons (o:=⟨none,_,_,_,_,_⟩) rfl (fun KK hKK=>?_) AllReadyH.nil
 split
 ·refine wp_store_row 74 (.tmp 4) (.tmp 30) rfl w.heap.size (recL rs rr rm rK (.slice F rn c2)).toArray rfl rfl 74 zR Z2.out (recInfo _ _ _ _ _) rfl (by simp[Value.oneCell']) ?_
  have bF:=yH (below_setRow (b1.out.trans (b2.out.mono (by omega))) (yR w.heap.size) (recL rs rr rm rK (.slice F rn c2)).toArray)
  refine hKK.out _ _ (by
   obtain⟨q1,q2,q3⟩:=HS.out _ b2.out
   exact⟨(World.cell?_of_block (a:=⟨gf,0,none⟩) (setRow_other _ _ _ _ (show gf≠w.heap.size by omega))).trans q1,(World.cell?_of_block (a:=⟨gf,1,none⟩) (setRow_other _ _ _ _ (show gf≠w.heap.size by omega))).trans q2,(World.cell?_of_block (a:=⟨bP,oP+x,none⟩) (setRow_other _ _ _ _ (show bP≠w.heap.size by omega))).trans q3⟩) (fun hHeld=>?_)
  clear hKK KK
  try simp only[Act.put,sA,sZ,sS]
  refine tk (i:=15) (oi:=⟨some 5,_,_,_,_,_⟩) (v:=?_) rfl (Or.inl ⟨by rfl,?_⟩) ?_
  rotate_left
  ·intro W hSw;obtain⟨s1,s2,s3⟩:=hSw;go_simp;try (with_reducible rfl)
  try simp only[Act.put,sA,sZ,sS]
  refine wpAnyH_done (by kernel_rfl) ?_ _
  refine NoPanic.normal ?_
  go_wp2_with fail
  refine bodyPost_ret (v:= .tuple #[.agg (recL rs rr rm rK (.slice F rn c2)).toArray,.int .i64 cd2]) (by exact res_row Tryz.results144 _ _ w.heap.size 74 _ (0,0) _ _ rfl rfl (setRow_heap _ _ _ _ _ (0,0) Z2.out) Tryz.underlying74 rfl (recInfo _ _ _ _ _)) rfl ?_
  refine⟨F,⟨c2,rfl⟩,?_,bF.out⟩
  rcases Nat.eq_zero_or_pos rpl.length with h0|h0
  ·rw[List.eq_nil_of_length_eq_zero h0]
   exact Prs.nil _ _
  ·exact HP.out.keptB (by rw[setRow_size];exact yR _) fun b off e hb=>setRow_other _ _ _ _ (prs_off HP.out Z2.out b off e h0)
 ·next hno=>exact absurd (by rfl) hno
theorem rgood_any {w:World}{gf gv:Nat}{h:HD}{d:Int}{A:Option Addr}{E c:Nat}{l:List Int}{P:Option Addr}{n cp:Nat}{out:List Int}{cd:Int}(f:FileR w gf gv h d A E c l P n cp out cd):
 Calls Tryz.prog 143 #[.pointer (some ⟨gf,0,none⟩)] w fun e w'=> ∃A1 m c1,e= .returned (.slice A1 m c1)∧OwnE 3 1 w' w.heap.size A1 m c1 (ints (goodL h l E out n))∧(goodL h l E out n).length=m∧Below w.heap.size w w':=by
 have k1:=f.blk.cell (i:=1) rfl
 have hgf:=yH f.blk.lt
 have hn8:=f.nb
 have HR:=yH fun(x:Nat) (hx:x<n) (W:World) (hW:Below w.heap.size w W)=>rrec_in (f.below hW) x hx
 have hsp:=fun k=>goodR_spec (jC h l E out) (fun x=>(jR h l E out x).s) k
 unfold goodL
 have hC: ∀x,jC h l E out x=rcode h l E (out.getD x 0).toNat:=fun _=>rfl
 have hR: ∀x,jR h l E out x=recP h l E (out.getD x 0).toNat:=fun _=>rfl
 simp only[←hC,←hR]at HR
 clear f hC hR
 generalize hS:(fun x=>(jR h l E out x).s)=S at*
 generalize jR h l E out=R at*
 generalize jC h l E out=C at*
 unfold TellR at HR
 have Hsp:=yH hsp
 clear hsp
 go_enter Tryz.func143,Tryz.ntmps143
 go_wp2_with fail
 go_loopw [3,4,5] (fun s g i wr=> ∃(k m:Nat) (A1:Option Addr) (c1:Nat),k≤n∧s= .slice A1 m c1∧g= .int .u64 (goodR C S k).2∧i= .int .i64 (k:Int)∧Hid (OwnE 3 1 wr w.heap.size A1 m c1 (ints (goodR C S k).1))∧Hid ((goodR C S k).1.length=m)∧Hid (Below w.heap.size w wr)) (fun _ _ i _=>n-Rn.natOf i)
 case atStart=>exact⟨0,0,none,0,Nat.zero_le _,rfl,rfl,rfl,yH (OwnE.nil w w.heap.size (yR _)),yH rfl,yH (Below.refl _ _)⟩
 case round=>
  obtain⟨k,m,A1,c1,hk,rfl,rfl,rfl,hO,hL,hB⟩:=hrel
  have k1r:wr.cell? ⟨gf,1,none⟩=some (.slice P n cp):=(hB.out.cell (p:=⟨gf,1,none⟩) hgf.out).trans k1
  by_cases hlt:k<n
  ·have dd1:decide ((k:Int)<(n:Int))=true:=by simp;omega
   have hw1:IntKind.i64.wrap ((k:Int)+1)=((k+1:Nat):Int):=by rw[IntKind.wrap_i64];omega
   have HR1:=yH (HR.out k hlt wr hB.out)
   have hm:=(Hsp.out k).2.1
   have hmL:=hL.out
   have hstep:=yH (goodR_yes (C:=C) (S:=S) (k:=k))
   have hskip:=yH (goodR_no (C:=C) (S:=S) (k:=k))
   have hSk:S k=(R k).s:=by rw[←hS]
   rw[hSk]at hstep hskip
   clear HR Hsp hSk
   generalize goodR C S k=q at*
   obtain⟨L,gr⟩:=q
   dsimp only at hO hL hm hmL hstep hskip
   generalize C k=ck at*
   generalize R k=r at*
   obtain⟨rs,rr,rm,rK,rn,rpl⟩:=r
   dsimp only at HR1 hstep hskip
   clear hS
   go_upto_region 7 with(first
    |(go_at_call 144;(refine HR1.out.mono ?_);rintro e w2 ⟨F,c2,rfl,_,hb2⟩;have B2:=yH (hB.out.trans (hb2.mono hB.out.size));have O2:=yH (hO.out.kept hb2 (yR _));clear hb2)
    |((with_reducible apply at_store (.tmp 6) (.tmp 21));refine wpList_store_row rfl 74 (.tmp 6) (.tmp 21) rfl w2.heap.size (recL rs rr rm rK (.slice F rn c2)).toArray rfl rfl 74 zR (heap_alloc_new w2 _) (recInfo _ _ _ _ _) rfl (by simp[Value.oneCell']) ?_)
    |fail)
   have R3:=yH (show Blk ((w2.alloc (.cells zR 74)).setRow w2.heap.size (recL rs rr rm rK (.slice F rn c2)).toArray) w2.heap.size (recL rs rr rm rK (.slice F rn c2)) 74 from setRow_heap _ _ _ _ _ (0,0) (heap_alloc_new w2 _))
   have b3:=yH (show Below w2.heap.size w2 ((w2.alloc (.cells zR 74)).setRow w2.heap.size (recL rs rr rm rK (.slice F rn c2)).toArray)from below_setRow ((Below.refl _ _).alloc (yR _) _) (yR _) _)
   have O3:=yH (O2.out.kept b3.out (yR _))
   have hg4:=yH (fun k hk=>(show k<w2.heap.size from(Dc.OwnE.ltB O2.out k hk).2))
   have B3:=yH (B2.out.trans (b3.out.mono B2.out.size))
   clear b3 HR1 hO
   generalize (w2.alloc (.cells zR 74)).setRow w2.heap.size (recL rs rr rm rK (.slice F rn c2)).toArray=w3 at*
   have hgw:=B2.out.size
   clear O2 B2
   generalize w2.heap.size=g2 at*
   have k0:w3.cell? ⟨g2,0,none⟩=some (.int .u64 rs):=R3.out.cell (i:=0) rfl
   by_cases hcd:ck=0
   ·subst hcd
    by_cases hg:gr<rs
    ·have e1:=hstep.out ⟨rfl,hg⟩
     have HE1:=yH e1
     have d1:decide (gr<rs)=true:=by simp;omega
     have R3a:=yH (R3.out.alloc (.cells #[.int .i64 (k:Int)] 3))
     clear hstep hskip hg e1
     go_upto_region 9 with(first
      |(at_builtin;refine wpList_append_elt_at intE rfl (.tmp 31) (.tmp 33) rfl w.heap.size A1 m c1 (ints L) rfl (OwnE.alloc O3.out _) ⟨w3.heap.size,0,none⟩ 1 1 [.int .i64 (k:Int)] rfl rfl (Blk.news (Blk.new w3 [.int .i64 (k:Int)] 3)) (by intro u hu;simp at hu;subst hu;rfl) (by omega) (by omega) (by unfold maxLen;omega) ?_;intro A6 c6 w6 ho6 hg6 hat6;have O6:=yH ho6;have G6:=yH hg6;clear ho6 hg6 hat6)
      |fail)
     have B6:=yH ((B3.out.alloc B3.out.size (.cells #[.int .i64 (k:Int)] 3)).trans (Own8.below_grown G6.out (by have:=B3.out.size;simp;omega) (fun k hk=>(Dc.OwnE.ltB O3.out k hk).1)))
     have k6:w6.cell? ⟨g2,0,none⟩=some (.int .u64 rs):=(World.cell?_of_block (a:=⟨g2,0,none⟩) (G6.out.block g2 R3a.out.lt (fun e=>by have h2:=hg4.out g2 e.symm;omega))).trans (R3a.out.cell (i:=0) rfl)
     go_wp2_with fail
     go_roundw
     case rel=>exact⟨k+1,m+1,A6,c6,hlt,rfl,by rw[HE1.out],rfl,yH (by rw[HE1.out,ints_snoc];exact O6.out),yH (by rw[HE1.out,List.length_append,List.length_singleton,hmL]),B6⟩
     case measure=>simp[Rn.natOf];omega
    ·have e1:=hskip.out (fun h=>hg h.2)
     have HE1:=yH e1
     have d1:decide (gr<rs)=false:=by simp;omega
     clear hstep hskip hg e1
     go_wp2_with fail
     go_roundw
     case rel=>exact⟨k+1,m,A1,c1,hlt,rfl,by rw[HE1.out],rfl,yH (by rw[HE1.out];exact O3.out),yH (by rw[HE1.out];exact hmL),B3⟩
     case measure=>simp[Rn.natOf];omega
   ·have e1:=hskip.out (fun h=>hcd h.1)
    have HE1:=yH e1
    have d0:decide (ck=0)=false:=by simpa using hcd
    have d1:(ck==0)=false:=by simpa using hcd
    clear hstep hskip hcd e1
    go_wp2_with fail
    go_roundw
    case rel=>exact⟨k+1,m,A1,c1,hlt,rfl,by rw[HE1.out],rfl,yH (by rw[HE1.out];exact O3.out),yH (by rw[HE1.out];exact hmL),B3⟩
    case measure=>simp[Rn.natOf];omega
  ·have dd1:decide ((k:Int)<(n:Int))=false:=by simp;omega
   have hkn:k=n:=by omega
   subst hkn
   go_wp2_with fail
   go_ret
   exact⟨A1,m,c1,rfl,hO.out,hL.out,hB.out⟩
end Jj
namespace Zk
open Rd (dcode dz)
open Ri (ecode9)
end Zk
end Go.Proofs.YtiddkgcafpaekaaGreat
