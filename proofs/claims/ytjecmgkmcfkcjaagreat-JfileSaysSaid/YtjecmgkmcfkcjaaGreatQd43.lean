/-
  Texts beneath the proof.
-/
import Derived.Test.YtjecmgkmcfkcjaaGreatQd42
set_option linter.unusedVariables false
set_option linter.unusedSimpArgs false
set_option maxRecDepth 100000
set_option maxHeartbeats 8000000
open Go.ChangeShapes Go.WideShapes Go.ChangeAt Go.RowKit
namespace Go.Proofs.YtjecmgkmcfkcjaaGreat
namespace Jj
open Bytes8 Blk8 Own8 OwnE Rows2 Ob Ga Gb Gf Gj Ma Na Np Nr Ns Nt Rc Rn Rr Va Vc Vd Wa Ls Pr8 Ja Jd
open Go1 (hcode)
open Nh (intE)
open Dc (wpList_append_elt_at)
open Yg (res_row)
structure FileR (w:World)(gf gv:Nat)(h:HD)(d:Int)(A:Option Addr)(E c:Nat)(l:List Int)(P:Option Addr)(n cp:Nat)(out:List Int)(cd:Int):Prop where
 blk:Blk w gf [.pointer (some ⟨gv,0,none⟩),.slice P n cp,.int .i64 cd] 96
 view:ViewR w gv h d A E c l
 ints:InInts .u64 w P n (fun i=>out.getD i 0)
 len:out.length=n
 nn: ∀y∈out,0≤y∧y≤18446744073709551615
 nb:n≤800000
theorem FileR.below {w w':World}{gf gv:Nat}{h:HD}{d:Int}{A:Option Addr}{E c:Nat}{l:List Int}{P:Option Addr}{n cp:Nat}{out:List Int}{cd:Int}(f:FileR w gf gv h d A E c l P n cp out cd)(hb:Below w.heap.size w w'):FileR w' gf gv h d A E c l P n cp out cd:=
 ⟨f.blk.below hb f.blk.lt,f.view.below hb,f.ints.below hb,f.len,f.nn,f.nb⟩
def ROpened (l:List Int)(E:Nat)(w:World)(e:Ending)(w':World):Prop:= ∃(gf gv:Nat) (A2:Option Addr) (c2:Nat) (P:Option Addr) (k cp:Nat),e= .returned (.tuple #[.pointer (some ⟨gf,0,none⟩),.int .i64 0])∧FileR w' gf gv (hdOf l) (Ob.u8 l 248) A2 E c2 (l.take E) P k cp (chase (hdOf l) (l.take E) E ((hdOf l).N 8) 14 2 (E+1) [] ((hdOf l).N 11).toNat 0).1 (chase (hdOf l) (l.take E) E ((hdOf l).N 8) 14 2 (E+1) [] ((hdOf l).N 11).toNat 0).2∧Below w.heap.size w w'
theorem prs_off {w:World}{F:Option Addr}{pl:List PR}{g:Nat}{T:TypeId}(hp:Prs w F pl)(hz:w.heap[g]? =some (.cells zR T (0,0))): ∀b off,F=some ⟨b,off,none⟩→0<pl.length→b≠g:=fun b off e hl hbg=>by
 obtain⟨b2,off2,e2,_,h1,_⟩:=hp.2 0 hl
 rw[e]at e2
 injection e2 with e2
 injection e2 with e2 e3
 subst e2 e3 hbg
 have hc:w.cell? ⟨b,off+0*2,none⟩=(zR:Array Value)[off+0*2]? :=by simp[World.cell?,hz]
 rw[h1]at hc
 generalize off+0*2=q at hc
 have h20:q<20:=by
  rcases Nat.lt_or_ge q 20 with h|h
  ·exact h
  ·rw[Array.getElem?_eq_none (by show 20≤q;exact h)]at hc;cases hc
 rcases q with _|_|_|_|_|_|_|_|_|_|_|_|_|_|_|_|_|_|_|_|q
 all_goals first|(simp at hc;done)|omega
attribute [local irreducible] HD.cells wpList Code.wp
theorem ropen15_fine (l:List Int)(A:Option Addr)(n c:Nat)(w:World)(hb:Bytes w A l)(hL:l.length=n)(hn:n≤800000)(hc:n≤c)(hz:hcode l n=0)(E:Nat)(hE:endV (hdOf l)=(E:Int))(hEB:endB (hdOf l)=true)(hEn:E≤n)(hok:(hdOf l).Ok 21):
 Calls Tryz.prog 43 #[.slice A n c] w (ROpened l E w):=by
 have HOp:=Lib.hid (ropen_fine l A n c w hb hL hn hc hz E hE hEB hEn hok)
 unfold OpenedR at HOp
 have hAll:=hb.1
 have HF:=Lib.hid (chase_fit (h:=hdOf l) (hAll.take E) (E:=E) (n:=(hdOf l).N 8) (na:=14) (ni:=2) (E+1) [] ((hdOf l).N 11).toNat 0 (fit_nil E))
 unfold ROpened
 have hE8:E≤800000:=by omega
 clear hb hz hE hEB hok
 generalize hdOf l=H at*
 generalize Ob.u8 l 248=dp at*
 generalize l.take E=lE at*
 have HEn:=Lib.hid fun(W:World) (gv:Nat) (A2:Option Addr) (c2:Nat) (v:ViewR W gv H dp A2 E c2 lE)=>Wb.rentries_any W v
 unfold TellL at HEn
 generalize chase H lE E (H.N 8) 14 2 (E+1) [] (H.N 11).toNat 0=R at*
 obtain⟨out,cd⟩:=R
 dsimp only at*
 go_enter Tryz.func43,Tryz.ntmps43
 go_upto_region 5 with(first
  |(go_at_call 16;((refine HOp.out.mono ?_);rintro e w1 ⟨gv,A2,c2,rfl,_,hv,hb1⟩;have HV:=Lib.hid hv;have B1:=Lib.hid hb1;clear hv hb1))
  |(go_at_call 102;((refine(HEn.out _ gv A2 c2 HV.out).mono ?_);rintro e w3 ⟨hb3,P,k,cp,rfl,ho3,hl3⟩;have B3:=Lib.hid hb3;have O3:=Lib.hid ho3;have L3:=Lib.hid hl3;clear hb3 ho3 hl3))
  |fail)
 have R4:=Lib.hid (Blk.new w3 [.pointer (some ⟨gv,0,none⟩),.slice P k cp,.int .i64 cd] 96)
 have b4:=Lib.hid ((Below.refl w3.heap.size w3).alloc (Nat.le_refl _) (.cells #[.pointer (some ⟨gv,0,none⟩),.slice P k cp,.int .i64 cd] 96))
 have I4:=Lib.hid ((tell_ints O3.out L3.out HF.out.2).below b4.out)
 have V4:=Lib.hid ((HV.out.below B3.out).below b4.out)
 have BB:=Lib.hid ((B1.out.trans (B3.out.mono B1.out.size)).trans (b4.out.mono (Nat.le_trans B1.out.size B3.out.size)))
 have L5:=L3.out
 have F5:=HF.out
 go_wp2_with fail
 go_ret2
 refine⟨_,gv,A2,c2,P,k,cp,rfl,⟨R4.out,V4.out,I4.out,L5,F5.2,?_⟩,BB.out⟩
 have h6:=F5.1
 unfold Up at h6
 omega
theorem ropen15_bad (l:List Int)(A:Option Addr)(n c:Nat)(w:World)(hb:Bytes w A l)(hL:l.length=n)(hn:n≤800000)(hc:n≤c)(hz:hcode l n≠0):
 Calls Tryz.prog 43 #[.slice A n c] w fun e w'=>e= .returned (.tuple #[.pointer none,.int .i64 (hcode l n)])∧Below w.heap.size w w':=by
 have HO:=Lib.hid (ropen_bad l A n c w hb hL hn hc hz)
 have d1:(hcode l n !=0)=true:=by simpa using hz
 have d2:decide (hcode l n=0)=false:=by simpa using hz
 clear hb hL hz
 generalize hcode l n=cd at*
 go_enter Tryz.func43,Tryz.ntmps43
 go_wp2_with(first
  |(go_at_call 16;(refine HO.out.mono ?_);rintro e w1 ⟨rfl,hb1⟩;have B1:=Lib.hid hb1;clear hb1)
  |fail)
 go_ret2
 exact⟨rfl,B1.out⟩
theorem rrec_out {w:World}{gf gv:Nat}{h:HD}{d:Int}{A:Option Addr}{E c:Nat}{l:List Int}{P:Option Addr}{n cp:Nat}{out:List Int}{cd:Int}(f:FileR w gf gv h d A E c l P n cp out cd)(x:Int)(hx:x<0∨(n:Int)≤x):Calls Tryz.prog 51 #[.pointer (some ⟨gf,0,none⟩),.int .i64 x] w (TellR ⟨0,0,0,fun _=>0,0,[]⟩ 2 w):=by
 have b1:=Lib.hid ((Below.refl w.heap.size w).alloc (Nat.le_refl _) (.cells zR 64))
 have k1:(w.alloc (.cells zR 64)).cell? ⟨gf,1,none⟩=some (.slice P n cp):=(b1.out.cell (p:=⟨gf,1,none⟩) f.blk.lt).trans (f.blk.cell (i:=1) rfl)
 have Z1:=Lib.hid (heap_alloc_new w (.cells zR 64))
 have hz:recL 0 0 0 (fun _=>0) (.slice none 0 0)=zR.toList:=rfl
 clear f
 unfold TellR
 by_cases h0:x<0
 ·have d1:decide (x<0)=true:=by simp;omega
  go_enter Tryz.func51,Tryz.ntmps51
  go_wp2_with(first
   |((with_reducible apply at_store (.tmp 4) (.tmp 17));refine wpList_store_row rfl 64 (.tmp 4) (.tmp 17) rfl w.heap.size zR rfl rfl 64 zR Z1.out (by kernel_rfl) rfl (recL_all 0 0 0 (fun _=>0) none 0 0) ?_)
   |fail)
  refine bodyPost_ret (v:= .tuple #[.agg zR,.int .i64 2]) (by exact res_row Tryz.results51 _ _ w.heap.size 64 _ (0,0) _ _ rfl rfl (setRow_heap _ _ _ _ _ (0,0) Z1.out) Tryz.underlying64 rfl (by kernel_rfl)) rfl ?_
  first|exact⟨none,0,rfl,Prs.nil _ _,below_setRow b1.out (Nat.le_refl _) _⟩|exact⟨none,⟨0,rfl⟩,Prs.nil _ _,below_setRow b1.out (Nat.le_refl _) _⟩
 ·have d1:decide (x<0)=false:=by simp;omega
  have d2:decide ((n:Int)≤x)=true:=by simp;omega
  go_enter Tryz.func51,Tryz.ntmps51
  go_wp2_with(first
   |((with_reducible apply at_store (.tmp 4) (.tmp 17));refine wpList_store_row rfl 64 (.tmp 4) (.tmp 17) rfl w.heap.size zR rfl rfl 64 zR Z1.out (by kernel_rfl) rfl (recL_all 0 0 0 (fun _=>0) none 0 0) ?_)
   |fail)
  refine bodyPost_ret (v:= .tuple #[.agg zR,.int .i64 2]) (by exact res_row Tryz.results51 _ _ w.heap.size 64 _ (0,0) _ _ rfl rfl (setRow_heap _ _ _ _ _ (0,0) Z1.out) Tryz.underlying64 rfl (by kernel_rfl)) rfl ?_
  first|exact⟨none,0,rfl,Prs.nil _ _,below_setRow b1.out (Nat.le_refl _) _⟩|exact⟨none,⟨0,rfl⟩,Prs.nil _ _,below_setRow b1.out (Nat.le_refl _) _⟩
theorem rrec_in {w:World}{gf gv:Nat}{h:HD}{d:Int}{A:Option Addr}{E c:Nat}{l:List Int}{P:Option Addr}{n cp:Nat}{out:List Int}{cd:Int}(f:FileR w gf gv h d A E c l P n cp out cd)(x:Nat)(hx:x<n):Calls Tryz.prog 51 #[.pointer (some ⟨gf,0,none⟩),.int .i64 (x:Int)] w (TellR (recP h l E (out.getD x 0).toNat) (rcode h l E (out.getD x 0).toNat) w):=by
 have b1:=Lib.hid ((Below.refl w.heap.size w).alloc (Nat.le_refl _) (.cells zR 64))
 have k0:(w.alloc (.cells zR 64)).cell? ⟨gf,0,none⟩=some (.pointer (some ⟨gv,0,none⟩)):=(b1.out.cell (p:=⟨gf,0,none⟩) f.blk.lt).trans (f.blk.cell (i:=0) rfl)
 have k1:(w.alloc (.cells zR 64)).cell? ⟨gf,1,none⟩=some (.slice P n cp):=(b1.out.cell (p:=⟨gf,1,none⟩) f.blk.lt).trans (f.blk.cell (i:=1) rfl)
 have Z1:=Lib.hid (heap_alloc_new w (.cells zR 64))
 have hs1:(w.alloc (.cells zR 64)).heap.size=w.heap.size+1:=by simp
 have d1:decide ((x:Int)<0)=false:=by simp
 have d2:decide ((n:Int)≤(x:Int))=false:=by simp;omega
 have hxi:(x:Int)<(n:Int):=by omega
 obtain⟨a,ha⟩: ∃a:Nat,out.getD x 0=(a:Int):=by
  have hx2:x<out.length:=by rw[f.len];exact hx
  have e:out.getD x 0=out[x]:=by simp[List.getElem?_eq_getElem hx2]
  have:=f.nn _ (List.getElem_mem hx2)
  exact⟨out[x].toNat,by rw[e];omega⟩
 have hAl:AllB l:=f.view.by_.1
 have hOk:=recP_ok h E (out.getD x 0).toNat hAl
 rw[ha]at hOk⊢
 rw[Int.toNat_natCast]at hOk⊢
 have HR:=Lib.hid fun(W:World) (hW:Below w.heap.size w W)=>rrecTell a W (f.view.below hW)
 have hil:P.isSome∨True:= .inr trivial
 obtain⟨bP,oP,rfl,hbP,hcP,_⟩:=f.ints x hx
 dsimp only at hcP
 rw[ha]at hcP
 have kP:(w.alloc (.cells zR 64)).cell? ⟨bP,oP+x,none⟩=some (.int .u64 (a:Int)):=(b1.out.cell (p:=⟨bP,oP+x,none⟩) hbP).trans hcP
 have hgf:=f.blk.lt
 unfold TellR at HR⊢
 have HOk:=Lib.hid hOk
 clear f hOk hcP hil
 generalize recP h l E a=R at*
 generalize rcode h l E a=cd2 at*
 obtain⟨rs,rr,rm,rK,rn,rpl⟩:=R
 dsimp only at*
 go_enter Tryz.func51,Tryz.ntmps51
 go_upto_region 3 with fail
 generalize hW1:w.alloc (.cells zR 64)=W1 at*
 have HS:=Lib.hid fun(W:World) (hW:Below W1.heap.size W1 W)=>show W.cell? ⟨gf,0,none⟩=some (.pointer (some ⟨gv,0,none⟩))∧W.cell? ⟨gf,1,none⟩=some (.slice (some ⟨bP,oP,none⟩) n cp)∧W.cell? ⟨bP,oP+x,none⟩=some (.int .u64 (a:Int))from
  ⟨(hW.cell (p:=⟨gf,0,none⟩) (by show gf<_;omega)).trans k0,(hW.cell (p:=⟨gf,1,none⟩) (by show gf<_;omega)).trans k1,(hW.cell (p:=⟨bP,oP+x,none⟩) (by show bP<_;omega)).trans kP⟩
 have D1:=Lib.hid (show Below W1.heap.size W1 W1.drew from(Below.refl W1.heap.size W1).drew)
 refine wp_region_noPanic ?_
 refine wp_region_held_drew (S:=fun W:World=>W.cell? ⟨gf,0,none⟩=some (.pointer (some ⟨gv,0,none⟩))∧W.cell? ⟨gf,1,none⟩=some (.slice (some ⟨bP,oP,none⟩) n cp)∧W.cell? ⟨bP,oP+x,none⟩=some (.int .u64 (a:Int))) (by kernel_rfl) (by exact HS.out _ D1.out) (fun hHeld=>?_)
 refine tk (i:=0) (oi:=⟨some 18,_,_,_,_,_⟩) (v:=?_) rfl (Or.inl ⟨by rfl,?_⟩) ?_
 rotate_left
 ·intro W hSw;obtain⟨s1,s2,s3⟩:=hSw;go_simp;try (with_reducible rfl)
 try simp only[Act.put,sA,sZ,sS]
 refine tk (i:=1) (oi:=⟨some 19,_,_,_,_,_⟩) (v:=?_) rfl (Or.inl ⟨by rfl,?_⟩) ?_
 rotate_left
 ·intro W hSw;obtain⟨s1,s2,s3⟩:=hSw;go_simp;try (with_reducible rfl)
 try simp only[Act.put,sA,sZ,sS]
 refine tk (i:=2) (oi:=⟨some 20,_,_,_,_,_⟩) (v:=?_) rfl (Or.inl ⟨by rfl,?_⟩) ?_
 rotate_left
 ·intro W hSw;obtain⟨s1,s2,s3⟩:=hSw;go_simp;try (with_reducible rfl)
 try simp only[Act.put,sA,sZ,sS]
 refine tk (i:=3) (oi:=⟨some 21,_,_,_,_,_⟩) (v:=?_) rfl (Or.inl ⟨by rfl,?_⟩) ?_
 rotate_left
 ·intro W hSw;obtain⟨s1,s2,s3⟩:=hSw;go_simp;try (with_reducible rfl)
 try simp only[Act.put,sA,sZ,sS]
 refine tk (i:=4) (oi:=⟨some 22,_,_,_,_,_⟩) (v:=?_) rfl (Or.inl ⟨by rfl,?_⟩) ?_
 rotate_left
 ·intro W hSw;obtain⟨s1,s2,s3⟩:=hSw;go_simp;try (with_reducible rfl)
 try simp only[Act.put,sA,sZ,sS]
 refine tk (i:=5) (oi:=⟨some 23,_,_,_,_,_⟩) (v:=?_) rfl (Or.inl ⟨by rfl,?_⟩) ?_
 rotate_left
 ·intro W hSw;obtain⟨s1,s2,s3⟩:=hSw;go_simp;try (with_reducible rfl)
 try simp only[Act.put,sA,sZ,sS]
 refine tk (i:=6) (oi:=⟨some 24,_,_,_,_,_⟩) (v:=?_) rfl (Or.inl ⟨by rfl,?_⟩) ?_
 rotate_left
 ·intro W hSw;obtain⟨s1,s2,s3⟩:=hSw;go_simp;try (with_reducible rfl)
 try simp only[Act.put,sA,sZ,sS]
 refine tk (i:=7) (oi:=⟨some 25,_,_,_,_,_⟩) (v:=?_) rfl (Or.inl ⟨by rfl,?_⟩) ?_
 rotate_left
 ·intro W hSw;obtain⟨s1,s2,s3⟩:=hSw;go_simp;try (with_reducible rfl)
 try simp only[Act.put,sA,sZ,sS]
 refine tk (i:=8) (oi:=⟨some 26,_,_,_,_,_⟩) (v:=?_) rfl (Or.inl ⟨by rfl,?_⟩) ?_
 rotate_left
 ·intro W hSw;obtain⟨s1,s2,s3⟩:=hSw;go_simp;try (with_reducible rfl)
 try simp only[Act.put,sA,sZ,sS]
 refine tk (i:=9) (oi:=⟨some 27,_,_,_,_,_⟩) (v:=?_) rfl (Or.inl ⟨by rfl,?_⟩) ?_
 rotate_left
 ·intro W hSw;obtain⟨s1,s2,s3⟩:=hSw;go_simp;try (with_reducible rfl)
 try simp only[Act.put,sA,sZ,sS]
 refine tk (i:=10) (oi:=⟨some 28,_,_,_,_,_⟩) (v:=?_) rfl (Or.inl ⟨by rfl,?_⟩) ?_
 rotate_left
 ·intro W hSw;obtain⟨s1,s2,s3⟩:=hSw;go_simp;try (with_reducible rfl)
 try simp only[Act.put,sA,sZ,sS]
 refine wpAnyH_ready (rs:=[11]) (by kernel_rfl) (by simp) ?_
 refine AllReadyH.cons (o:=⟨some 29,_,_,_,_,_⟩) rfl (fun KK hKK=>?_) AllReadyH.nil
 go_simp
 ((refine(HR.out _ (b1.out.trans (D1.out.mono (by omega)))).mono ?_);rintro e w2 ⟨F,c2,rfl,hp,hb2⟩;have HP:=Lib.hid hp;have b2:=Lib.hid (D1.out.trans (hb2.mono D1.out.size));have Z2:=Lib.hid ((b2.out.block w.heap.size (by omega)).trans Z1.out);clear hp hb2)
 try go_wp2_with fail
 refine hKK.out _ _ (by exact(HS.out _ b2.out)) (fun hHeld=>?_)
 clear hKK KK
 try simp only[Act.put,sA,sZ,sS]
 refine tk (i:=12) (oi:=⟨some 30,_,_,_,_,_⟩) (v:=?_) rfl (Or.inl ⟨by rfl,?_⟩) ?_
 rotate_left
 ·intro W hSw;obtain⟨s1,s2,s3⟩:=hSw;go_simp;try (with_reducible rfl)
 try simp only[Act.put,sA,sZ,sS]
 refine tk (i:=13) (oi:=⟨some 31,_,_,_,_,_⟩) (v:=?_) rfl (Or.inl ⟨by rfl,?_⟩) ?_
 rotate_left
 ·intro W hSw;obtain⟨s1,s2,s3⟩:=hSw;go_simp;try (with_reducible rfl)
 try simp only[Act.put,sA,sZ,sS]
 refine wpAnyH_ready (rs:=[14]) (by kernel_rfl) (by simp) ?_
 refine AllReadyH.cons (o:=⟨none,_,_,_,_,_⟩) rfl (fun KK hKK=>?_) AllReadyH.nil
 split
 ·refine wp_store_row 64 (.tmp 4) (.tmp 30) rfl w.heap.size (recL rs rr rm rK (.slice F rn c2)).toArray rfl rfl 64 zR Z2.out (recInfo _ _ _ _ _) rfl (by simp[Value.oneCell']) ?_
  have bF:=Lib.hid (below_setRow (b1.out.trans (b2.out.mono (by omega))) (Nat.le_refl w.heap.size) (recL rs rr rm rK (.slice F rn c2)).toArray)
  refine hKK.out _ _ (by
   obtain⟨q1,q2,q3⟩:=HS.out _ b2.out
   exact⟨(World.cell?_of_block (a:=⟨gf,0,none⟩) (setRow_other _ _ _ _ (show gf≠w.heap.size by omega))).trans q1,(World.cell?_of_block (a:=⟨gf,1,none⟩) (setRow_other _ _ _ _ (show gf≠w.heap.size by omega))).trans q2,(World.cell?_of_block (a:=⟨bP,oP+x,none⟩) (setRow_other _ _ _ _ (show bP≠w.heap.size by omega))).trans q3⟩) (fun hHeld=>?_)
  clear hKK KK
  try simp only[Act.put,sA,sZ,sS]
  refine tk (i:=15) (oi:=⟨some 5,_,_,_,_,_⟩) (v:=?_) rfl (Or.inl ⟨by rfl,?_⟩) ?_
  rotate_left
  ·intro W hSw;obtain⟨s1,s2,s3⟩:=hSw;go_simp;try (with_reducible rfl)
  try simp only[Act.put,sA,sZ,sS]
  refine wpAnyH_done (by kernel_rfl) ?_ _
  refine NoPanic.normal ?_
  go_wp2_with fail
  refine bodyPost_ret (v:= .tuple #[.agg (recL rs rr rm rK (.slice F rn c2)).toArray,.int .i64 cd2]) (by exact res_row Tryz.results51 _ _ w.heap.size 64 _ (0,0) _ _ rfl rfl (setRow_heap _ _ _ _ _ (0,0) Z2.out) Tryz.underlying64 rfl (recInfo _ _ _ _ _)) rfl ?_
  refine⟨F,⟨c2,rfl⟩,?_,bF.out⟩
  rcases Nat.eq_zero_or_pos rpl.length with h0|h0
  ·rw[List.eq_nil_of_length_eq_zero h0]
   exact Prs.nil _ _
  ·exact HP.out.keptB (by rw[setRow_size];exact Nat.le_refl _) fun b off e hb=>setRow_other _ _ _ _ (prs_off HP.out Z2.out b off e h0)
 ·next hno=>exact absurd (by rfl) hno
theorem rgood_any {w:World}{gf gv:Nat}{h:HD}{d:Int}{A:Option Addr}{E c:Nat}{l:List Int}{P:Option Addr}{n cp:Nat}{out:List Int}{cd:Int}(f:FileR w gf gv h d A E c l P n cp out cd):
 Calls Tryz.prog 48 #[.pointer (some ⟨gf,0,none⟩)] w fun e w'=> ∃A1 m c1,e= .returned (.slice A1 m c1)∧OwnE 3 1 w' w.heap.size A1 m c1 (ints (goodL h l E out n))∧(goodL h l E out n).length=m∧Below w.heap.size w w':=by
 have k1:=f.blk.cell (i:=1) rfl
 have hgf:=Lib.hid f.blk.lt
 have hn8:=f.nb
 have HR:=Lib.hid fun(x:Nat) (hx:x<n) (W:World) (hW:Below w.heap.size w W)=>rrec_in (f.below hW) x hx
 have hsp:=fun k=>goodR_spec (jC h l E out) (fun x=>(jR h l E out x).s) k
 unfold goodL
 have hC: ∀x,jC h l E out x=rcode h l E (out.getD x 0).toNat:=fun _=>rfl
 have hR: ∀x,jR h l E out x=recP h l E (out.getD x 0).toNat:=fun _=>rfl
 simp only[←hC,←hR]at HR
 clear f hC hR
 generalize hS:(fun x=>(jR h l E out x).s)=S at*
 generalize jR h l E out=R at*
 generalize jC h l E out=C at*
 unfold TellR at HR
 have Hsp:=Lib.hid hsp
 clear hsp
 go_enter Tryz.func48,Tryz.ntmps48
 go_wp2_with fail
 go_loopw [3,4,5] (fun s g i wr=> ∃(k m:Nat) (A1:Option Addr) (c1:Nat),k≤n∧s= .slice A1 m c1∧g= .int .u64 (goodR C S k).2∧i= .int .i64 (k:Int)∧Hid (OwnE 3 1 wr w.heap.size A1 m c1 (ints (goodR C S k).1))∧Hid ((goodR C S k).1.length=m)∧Hid (Below w.heap.size w wr)) (fun _ _ i _=>n-Rn.natOf i)
 case atStart=>exact⟨0,0,none,0,Nat.zero_le _,rfl,rfl,rfl,Lib.hid (OwnE.nil w w.heap.size (Nat.le_refl _)),Lib.hid rfl,Lib.hid (Below.refl _ _)⟩
 case round=>
  obtain⟨k,m,A1,c1,hk,rfl,rfl,rfl,hO,hL,hB⟩:=hrel
  have k1r:wr.cell? ⟨gf,1,none⟩=some (.slice P n cp):=(hB.out.cell (p:=⟨gf,1,none⟩) hgf.out).trans k1
  by_cases hlt:k<n
  ·have dd1:decide ((k:Int)<(n:Int))=true:=by simp;omega
   have hw1:IntKind.i64.wrap ((k:Int)+1)=((k+1:Nat):Int):=by rw[IntKind.wrap_i64];omega
   have HR1:=Lib.hid (HR.out k hlt wr hB.out)
   have hm:=(Hsp.out k).2.1
   have hmL:=hL.out
   have hstep:=Lib.hid (goodR_yes (C:=C) (S:=S) (k:=k))
   have hskip:=Lib.hid (goodR_no (C:=C) (S:=S) (k:=k))
   have hSk:S k=(R k).s:=by rw[←hS]
   rw[hSk]at hstep hskip
   clear HR Hsp hSk
   generalize goodR C S k=q at*
   obtain⟨L,gr⟩:=q
   dsimp only at hO hL hm hmL hstep hskip
   generalize C k=ck at*
   generalize R k=r at*
   obtain⟨rs,rr,rm,rK,rn,rpl⟩:=r
   dsimp only at HR1 hstep hskip
   clear hS
   go_upto_region 7 with(first
    |(go_at_call 51;(refine HR1.out.mono ?_);rintro e w2 ⟨F,c2,rfl,_,hb2⟩;have B2:=Lib.hid (hB.out.trans (hb2.mono hB.out.size));have O2:=Lib.hid (hO.out.kept hb2 (Nat.le_refl _));clear hb2)
    |((with_reducible apply at_store (.tmp 6) (.tmp 21));refine wpList_store_row rfl 64 (.tmp 6) (.tmp 21) rfl w2.heap.size (recL rs rr rm rK (.slice F rn c2)).toArray rfl rfl 64 zR (heap_alloc_new w2 _) (recInfo _ _ _ _ _) rfl (by simp[Value.oneCell']) ?_)
    |fail)
   have R3:=Lib.hid (show Blk ((w2.alloc (.cells zR 64)).setRow w2.heap.size (recL rs rr rm rK (.slice F rn c2)).toArray) w2.heap.size (recL rs rr rm rK (.slice F rn c2)) 64 from setRow_heap _ _ _ _ _ (0,0) (heap_alloc_new w2 _))
   have b3:=Lib.hid (show Below w2.heap.size w2 ((w2.alloc (.cells zR 64)).setRow w2.heap.size (recL rs rr rm rK (.slice F rn c2)).toArray)from below_setRow ((Below.refl _ _).alloc (Nat.le_refl _) _) (Nat.le_refl _) _)
   have O3:=Lib.hid (O2.out.kept b3.out (Nat.le_refl _))
   have hg4:=Lib.hid (fun k hk=>(show k<w2.heap.size from(Dc.OwnE.ltB O2.out k hk).2))
   have B3:=Lib.hid (B2.out.trans (b3.out.mono B2.out.size))
   clear b3 HR1 hO
   generalize (w2.alloc (.cells zR 64)).setRow w2.heap.size (recL rs rr rm rK (.slice F rn c2)).toArray=w3 at*
   have hgw:=B2.out.size
   clear O2 B2
   generalize w2.heap.size=g2 at*
   have k0:w3.cell? ⟨g2,0,none⟩=some (.int .u64 rs):=R3.out.cell (i:=0) rfl
   by_cases hcd:ck=0
   ·subst hcd
    by_cases hg:gr<rs
    ·have e1:=hstep.out ⟨rfl,hg⟩
     have HE1:=Lib.hid e1
     have d1:decide (gr<rs)=true:=by simp;omega
     have R3a:=Lib.hid (R3.out.alloc (.cells #[.int .i64 (k:Int)] 3))
     clear hstep hskip hg e1
     go_upto_region 9 with(first
      |(at_builtin;refine wpList_append_elt_at intE rfl (.tmp 31) (.tmp 33) rfl w.heap.size A1 m c1 (ints L) rfl (OwnE.alloc O3.out _) ⟨w3.heap.size,0,none⟩ 1 1 [.int .i64 (k:Int)] rfl rfl (Blk.news (Blk.new w3 [.int .i64 (k:Int)] 3)) (by intro u hu;simp at hu;subst hu;rfl) (by omega) (by omega) (by unfold maxLen;omega) ?_;intro A6 c6 w6 ho6 hg6 hat6;have O6:=Lib.hid ho6;have G6:=Lib.hid hg6;clear ho6 hg6 hat6)
      |fail)
     have B6:=Lib.hid ((B3.out.alloc B3.out.size (.cells #[.int .i64 (k:Int)] 3)).trans (Own8.below_grown G6.out (by have:=B3.out.size;simp;omega) (fun k hk=>(Dc.OwnE.ltB O3.out k hk).1)))
     have k6:w6.cell? ⟨g2,0,none⟩=some (.int .u64 rs):=(World.cell?_of_block (a:=⟨g2,0,none⟩) (G6.out.block g2 R3a.out.lt (fun e=>by have h2:=hg4.out g2 e.symm;omega))).trans (R3a.out.cell (i:=0) rfl)
     go_wp2_with fail
     go_roundw
     case rel=>exact⟨k+1,m+1,A6,c6,hlt,rfl,by rw[HE1.out],rfl,Lib.hid (by rw[HE1.out,ints_snoc];exact O6.out),Lib.hid (by rw[HE1.out,List.length_append,List.length_singleton,hmL]),B6⟩
     case measure=>simp[Rn.natOf];omega
    ·have e1:=hskip.out (fun h=>hg h.2)
     have HE1:=Lib.hid e1
     have d1:decide (gr<rs)=false:=by simp;omega
     clear hstep hskip hg e1
     go_wp2_with fail
     go_roundw
     case rel=>exact⟨k+1,m,A1,c1,hlt,rfl,by rw[HE1.out],rfl,Lib.hid (by rw[HE1.out];exact O3.out),Lib.hid (by rw[HE1.out];exact hmL),B3⟩
     case measure=>simp[Rn.natOf];omega
   ·have e1:=hskip.out (fun h=>hcd h.1)
    have HE1:=Lib.hid e1
    have d0:decide (ck=0)=false:=by simpa using hcd
    have d1:(ck==0)=false:=by simpa using hcd
    clear hstep hskip hcd e1
    go_wp2_with fail
    go_roundw
    case rel=>exact⟨k+1,m,A1,c1,hlt,rfl,by rw[HE1.out],rfl,Lib.hid (by rw[HE1.out];exact O3.out),Lib.hid (by rw[HE1.out];exact hmL),B3⟩
    case measure=>simp[Rn.natOf];omega
  ·have dd1:decide ((k:Int)<(n:Int))=false:=by simp;omega
   have hkn:k=n:=by omega
   subst hkn
   go_wp2_with fail
   go_ret
   exact⟨A1,m,c1,rfl,hO.out,hL.out,hB.out⟩
end Jj
namespace Zk
open Rd (dcode dz)
open Ri (ecode9)
end Zk
namespace Jk
open Bytes8 Blk8 Own8 OwnE Rows2 Ga Gb Ma Na Np Nr Ns Nt Rc Rn Rr Va Wa Pr8 Jb Jc Jj
open Go1 (hcode)
open Yg (res_row)
abbrev inR (n:Nat)(k:Int):Prop:=0≤k∧k<(n:Int)
def pR (h:HD)(l:List Int)(E:Nat)(out:List Int)(n:Nat)(k:Int):RecP:=if inR n k then recP h l E (out.getD k.toNat 0).toNat else⟨0,0,0,fun _=>0,0,[]⟩
def pC (h:HD)(l:List Int)(E:Nat)(out:List Int)(n:Nat)(k:Int):Int:=if inR n k then rcode h l E (out.getD k.toNat 0).toNat else 2
theorem pR_ok {h:HD}{l:List Int}{E:Nat}{out:List Int}{n:Nat}{k:Int}(hl:AllB l):(pR h l E out n k).Ok:=by
 unfold pR
 split
 ·exact recP_ok h E _ hl
 ·exact⟨fun _=>⟨Int.le_refl _,by show(0:Int)<256;decide⟩,rfl,Nat.zero_le _⟩
attribute [local irreducible] HD.cells wpList Code.wp
theorem jrec_any {w:World}{gf gv:Nat}{h:HD}{A:Option Addr}{E c:Nat}{l:List Int}{P:Option Addr}{n cp:Nat}{out:List Int}{cd:Int}(f:FileAt w gf gv h A E c l P n cp out cd)(k:Int):Calls Tryz.prog 50 #[.pointer (some ⟨gf,0,none⟩),.int .i64 k] w (TellR (pR h l E out n k) (pC h l E out n k) w):=by
 unfold pR pC
 by_cases hk:inR n k
 ·rw[if_pos hk,if_pos hk]
  obtain⟨x,rfl⟩: ∃x:Nat,k=(x:Int):=⟨k.toNat,by have:=hk.1;omega⟩
  rw[Int.toNat_natCast]
  refine(Jc.rec_in f x (by have:=hk.2;omega)).mono ?_
  rintro e w' ⟨F,c2,rfl,hp,_,hb⟩
  exact⟨F,c2,rfl,hp,hb⟩
 ·rw[if_neg hk,if_neg hk]
  have b1:=Lib.hid ((Below.refl w.heap.size w).alloc (Nat.le_refl _) (.cells zR 64))
  have HA:=Lib.hid fun(W:World) (hW:Below w.heap.size w W)=>at_out (f.below hW) k (by omega)
  have Z1:=Lib.hid (heap_alloc_new w (.cells zR 64))
  clear f
  unfold TellR
  go_enter Tryz.func50,Tryz.ntmps50
  go_wp2_with(first
   |(go_at_call 52;(refine(HA.out _ b1.out).mono ?_);rintro e w1 ⟨rfl,rfl⟩)
   |((with_reducible apply at_store (.tmp 4) (.tmp 16));refine wpList_store_row rfl 64 (.tmp 4) (.tmp 16) rfl w.heap.size zR rfl rfl 64 zR Z1.out (by kernel_rfl) rfl (recL_all 0 0 0 (fun _=>0) none 0 0) ?_)
   |fail)
  refine bodyPost_ret (v:= .tuple #[.agg zR,.int .i64 2]) (by exact res_row Tryz.results50 _ _ w.heap.size 64 _ (0,0) _ _ rfl rfl (setRow_heap _ _ _ _ _ (0,0) Z1.out) Tryz.underlying64 rfl (by kernel_rfl)) rfl ?_
  first|exact⟨none,0,rfl,Prs.nil _ _,below_setRow b1.out (Nat.le_refl _) _⟩|exact⟨none,⟨0,rfl⟩,Prs.nil _ _,below_setRow b1.out (Nat.le_refl _) _⟩
theorem rrec_any {w:World}{gf gv:Nat}{h:HD}{d:Int}{A:Option Addr}{E c:Nat}{l:List Int}{P:Option Addr}{n cp:Nat}{out:List Int}{cd:Int}(f:FileR w gf gv h d A E c l P n cp out cd)(k:Int):Calls Tryz.prog 51 #[.pointer (some ⟨gf,0,none⟩),.int .i64 k] w (TellR (pR h l E out n k) (pC h l E out n k) w):=by
 unfold pR pC
 by_cases hk:inR n k
 ·rw[if_pos hk,if_pos hk]
  obtain⟨x,rfl⟩: ∃x:Nat,k=(x:Int):=⟨k.toNat,by have:=hk.1;omega⟩
  rw[Int.toNat_natCast]
  exact Jj.rrec_in f x (by have:=hk.2;omega)
 ·rw[if_neg hk,if_neg hk]
  exact Jj.rrec_out f k (by omega)
end Jk
namespace Zl
open Bytes8 Ga Gb Gf Gj Gm Ma Mb Mh Na Nc Nt Za Rn Rr
open Go1 (hcode magicB)
def stH (m:Mk)(st:Int):HD:=HD.plus (Mk.head m st) (m.depth:Int)
def stL (m:Mk)(st:Int):List Int:=(stH m st).bytes 21++m.b.drop 272
theorem stH_N (m:Mk)(st:Int)(i:Nat)(hi:i<20):(stH m st).N i=if i=1 then(m.b.length:Int)-272 else m.h.N i:=imgH_N m i hi
theorem st_ok {m:Mk}(h:Img m){st:Int}(hs:0≤st∧st≤2):(stH m st).Ok 21:=by
 have k:=imgH_ok h
 exact {cp:=k.cp,ic:=k.ic,st:=by show -9223372036854775808≤st∧st≤9223372036854775807;omega,I:=k.I,ta:=k.ta,ti:=k.ti,te:=k.te,N:=k.N}
theorem st_len {m:Mk}(h:Img m)(st:Int):(stL m st).length=m.b.length:=by
 have:=h.lens
 unfold stL
 rw[List.length_append,HD.bytes_len,List.length_drop]
 omega
theorem st_says {m:Mk}(h:Img m){st:Int}(hs:0≤st∧st≤2):Says (hdOf (stL m st)) (stH m st):=
 hd_back (stH m st) (st_ok h hs) (by show 0≤st∧st<256;omega) (m.b.drop 272)
theorem st_fcode {m:Mk}(h:Img m){st:Int}(hs:0≤st∧st≤2)(N:Int):fcode (stH m st) N=fcode (imgH m) N:=by
 have e: ∀i,(stH m st).N i=(imgH m).N i:=fun i=>rfl
 have e2:stB (stH m st).st=stB (imgH m).st:=by
  show stB st=stB 1
  have:st=0∨st=1∨st=2:=by omega
  rcases this with h|h|h<;>subst h<;>rfl
 unfold fcode endV endB
 rw[e2]
 rfl
theorem st_hcode {m:Mk}(h:Img m){st:Int}(hs:0≤st∧st≤2):hcode (stL m st) m.b.length=0:=by
 have hl:=h.lens
 unfold hcode
 rw[if_neg (by omega),show magicB (stL m st)=true from magic_back _ _ _,if_neg (by simp),(st_says h hs).fcode,st_fcode h hs,img_fcode h _ (by omega)]
theorem st_end {m:Mk}(h:Img m){st:Int}(hs:0≤st∧st≤2):endV (hdOf (stL m st))=(m.b.length:Int)∧endB (hdOf (stL m st))=true:=by
 have s:=st_says h hs
 have e0:=(s.N 0 (by decide)).trans (stH_N m st 0 (by decide))
 have e1:=(s.N 1 (by decide)).trans (stH_N m st 1 (by decide))
 obtain⟨l1,l2,l3⟩:=h.lens
 rw[if_neg (by decide),h.hg.n0]at e0
 rw[if_pos rfl]at e1
 unfold endV endB
 rw[e0,e1]
 constructor
 ·split<;>omega
 ·simp;omega
end Zl
namespace Jg
open Bytes8 Blk8 Own8 OwnM OwnE Od Ga Gb Gj Ma Na Np Ns Nt Nu Rc Rn Rr Va Wa Zl Jb
open Ri (ecode9)
open Go1 (hcode)
attribute [local irreducible] HD.cells wpList Code.wp
theorem first_jfile (w:World):Calls Tryz.prog 41 #[] w fun e w'=>e= .returned (.bool true)∧Below w.heap.size w w':=by
 have HI:=Lib.hid (image_n none 0 0 (fun _=>0) 0 w (fun i hi=>absurd hi (Nat.not_lt_zero i)) (by decide) (by decide))
 unfold ImagedN at HI
 go_enter Tryz.func41,Tryz.ntmps41
 have HOp:=Lib.hid fun(m:Mk) (n:Nat) (hg:GoodN m n 0) (A:Option Addr) (c:Nat) (W:World) (B:Nat) (ho:Own8.Own W B A m.b.length c (imgB m))=>show Calls Tryz.prog 42 #[.slice A m.b.length c] W fun e w'=> ∃(gf gv:Nat) (h:HD) (A2:Option Addr) (E c2:Nat) (l:List Int) (P:Option Addr) (cp:Nat),e= .returned (.tuple #[.pointer (some ⟨gf,0,none⟩),.int .i64 0])∧FileAt w' gf gv h A2 E c2 l P 0 cp [] 0∧Below W.heap.size W w' from by
  have hI:=hg.img
  have hlens:=hI.lens
  have hL:=st_len hI 1
  obtain⟨e1,e2⟩:=st_end hI (st:=1) (by decide)
  have e8:=((st_says hI (st:=1) (by decide)).N 8 (by decide)).trans (stH_N m 1 8 (by decide))
  rw[if_neg (by decide),hg.cnt,show(n:Int)=0 by have:=hg.le;omega]at e8
  refine(jopen_fine (stL m 1) A m.b.length c W ho.bytes hL (by omega) (own_cap ho).1 (st_hcode hI (by decide)) m.b.length e1 e2 (Nat.le_refl _) (hdOf_ok ho.bytes.1 21)).mono ?_
  rintro e w' ⟨gf,gv,A2,c2,P,q,cp,rfl,hf,hb⟩
  have hcz:=chase_full (hdOf (stL m 1)) ((stL m 1).take m.b.length) m.b.length 0 14 2 (m.b.length+1) [] ((hdOf (stL m 1)).N 11).toNat 0 rfl
  rw[e8,hcz]at hf
  dsimp only at hf
  have hq:q=0:=hf.len.symm
  subst hq
  exact⟨gf,gv,_,A2,_,c2,_,P,cp,rfl,hf,hb⟩
 go_wp2_with(first
  |(go_at_call 14;((refine HI.out.mono ?_);rintro e w2 ⟨A,c,m,n,rfl,hg2,ho2,hb2⟩;have HG:=Lib.hid (HOp.out m n hg2 A c w2 _ ho2);have B2:=Lib.hid hb2;clear hg2 ho2 hb2))
  |(go_at_call 42;((refine HG.out.mono ?_);rintro e w3 ⟨gf,gv,h,A2,E,c2,l,P,cp,rfl,hf,hb3⟩;have B3:=Lib.hid (B2.out.trans (hb3.mono B2.out.size));have HL:=Lib.hid (len_any hf);have HC:=Lib.hid (code_any hf);clear hf hb3))
  |(go_at_call 44;((refine HL.out.mono ?_);rintro e w4 ⟨rfl,rfl⟩))
  |(go_at_call 45;((refine HC.out.mono ?_);rintro e w5 ⟨rfl,rfl⟩))
  |fail)
 go_ret
 exact⟨rfl,B3.out⟩
end Jg
end Go.Proofs.YtjecmgkmcfkcjaaGreat
