/-
  Texts beneath the proof.
-/
import Derived.Test.YtjecmgkmcfkcjaaGreatQc31
set_option linter.unusedVariables false
set_option linter.unusedSimpArgs false
set_option maxRecDepth 100000
set_option maxHeartbeats 4000000
open Go.ChangeShapes Go.WideShapes Go.ChangeAt Go.RowKit
namespace Go.Proofs.YtjecmgkmcfkcjaaGreat
namespace Ri
open Bytes8 Blk8 Own8 OwnE Rows2 Ob Ga Gb Ok7 Rc
open Kf Yc Yp Yd Ye Yg Yh Rh
open Re (res_row_cell load_code)
abbrev ez:Array Value:=zL.toArray
theorem new_ne {B:Nat}{A:Option Addr}(h:NewIn B A){g:Nat}(hg:g<B): ∀b off,A=some ⟨b,off,none⟩→b≠g:=fun b off e=>Nat.ne_of_gt (Nat.lt_of_lt_of_le hg (h b off e))
theorem new_mono {B C:Nat}{A:Option Addr}(h:NewIn B A)(hc:C≤B):NewIn C A:=fun b off e=>Nat.le_trans hc (h b off e)
attribute [local irreducible] wpList Code.wp
def ecode9 (h:HD)(l:List Int)(n a:Nat):Int:=if h.N 0≤(a:Int)∧a<n then entC0 l a else 2
theorem vent_out {gv:Nat}{h:HD}{A:Option Addr}{n c:Nat}{l:List Int}(a:Nat)(w:World)(v:ViewAt w gv h A n c l)(h1: ¬(h.N 0≤(a:Int)∧a<n)):
 Calls Tryz.prog 192 #[.pointer (some ⟨gv,0,none⟩),.int .u64 (a:Int)] w fun e w'=>e= .panicked [haltE 2]∧Below w.heap.size w w':=by
 have HF:=Lib.hid (from_no (a:Int) _ (v.below ((Below.refl _ _).alloc (Nat.le_refl _) (.cells ez 285))) (by omega))
 have b1:=Lib.hid ((Below.refl w.heap.size w).alloc (Nat.le_refl _) (.cells ez 285))
 clear v h1
 go_enter Tryz.func192,Tryz.ntmps192
 go_wp2_with(first
  |(go_at_call 93;(refine HF.out.mono ?_);rintro e w1 ⟨rfl,rfl⟩)
  |fail)
 exact⟨rfl,rfl,b1.out⟩
theorem vent_in {gv:Nat}{h:HD}{A:Option Addr}{n c:Nat}{l:List Int}(a:Nat)(w:World)(v:ViewAt w gv h A n c l)(hcm:c≤maxLen)(h1:h.N 0≤(a:Int)∧a<n):
 Calls Tryz.prog 192 #[.pointer (some ⟨gv,0,none⟩),.int .u64 (a:Int)] w fun e w'=>Below w.heap.size w w'∧
  ((entC0 l a≠0∧e= .panicked [haltE (entC0 l a)])∨(entC0 l a=0∧ ∃A' c',e= .returned (entV (eNum l a 0) (eNum l a 8) (eNum l a 16) (eK l a) (eNum l a 40) A' (eN l a) c')∧In2 w' A' (eN l a) (itA (bodyL l a)) (itH (bodyL l a))∧NewIn w.heap.size A')):=by
 have v1:=v.below ((Below.refl _ _).alloc (Nat.le_refl _) (.cells ez 285))
 have HF:=Lib.hid (from_yes (a:Int) _ v1 h1.1 (by omega))
 have HR:=Lib.hid (read_e_n A l n c a _ v1.by_ v1.len v1.big v1.cap hcm (by have:=v.big;omega))
 have b1:=Lib.hid ((Below.refl w.heap.size w).alloc (Nat.le_refl _) (.cells ez 285))
 have Z1:=Lib.hid (heap_alloc_new w (.cells ez 285))
 have s1:=Lib.hid (show w.heap.size<(w.alloc (.cells ez 285)).heap.size by simp)
 unfold EntTold2 at HR
 generalize eNum l a 0=s0 at*
 generalize eNum l a 8=s8 at*
 generalize eNum l a 16=s16 at*
 generalize eNum l a 40=s40 at*
 generalize eK l a=kk at*
 generalize eN l a=mm at*
 generalize itA (bodyL l a)=fa at*
 generalize entC0 l a=cd at*
 generalize itH (bodyL l a)=fh at*
 clear v v1 h1
 by_cases hz:cd=0
 ·subst hz
  go_enter Tryz.func192,Tryz.ntmps192
  go_wp2_with(first
   |(go_at_call 93;(refine HF.out.mono ?_);rintro e w1 ⟨rfl,rfl⟩)
   |(go_at_call 218;(refine HR.out.mono ?_);rintro e w2 ⟨A2,c2,rfl,hb2,hy2,hw2⟩;have B2:=Lib.hid hb2;have HY2:=Lib.hid hy2;have HW2:=Lib.hid hw2;clear hb2 hy2 hw2)
   |(go_at_call 217;(refine(gote_yes (entL s0 s8 s16 kk s40 A2 mm c2).toArray rfl (ent_one _ _ _ _ _ _ _ _) w2).mono ?_);rintro e w3 ⟨rfl,hb3⟩;have B3:=Lib.hid (B2.out.trans (hb3.mono B2.out.size));have HY3:=Lib.hid (HY2.out.keep hb3);have Z3:=Lib.hid ((B3.out.block _ s1.out).trans Z1.out);clear hb3)
   |((with_reducible apply at_store (.tmp 4) (.tmp 12));refine wpList_store_row rfl 285 (.tmp 4) (.tmp 12) rfl w.heap.size (entL s0 s8 s16 kk s40 A2 mm c2).toArray rfl rfl 285 ez Z3.out (by kernel_rfl) rfl (by first|exact ent_one _ _ _ _ _ _ _ _|exact z_one) ?_)
   |fail)
  refine bodyPost_ret (v:=entV s0 s8 s16 kk s40 A2 mm c2) (by exact results_cell_row Tryz.results192 _ _ w.heap.size 285 _ (0,0) _ rfl (setRow_heap _ w.heap.size _ _ _ (0,0) Z3.out) Tryz.underlying285 rfl (by kernel_rfl)) rfl ?_
  have b4:=below_setRow (B:=w.heap.size) (b1.out.trans (B3.out.mono b1.out.size)) (Nat.le_refl _) (entL s0 s8 s16 kk s40 A2 mm c2).toArray
  exact⟨b4,.inr ⟨trivial,A2,c2,rfl,In2.setRow HY3.out (new_ne HW2.out s1.out) _,new_mono HW2.out (Nat.le_of_lt s1.out)⟩⟩
 ·go_enter Tryz.func192,Tryz.ntmps192
  go_wp2_with(first
   |(go_at_call 93;(refine HF.out.mono ?_);rintro e w1 ⟨rfl,rfl⟩)
   |(go_at_call 218;(refine HR.out.mono ?_);rintro e w2 ⟨A2,c2,rfl,hb2,hy2,hw2⟩;have B2:=Lib.hid (b1.out.trans (hb2.mono b1.out.size));clear hb2 hy2)
   |(go_at_call 217;(refine(gote_no (entL s0 s8 s16 kk s40 A2 mm c2).toArray cd hz w2).mono ?_);rintro e w3 ⟨rfl,hb3⟩;have B3:=Lib.hid (B2.out.trans (hb3.mono B2.out.size));clear hb3)
   |fail)
  exact⟨rfl,B3.out,.inl ⟨hz,rfl⟩⟩
def ReadE (B:Nat)(l:List Int)(a:Nat)(cd:Int)(e:Ending)(w':World):Prop:=
 (cd≠0∧e= .panicked [haltE cd])∨(cd=0∧ ∃A' c',e= .returned (entV (eNum l a 0) (eNum l a 8) (eNum l a 16) (eK l a) (eNum l a 40) A' (eN l a) c')∧In2 w' A' (eN l a) (itA (bodyL l a)) (itH (bodyL l a))∧NewIn B A')
theorem vent_any {gv:Nat}{h:HD}{A:Option Addr}{n c:Nat}{l:List Int}(a:Nat)(w:World)(v:ViewAt w gv h A n c l)(hcm:c≤maxLen):
 Calls Tryz.prog 192 #[.pointer (some ⟨gv,0,none⟩),.int .u64 (a:Int)] w fun e w'=>Below w.heap.size w w'∧ReadE w.heap.size l a (ecode9 h l n a) e w':=by
 unfold ReadE ecode9
 by_cases h1:h.N 0≤(a:Int)∧a<n
 ·rw[if_pos h1]
  exact vent_in a w v hcm h1
 ·rw[if_neg h1]
  refine(vent_out a w v h1).mono ?_
  rintro e w' ⟨rfl,hb⟩
  exact⟨hb,.inl ⟨by decide,rfl⟩⟩
end Ri
namespace Rj
open Bytes8 Blk8 Own8 OwnE Rows2 Ga Gb Ok7 Np Sg Ra Rc
def keyB (ic:Int):Bool:=bits .and .u32 ic 4 !=0
theorem view_cell {w:World}{gv:Nat}{h:HD}{b v:Value}(hb:Blk w gv (viewC h b) 123){i:Nat}(hi:(h.cells 21)[i]? =some v):w.cell? ⟨gv,i,none⟩=some v:=by
 refine hb.cell ?_
 unfold viewC
 rw[List.getElem?_append_left (List.getElem?_eq_some_iff.1 hi).1]
 exact hi
theorem view_ic (h:HD):(h.cells 21)[1]? =some (.int .u32 h.ic):=by
 rw[h.get 21 1 (by decide)]
 rfl
theorem view_id {w:World}{gv:Nat}{h:HD}{b:Value}(hb:Blk w gv (viewC h b) 123):w.rangeAt gv 3 (idJ h.I):=fun j v hj=>by
 have hl:j<16:=(List.getElem?_eq_some_iff.1 hj).1
 refine view_cell hb ((h.get_I 21 j (by omega)).trans ?_)
 rw[idJ_get h.I j hl]at hj
 exact hj
theorem I_ok {h:HD}(ok:h.Ok 21):IdOk h.I:=fun i=>ok.I i
attribute [local irreducible] HD.cells wpList Code.wp
theorem vhash_any {gv:Nat}{h:HD}{A:Option Addr}{n c:Nat}{l:List Int}(A2:Option Addr)(pl:List Int)(m2 c2:Nat)(w:World)(v:ViewAt w gv h A n c l)(hb:Bytes w A2 pl)(hL:pl.length=m2)(hm:m2≤800000)(hc:m2≤c2)(hcm:c2≤maxLen):
 Calls Tryz.prog 65 #[.pointer (some ⟨gv,0,none⟩),.slice A2 m2 c2] w fun e w'=>e= .returned (.int .u64 (ofS (keyB h.ic) (idL h.I) pl))∧Below w.heap.size w w':=by
 have HOf:=Lib.hid fun(t:Bool)=>of_any t h.I A2 pl m2 c2 w.drew (I_ok v.ok) hb.drew hL hm hc hcm
 have c1:=view_cell v.blk (view_ic h)
 have Sd:=Lib.hid (show w.drew.cell? ⟨gv,1,none⟩=some (.int .u32 h.ic)∧w.drew.rangeAt gv 3 (idJ h.I)from⟨c1,view_id v.blk⟩)
 have D:=Lib.hid (show Below w.heap.size w w.drew from(Below.refl w.heap.size w).drew)
 have HV:=Lib.hid v.blk
 clear v c1 hb hL
 go_enter Tryz.func65,Tryz.ntmps65
 go_upto_region 1 with fail
 refine wp_region_noPanic ?_
 refine wp_region_held_drew (S:=fun W:World=>W.cell? ⟨gv,1,none⟩=some (.int .u32 h.ic)∧W.rangeAt gv 3 (idJ h.I)) (by kernel_rfl) (by exact Sd.out) (fun hHeld=>?_)
 refine tk (i:=0) (oi:=⟨some 5,_,_,_,_,_⟩) (v:=?_) rfl (Or.inl ⟨by rfl,?_⟩) ?_
 rotate_left
 ·intro W hSw;go_simp;try (with_reducible rfl)
 try simp only[Act.put,sA,sZ,sS]
 refine tk (i:=1) (oi:=⟨some 6,_,_,_,_,_⟩) (v:=?_) rfl (Or.inl ⟨by rfl,?_⟩) ?_
 rotate_left
 ·intro W hSw;go_simp;try (with_reducible rfl)
 try simp only[Act.put,sA,sZ,sS]
 refine tk (i:=2) (oi:=⟨some 7,_,_,_,_,_⟩) (v:=?_) rfl (Or.inl ⟨by rfl,?_⟩) ?_
 rotate_left
 ·intro W hSw;go_simp;try (with_reducible rfl)
 try simp only[Act.put,sA,sZ,sS]
 refine tk (i:=3) (oi:=⟨some 8,_,_,_,_,_⟩) (v:=?_) rfl (Or.inl ⟨by rfl,?_⟩) ?_
 rotate_left
 ·intro W hSw;go_simp;try (with_reducible rfl)
 try simp only[Act.put,sA,sZ,sS]
 refine tk (i:=4) (oi:=⟨some 9,_,_,_,_,_⟩) (v:=?_) rfl (Or.inl ⟨by rfl,?_⟩) ?_
 rotate_left
 ·intro W hSw;have hSx:=hSw.1;go_simp;try (with_reducible rfl)
 try simp only[Act.put,sA,sZ,sS]
 refine tk (i:=5) (oi:=⟨some 10,_,_,_,_,_⟩) (v:=?_) rfl (Or.inl ⟨by rfl,?_⟩) ?_
 rotate_left
 ·intro W hSw;go_simp;try (with_reducible rfl)
 try simp only[Act.put,sA,sZ,sS]
 refine tk (i:=6) (oi:=⟨some 11,_,_,_,_,_⟩) (v:=?_) rfl (Or.inl ⟨by rfl,?_⟩) ?_
 rotate_left
 ·intro W hSw;go_simp;try (with_reducible rfl)
 try simp only[Act.put,sA,sZ,sS]
 refine tk (i:=7) (oi:=⟨some 12,_,_,_,_,_⟩) (v:=?_) rfl (Or.inl ⟨by rfl,?_⟩) ?_
 rotate_left
 ·intro W hSw;go_simp;try (with_reducible rfl)
 try simp only[Act.put,sA,sZ,sS]
 refine tk (i:=8) (oi:=⟨some 13,_,_,_,_,_⟩) (v:=?_) rfl (Or.inl ⟨by rfl,?_⟩) ?_
 rotate_left
 ·intro W hSw;go_simp;try (with_reducible rfl)
 try simp only[Act.put,sA,sZ,sS]
 refine tk (i:=9) (oi:=⟨some 14,_,_,_,_,_⟩) (v:=?_) rfl (Or.inl ⟨by rfl,?_⟩) ?_
 rotate_left
 ·intro W hSw;go_simp;try (with_reducible rfl)
 try simp only[Act.put,sA,sZ,sS]
 refine tk (i:=10) (oi:=⟨some 15,_,_,_,_,_⟩) (v:=?_) rfl (Or.inl ⟨by rfl,?_⟩) ?_
 rotate_left
 ·intro W hSw;go_simp;try (with_reducible rfl)
 try simp only[Act.put,sA,sZ,sS]
 refine tk (i:=11) (oi:=⟨some 16,_,_,_,_,_⟩) rfl (yieldsIf_load_mid (by rfl) _ _ rfl _ _ rfl _ _ (fun _ h=>h.2) Tryz.underlying62 rfl (idJ_info _)) ?_
 try simp only[Act.put,sA,sZ,sS]
 refine tk (i:=12) (oi:=⟨some 17,_,_,_,_,_⟩) (v:=?_) rfl (Or.inl ⟨by rfl,?_⟩) ?_
 rotate_left
 ·intro W hSw;go_simp;try (with_reducible rfl)
 try simp only[Act.put,sA,sZ,sS]
 refine wpAnyH_ready (rs:=[13]) (by kernel_rfl) (by simp) ?_
 refine AllReadyH.cons (o:=⟨some 18,_,_,_,_,_⟩) rfl (fun K hK=>?_) AllReadyH.nil
 go_simp
 ((refine(HOf.out _).mono ?_);rintro e w2 ⟨rfl,hb2⟩;have B2:=Lib.hid (D.out.trans hb2);have S2:=Lib.hid (show w2.cell? ⟨gv,1,none⟩=some (.int .u32 h.ic)∧w2.rangeAt gv 3 (idJ h.I)from⟨view_cell (HV.out.below B2.out HV.out.lt) (view_ic h),view_id (HV.out.below B2.out HV.out.lt)⟩);clear hb2)
 try go_wp2_with fail
 refine hK.out _ _ (by exact S2.out) (fun hHeld=>?_)
 clear hK K
 try simp only[Act.put,sA,sZ,sS]
 refine tk (i:=14) (oi:=⟨some 4,_,_,_,_,_⟩) (v:=?_) rfl (Or.inl ⟨by rfl,?_⟩) ?_
 rotate_left
 ·intro W hSw;go_simp;try (with_reducible rfl)
 try simp only[Act.put,sA,sZ,sS]
 refine wpAnyH_done (by kernel_rfl) ?_ _
 refine NoPanic.normal ?_
 go_wp2
 go_ret
 exact⟨rfl,B2.out⟩
end Rj
namespace Rk
open Bytes8 Blk8 Own8 OwnE Rows2 Ob Ga Gb Oj Ok7 Np Sg Rc Rd Re Rj
def hcode9 (h:HD)(l:List Int)(n a:Nat):Int:=if dcode h l n a≠0 then dcode h l n a else if bnum l a 1 6 0=ofS (keyB h.ic) (idL h.I) (bpay l a 1 6)then 0 else 9
theorem bpay_le (l:List Int)(a:Nat)(k:Int)(n:Nat):(bpay l a k n).length≤l.length:=by
 unfold bpay
 split
 ·rw[List.length_drop]
  unfold bodyL
  rw[List.length_take,List.length_drop]
  omega
 ·exact Nat.zero_le _
attribute [local irreducible] wpList Code.wp ofS bnum bpay bcode
theorem hashed_any {gv:Nat}{h:HD}{A:Option Addr}{n c:Nat}{l:List Int}(a:Nat)(w:World)(v:ViewAt w gv h A n c l)(hcm:c≤maxLen)(h8:n≤800000):
 Calls Tryz.prog 100 #[.pointer (some ⟨gv,0,none⟩),.int .u64 (a:Int)] w fun e w'=>Below w.heap.size w w'∧ReadD w.heap.size l a (hcode9 h l n a) e w':=by
 have b1:=Lib.hid ((Below.refl w.heap.size w).alloc (Nat.le_refl _) (.cells dz 67))
 have v1:=v.below b1.out
 have HV:=Lib.hid (vdata_any a _ v1 hcm)
 have HH:=Lib.hid fun(A2:Option Addr) (m2 c2:Nat) (B:Nat) (W:World) (hW:Below w.heap.size w W) (hb:Bytes W A2 (bpay l a 1 6)) (hL:(bpay l a 1 6).length=m2) (hcp:Cap B A2 m2 c2)=>vhash_any A2 (bpay l a 1 6) m2 c2 W (v.below hW) hb hL (by have h1:=bpay_le l a 1 6;have h2:=v.len;omega) hcp.2.1 hcp.2.2.1
 have Z1:=Lib.hid (heap_alloc_new w (.cells dz 67))
 have s1:=Lib.hid (show w.heap.size<(w.alloc (.cells dz 67)).heap.size by simp)
 unfold ReadD at HV⊢
 unfold hcode9
 generalize ofS (keyB h.ic) (idL h.I) (bpay l a 1 6)=y0 at*
 generalize bnum l a 1 6 0=x0 at*
 generalize bnum l a 1 6 1=x1 at*
 generalize bnum l a 1 6 2=x2 at*
 generalize bnum l a 1 6 3=x3 at*
 generalize bnum l a 1 6 4=x4 at*
 generalize bnum l a 1 6 5=x5 at*
 generalize dcode h l n a=cd at*
 generalize bpay l a 1 6=pl at*
 clear v v1
 by_cases hz:cd=0
 ·subst hz
  rw[if_neg (by decide)]
  obtain⟨cc,hcc⟩: ∃c:Int,c=if x0=y0 then 0 else 9:=⟨_,rfl⟩
  rw[←hcc]
  have HCC:=Lib.hid hcc
  clear hcc
  go_enter Tryz.func100,Tryz.ntmps100
  go_upto_region 2 with(first
   |(go_at_call 88;(refine HV.out.mono ?_);rintro e w2 ⟨hb2,⟨hne,_⟩|⟨_,A2,m2,c2',rfl,hy2,hl2,hm2⟩⟩;(exact absurd rfl hne);have B2:=Lib.hid (b1.out.trans (hb2.mono b1.out.size));have HY2:=Lib.hid hy2;have Z2:=Lib.hid ((hb2.block _ s1.out).trans Z1.out);have SZ2:=Lib.hid (show w.heap.size<w2.heap.size from Nat.lt_of_lt_of_le s1.out hb2.size);clear hb2 hy2)
   |((with_reducible apply at_store (.tmp 5) (.tmp 8));refine wpList_store_row rfl 67 (.tmp 5) (.tmp 8) rfl w2.heap.size #[.int .u64 x0,.int .u64 x1,.int .u64 x2,.int .u64 x3,.int .u64 x4,.int .u64 x5,.slice A2 m2 c2'] rfl rfl 67 dz (heap_alloc_new w2 _) (by kernel_rfl) rfl (by simp[Value.oneCell']) ?_)
   |fail)
  have R3:=Lib.hid (show Blk ((w2.alloc (.cells dz 67)).setRow w2.heap.size #[.int .u64 x0,.int .u64 x1,.int .u64 x2,.int .u64 x3,.int .u64 x4,.int .u64 x5,.slice A2 m2 c2']) w2.heap.size [.int .u64 x0,.int .u64 x1,.int .u64 x2,.int .u64 x3,.int .u64 x4,.int .u64 x5,.slice A2 m2 c2'] 67 from setRow_heap _ _ _ _ _ (0,0) (heap_alloc_new w2 _))
  have B23:=Lib.hid (show Below w2.heap.size w2 ((w2.alloc (.cells dz 67)).setRow w2.heap.size #[.int .u64 x0,.int .u64 x1,.int .u64 x2,.int .u64 x3,.int .u64 x4,.int .u64 x5,.slice A2 m2 c2'])from below_setRow ((Below.refl _ _).alloc (Nat.le_refl _) _) (Nat.le_refl _) _)
  generalize (w2.alloc (.cells dz 67)).setRow w2.heap.size #[.int .u64 x0,.int .u64 x1,.int .u64 x2,.int .u64 x3,.int .u64 x4,.int .u64 x5,.slice A2 m2 c2']=w3 at*
  have B3:=Lib.hid (B2.out.trans (B23.out.mono B2.out.size))
  have HY3:=Lib.hid (HY2.out.below B23.out (Nat.le_refl _))
  have Z3:=Lib.hid ((B23.out.block _ SZ2.out).trans Z2.out)
  have Z3s:=Lib.hid (show w.heap.size<w3.drew.heap.size from Nat.lt_of_lt_of_le SZ2.out B23.out.size)
  have HS:=Lib.hid (HH.out A2 m2 c2' _ w3.drew B3.out.drew HY3.out.drew hl2 hm2)
  have Sd:=Lib.hid (show w3.drew.cell? ⟨w2.heap.size,0,none⟩=some (.int .u64 x0)∧w3.drew.cell? ⟨w2.heap.size,6,none⟩=some (.slice A2 m2 c2')from⟨R3.out.drew.cell (i:=0) rfl,R3.out.drew.cell (i:=6) rfl⟩)
  have HCp:=Lib.hid (hm2.mono (Nat.le_of_lt s1.out))
  generalize w2.heap.size=s5 at*
  clear HV HH hm2 B2 HY2 Z2 SZ2 B23
  by_cases he:x0=y0
  ·have hcc:=HCC.out
   rw[if_pos he]at hcc
   have HC0:=Lib.hid hcc
   clear hcc
   have d:(x0==y0)=true:=by simpa using he
   refine wp_region_held_drew (S:=fun W:World=>W.cell? ⟨s5,0,none⟩=some (.int .u64 x0)∧W.cell? ⟨s5,6,none⟩=some (.slice A2 m2 c2')) (by kernel_rfl) (by exact Sd.out) (fun hHeld=>?_)
   refine tk (i:=0) (oi:=⟨some 9,_,_,_,_,_⟩) (v:=?_) rfl (Or.inl ⟨by rfl,?_⟩) ?_
   rotate_left
   ·intro W hSw;obtain⟨x0,x1⟩:=hSw;go_simp;try (with_reducible rfl)
   try simp only[Act.put,sA,sZ,sS]
   refine tk (i:=1) (oi:=⟨some 10,_,_,_,_,_⟩) (v:=?_) rfl (Or.inl ⟨by rfl,?_⟩) ?_
   rotate_left
   ·intro W hSw;obtain⟨x0,x1⟩:=hSw;go_simp;try (with_reducible rfl)
   try simp only[Act.put,sA,sZ,sS]
   refine tk (i:=2) (oi:=⟨some 11,_,_,_,_,_⟩) (v:=?_) rfl (Or.inl ⟨by rfl,?_⟩) ?_
   rotate_left
   ·intro W hSw;obtain⟨x0,x1⟩:=hSw;go_simp;try (with_reducible rfl)
   try simp only[Act.put,sA,sZ,sS]
   refine tk (i:=3) (oi:=⟨some 12,_,_,_,_,_⟩) (v:=?_) rfl (Or.inl ⟨by rfl,?_⟩) ?_
   rotate_left
   ·intro W hSw;obtain⟨x0,x1⟩:=hSw;go_simp;try (with_reducible rfl)
   try simp only[Act.put,sA,sZ,sS]
   refine tk (i:=4) (oi:=⟨some 13,_,_,_,_,_⟩) (v:=?_) rfl (Or.inl ⟨by rfl,?_⟩) ?_
   rotate_left
   ·intro W hSw;obtain⟨x0,x1⟩:=hSw;go_simp;try (with_reducible rfl)
   try simp only[Act.put,sA,sZ,sS]
   refine wpAnyH_ready (rs:=[5]) (by kernel_rfl) (by simp) ?_
   refine AllReadyH.cons (o:=⟨some 14,_,_,_,_,_⟩) rfl (fun K hK=>?_) AllReadyH.nil
   go_simp
   ((refine HS.out.mono ?_);rintro e w4 ⟨rfl,hb4⟩;have B4:=Lib.hid (B3.out.drew.trans (hb4.mono B3.out.size));have R4:=Lib.hid (R3.out.drew.below hb4 R3.out.lt);have HY4:=Lib.hid (HY3.out.drew.below hb4 (Nat.le_refl _));have S4:=Lib.hid (show w4.cell? ⟨s5,0,none⟩=some (.int .u64 x0)∧w4.cell? ⟨s5,6,none⟩=some (.slice A2 m2 c2')from⟨R4.out.cell (i:=0) rfl,R4.out.cell (i:=6) rfl⟩);have Z4:=Lib.hid ((hb4.block _ Z3s.out).trans Z3.out);clear hb4)
   try go_wp2_with fail
   refine hK.out _ _ (by exact S4.out) (fun hHeld=>?_)
   clear hK K
   try simp only[Act.put,sA,sZ,sS]
   refine tk (i:=6) (oi:=⟨some 15,_,_,_,_,_⟩) (v:=?_) rfl (Or.inl ⟨by rfl,?_⟩) ?_
   rotate_left
   ·intro W hSw;obtain⟨x0,x1⟩:=hSw;go_simp;try (with_reducible rfl)
   try simp only[Act.put,sA,sZ,sS]
   refine wpAnyH_ready (rs:=[7]) (by kernel_rfl) (by simp) ?_
   refine AllReadyH.cons (o:=⟨some 16,_,_,_,_,_⟩) rfl (fun K hK=>?_) AllReadyH.nil
   go_simp
   ((refine(need_yes 9 _).mono ?_);rintro e w5 ⟨rfl,rfl⟩)
   try go_wp2_with fail
   refine hK.out _ _ (by exact S4.out) (fun hHeld=>?_)
   clear hK K
   try simp only[Act.put,sA,sZ,sS]
   refine wpAnyH_done (by kernel_rfl) ?_ _
   go_wp2_with(first
    |((with_reducible apply at_slot 17);refine wpList_load_row rfl 67 (.tmp 5) rfl s5 rfl 67 #[.int .u64 x0,.int .u64 x1,.int .u64 x2,.int .u64 x3,.int .u64 x4,.int .u64 x5,.slice A2 m2 c2'] (0,0) _ R4.out Tryz.underlying67 rfl (by kernel_rfl) ?_)
    |((with_reducible apply at_store (.tmp 4) (.tmp 17));refine wpList_store_row rfl 67 (.tmp 4) (.tmp 17) rfl w.heap.size #[.int .u64 x0,.int .u64 x1,.int .u64 x2,.int .u64 x3,.int .u64 x4,.int .u64 x5,.slice A2 m2 c2'] rfl rfl 67 dz Z4.out (by kernel_rfl) rfl (by simp[Value.oneCell']) ?_)
    |fail)
   refine bodyPost_ret (v:=dataV x0 x1 x2 x3 x4 x5 A2 m2 c2') (by exact results_cell_row Tryz.results100 _ _ w.heap.size 67 _ (0,0) _ rfl (setRow_heap _ w.heap.size _ _ _ (0,0) Z4.out) Tryz.underlying67 rfl (by kernel_rfl)) rfl ?_
   have b5:=below_setRow (B:=w.heap.size) B4.out (Nat.le_refl _) #[.int .u64 x0,.int .u64 x1,.int .u64 x2,.int .u64 x3,.int .u64 x4,.int .u64 x5,.slice A2 m2 c2']
   exact⟨b5,.inr ⟨HC0.out,A2,m2,c2',rfl,bytes_apart HY4.out Z4.out _,hl2,HCp.out⟩⟩
  ·have hcc:=HCC.out
   rw[if_neg he]at hcc
   have HC9:=Lib.hid hcc
   clear hcc
   have d:(x0==y0)=false:=by simpa using he
   refine wp_region_held_drew (S:=fun W:World=>W.cell? ⟨s5,0,none⟩=some (.int .u64 x0)∧W.cell? ⟨s5,6,none⟩=some (.slice A2 m2 c2')) (by kernel_rfl) (by exact Sd.out) (fun hHeld=>?_)
   refine tk (i:=0) (oi:=⟨some 9,_,_,_,_,_⟩) (v:=?_) rfl (Or.inl ⟨by rfl,?_⟩) ?_
   rotate_left
   ·intro W hSw;obtain⟨x0,x1⟩:=hSw;go_simp;try (with_reducible rfl)
   try simp only[Act.put,sA,sZ,sS]
   refine tk (i:=1) (oi:=⟨some 10,_,_,_,_,_⟩) (v:=?_) rfl (Or.inl ⟨by rfl,?_⟩) ?_
   rotate_left
   ·intro W hSw;obtain⟨x0,x1⟩:=hSw;go_simp;try (with_reducible rfl)
   try simp only[Act.put,sA,sZ,sS]
   refine tk (i:=2) (oi:=⟨some 11,_,_,_,_,_⟩) (v:=?_) rfl (Or.inl ⟨by rfl,?_⟩) ?_
   rotate_left
   ·intro W hSw;obtain⟨x0,x1⟩:=hSw;go_simp;try (with_reducible rfl)
   try simp only[Act.put,sA,sZ,sS]
   refine tk (i:=3) (oi:=⟨some 12,_,_,_,_,_⟩) (v:=?_) rfl (Or.inl ⟨by rfl,?_⟩) ?_
   rotate_left
   ·intro W hSw;obtain⟨x0,x1⟩:=hSw;go_simp;try (with_reducible rfl)
   try simp only[Act.put,sA,sZ,sS]
   refine tk (i:=4) (oi:=⟨some 13,_,_,_,_,_⟩) (v:=?_) rfl (Or.inl ⟨by rfl,?_⟩) ?_
   rotate_left
   ·intro W hSw;obtain⟨x0,x1⟩:=hSw;go_simp;try (with_reducible rfl)
   try simp only[Act.put,sA,sZ,sS]
   refine wpAnyH_ready (rs:=[5]) (by kernel_rfl) (by simp) ?_
   refine AllReadyH.cons (o:=⟨some 14,_,_,_,_,_⟩) rfl (fun K hK=>?_) AllReadyH.nil
   go_simp
   ((refine HS.out.mono ?_);rintro e w4 ⟨rfl,hb4⟩;have B4:=Lib.hid (B3.out.drew.trans (hb4.mono B3.out.size));have R4:=Lib.hid (R3.out.drew.below hb4 R3.out.lt);have HY4:=Lib.hid (HY3.out.drew.below hb4 (Nat.le_refl _));have S4:=Lib.hid (show w4.cell? ⟨s5,0,none⟩=some (.int .u64 x0)∧w4.cell? ⟨s5,6,none⟩=some (.slice A2 m2 c2')from⟨R4.out.cell (i:=0) rfl,R4.out.cell (i:=6) rfl⟩);have Z4:=Lib.hid ((hb4.block _ Z3s.out).trans Z3.out);clear hb4)
   try go_wp2_with fail
   refine hK.out _ _ (by exact S4.out) (fun hHeld=>?_)
   clear hK K
   try simp only[Act.put,sA,sZ,sS]
   refine tk (i:=6) (oi:=⟨some 15,_,_,_,_,_⟩) (v:=?_) rfl (Or.inl ⟨by rfl,?_⟩) ?_
   rotate_left
   ·intro W hSw;obtain⟨x0,x1⟩:=hSw;go_simp;try (with_reducible rfl)
   try simp only[Act.put,sA,sZ,sS]
   refine wpAnyH_ready (rs:=[7]) (by kernel_rfl) (by simp) ?_
   refine AllReadyH.cons (o:=⟨some 16,_,_,_,_,_⟩) rfl (fun K hK=>?_) AllReadyH.nil
   go_simp
   ((refine(need_no 9 _).mono ?_);rintro e w5 ⟨rfl,rfl⟩;exact⟨rfl,B4.out,.inl ⟨by rw[HC9.out];decide,by rw[HC9.out]⟩⟩)
 ·rw[if_pos hz]
  go_enter Tryz.func100,Tryz.ntmps100
  go_wp2_with(first
   |(go_at_call 88;(refine HV.out.mono ?_);rintro e w3 ⟨hb3,⟨_,rfl⟩|⟨he,_⟩⟩;rotate_left;(exact absurd he hz);have B3:=Lib.hid (b1.out.trans (hb3.mono b1.out.size));clear hb3)
   |fail)
  exact⟨rfl,B3.out,.inl ⟨hz,rfl⟩⟩
end Rk
namespace Rl
open Rd (dz)
open Re (load_code ReadD)
attribute [local irreducible] wpList Code.wp
end Rl
namespace Rm
open Bytes8 Blk8 Own8 OwnE OwnA Rows2 Ob Od Ga Gb Ok7 Np Nr Pr8 Fa Dc Rc Rk
open Rd (dcode dz)
def lcode (c:Nat→Int):Nat→Int
 |0=>0
 |k+1=>if lcode c k≠0 then lcode c k else c k
theorem lcode_zero {c:Nat→Int}: ∀ {k:Nat},(∀i,i<k→c i=0)→lcode c k=0
 |0,_=>rfl
 |k+1,h=>by
  unfold lcode
  rw[lcode_zero (fun i hi=>h i (by omega)),if_neg (by decide)]
  exact h k (by omega)
theorem lcode_first {c:Nat→Int}{k:Nat}(h: ∀i,i<k→c i=0)(hk:c k≠0): ∀ {n:Nat},k<n→lcode c n=c k
 |0,hn=>absurd hn (Nat.not_lt_zero k)
 |n+1,hn=>by
  unfold lcode
  rcases Nat.lt_or_ge k n with h1|h1
  ·rw[lcode_first h hk h1,if_pos hk]
  ·have e:n=k:=by omega
   subst e
   rw[lcode_zero h,if_neg (by decide)]
theorem bpay_pos {l:List Int}{a:Nat}(h:bcode l a 1 6=0):0<(bpay l a 1 6).length:=by
 unfold bpay
 rw[if_pos h,List.length_drop]
 unfold bcode at h
 by_cases h1:code l a≠0
 ·rw[if_pos h1]at h;exact absurd h h1
 ·rw[if_neg h1]at h
  by_cases h2:kindL l a≠1
  ·rw[if_pos h2]at h;cases h
  ·rw[if_neg h2]at h
   by_cases h3:(bodyL l a).length≤8*6
   ·rw[if_pos h3]at h;cases h
   ·omega
theorem hcode_fine {h:HD}{l:List Int}{n a:Nat}(hz:hcode9 h l n a=0):bcode l a 1 6=0:=by
 unfold hcode9 at hz
 by_cases h1:dcode h l n a≠0
 ·rw[if_pos h1]at hz;exact absurd hz h1
 ·have h2:dcode h l n a=0:=by omega
  unfold dcode at h2
  by_cases h3:h.N 0≤(a:Int)∧a<n
  ·rw[if_pos h3]at h2;exact h2
  ·rw[if_neg h3]at h2;cases h2
def prsL (P:Nat→List Int)(k:Nat):List PR:=(List.range k).map fun i=>(splitN (P i),splitV (P i))
theorem prsL_succ (P:Nat→List Int)(k:Nat):prsL P (k+1)=prsL P k++ [(splitN (P k),splitV (P k))]:=by simp[prsL,List.range_succ]
theorem prsL_len (P:Nat→List Int)(k:Nat):(prsL P k).length=k:=by simp[prsL]
def icode (h:HD)(l:List Int)(n:Nat)(f g:Nat→Int)(i:Nat):Int:=
 if hcode9 h l n (f i).toNat≠0 then hcode9 h l n (f i).toNat else if bnum l (f i).toNat 1 6 0=g i then splitE (bpay l (f i).toNat 1 6)else 9
theorem OwnE.farE {E:TypeId}{size:Nat}{w:World}{base:Nat}{A:Option Addr}{n c:Nat}{xs:List Value}(h:OwnE E size w base A n c xs){a:Addr}(ha:a.block<base)(u:Value):OwnE E size (w.setCell a u) base A n c xs:=
 ⟨by simpa using h.1,ownsRow_setCell_below h.2 ha u⟩
structure Row4 where
 b:Nat
 off:Nat
 m:Nat
 c:Nat
def Row4.v (x:Row4):Value:= .slice (some ⟨x.b,x.off,none⟩) x.m x.c
structure PayAt (w:World)(rows:List Row4)(P:Nat→List Int):Prop where
 at_: ∀r (h:r<rows.length),Bytes w (some ⟨rows[r].b,rows[r].off,none⟩) (P r)∧(P r).length=rows[r].m∧rows[r].m≤rows[r].c∧rows[r].c≤maxLen∧rows[r].m≤800000
theorem bytes_keptB {w w':World}{A:Option Addr}{l:List Int}(h:Bytes w A l)(hs:w.heap.size≤w'.heap.size)(hk: ∀b off,A=some ⟨b,off,none⟩→b<w.heap.size→w'.heap[b]? =w.heap[b]?):Bytes w' A l:=⟨h.1,fun i hi=>by
 obtain⟨b,off,e,hb,hc⟩:=h.2 i hi
 exact⟨b,off,e,Nat.lt_of_lt_of_le hb hs,(World.cell?_of_block (a:=⟨b,off+i,none⟩) (hk b off e hb)).trans hc⟩⟩
structure LR (w4 wr:World)(s6:Nat)(s r m:Int)(K:Nat→Int)(P:Nat→List Int)(F:Option Addr)(cF:Nat)(PA:Option Addr)(cP:Nat)(rows:List Row4)(kf kp:Nat):Prop where
 old:Below s6 w4 wr
 rc:Blk wr s6 (recL s r m K (.slice F kf cF)) 64
 fld:OwnP wr (s6+1) F kf cF (prsL P kf)
 own:OwnE 23 1 wr (s6+1) PA kp cP (rows.map Row4.v)
 pay:PayAt wr rows P
 far: ∀x∈rows,s6<x.b∧x.b<wr.heap.size∧ownB F≠some x.b∧ownB PA≠some x.b
 apart: ∀g,ownB F=some g→ownB PA≠some g
section
variable {w4 wr : World} {s6 : Nat} {s r m : Int} {K : Nat → Int} {P : Nat → List Int} {F : Option Addr} {cF : Nat} {PA : Option Addr} {cP : Nat} {rows : List Row4} {kf kp : Nat}
theorem LR.lt (h:LR w4 wr s6 s r m K P F cF PA cP rows kf kp):s6<wr.heap.size:=h.rc.lt
theorem LR.below {w':World}(h:LR w4 wr s6 s r m K P F cF PA cP rows kf kp)(hb:Below wr.heap.size wr w'):LR w4 w' s6 s r m K P F cF PA cP rows kf kp:=
 {old:=h.old.trans (hb.mono (Nat.le_of_lt h.lt))
  rc:=h.rc.below hb h.lt
  fld:=h.fld.kept hb (Nat.le_refl _)
  own:=h.own.kept hb (Nat.le_refl _)
  pay:=⟨fun r hr=>⟨(h.pay.at_ r hr).1.below hb (Nat.le_refl _),(h.pay.at_ r hr).2⟩⟩
  far:=fun x hx=>⟨(h.far x hx).1,Nat.lt_of_lt_of_le (h.far x hx).2.1 hb.size,(h.far x hx).2.2⟩
  apart:=h.apart}
theorem LR.field {w':World}{F':Option Addr}{cF':Nat}(h:LR w4 wr s6 s r m K P F cF PA cP rows kf kp)(hok:okP (splitN (P kf),splitV (P kf)))
 (ho:OwnE 58 2 w' (s6+1) F' (kf+1) cF' (cellsP (prsL P kf)++ [.string (T (splitN (P kf))),.string (T (splitV (P kf)))]))(hg:wr.grownBy w' (ownB F))(hat:ownB F'=ownB F∨ownB F'=some wr.heap.size):
 LR w4 (w'.setCell ⟨s6,19,none⟩ (.slice F' (kf+1) cF')) s6 s r m K P F' cF' PA cP rows (kf+1) kp:=by
 have hlt:=h.lt
 have hbF: ∀g,ownB F=some g→s6+1≤g∧g<wr.heap.size:=OwnE.ltB h.fld.2.2
 have hne:ownB F≠some s6:=fun e=>by have:=(hbF s6 e).1;omega
 have hb1:Below s6 wr w':=below_grown hg (Nat.le_of_lt hlt) (fun k hk=>by have:=(hbF k hk).1;omega)
 have hr1:Blk w' s6 (recL s r m K (.slice F kf cF)) 64:=(hg.block s6 hlt (fun e=>hne e.symm)).trans h.rc
 have hkp: ∀b,b<wr.heap.size→ownB F≠some b→b≠s6→(w'.setCell ⟨s6,19,none⟩ (.slice F' (kf+1) cF')).heap[b]? =wr.heap[b]? :=fun b hb h1 h2=>(Below.heap_setCell w' ⟨s6,19,none⟩ _ b h2).trans (hg.block b hb (fun e=>h1 e.symm))
 have hsz:wr.heap.size≤(w'.setCell ⟨s6,19,none⟩ (.slice F' (kf+1) cF')).heap.size:=by simpa using hg.size
 have hF': ∀b,b<wr.heap.size→ownB F≠some b→ownB F'≠some b:=fun b hb h1 h2=>by
  rcases hat with e|e
  ·exact h1 (e▸h2)
  ·rw[e]at h2;injection h2 with h2;omega
 refine {old:=(h.old.trans hb1).setCell (p:=⟨s6,19,none⟩) (Nat.le_refl _) _,rc:=hr1.set_ 19 _,fld:=?_,own:=?_,pay:=?_,far:=?_,apart:=?_}
 ·refine⟨?_,by rw[prsL_len],?_⟩
  ·rw[prsL_succ]
   intro p hp
   rcases List.mem_append.1 hp with h1|h1
   ·exact h.fld.1 p h1
   ·rw[List.mem_singleton.1 h1];exact hok
  ·rw[prsL_succ,cellsP_app]
   exact OwnE.farE ho (show(⟨s6,19,none⟩:Addr).block<s6+1 from Nat.lt_succ_self _) _
 ·exact OwnE.farE (OwnE.keptG h.own hg (fun g hg2 e=>h.apart g e hg2)) (show(⟨s6,19,none⟩:Addr).block<s6+1 from Nat.lt_succ_self _) _
 ·refine⟨fun r hr=>⟨bytes_keptB (h.pay.at_ r hr).1 hsz (fun b off e hb=>?_),(h.pay.at_ r hr).2⟩⟩
  have hf:=h.far _ (List.getElem_mem hr)
  injection e with e
  injection e with e1 e2
  subst e1
  exact hkp _ hb hf.2.2.1 (by omega)
 ·exact fun x hx=>⟨(h.far x hx).1,Nat.lt_of_lt_of_le (h.far x hx).2.1 hsz,hF' _ (h.far x hx).2.1 (h.far x hx).2.2.1,(h.far x hx).2.2.2⟩
 ·intro g hg2 hp
  have hb:=(OwnE.ltB h.own g hp).2
  exact hF' g hb (fun e=>h.apart g e hp) hg2
theorem LR.payload {w':World}{PA':Option Addr}{cP':Nat}(h:LR w4 wr s6 s r m K P F cF PA cP rows kf kp)(x:Row4)(hlen:rows.length=kp)
 (hx:Bytes wr (some ⟨x.b,x.off,none⟩) (P kp)∧(P kp).length=x.m∧x.m≤x.c∧x.c≤maxLen∧x.m≤800000)(hfar:s6<x.b∧x.b<wr.heap.size∧ownB F≠some x.b∧ownB PA≠some x.b)
 (ho:OwnE 23 1 w' (s6+1) PA' (kp+1) cP' (rows.map Row4.v++ [x.v]))(hg:wr.grownBy w' (ownB PA))(hat:ownB PA'=ownB PA∨ownB PA'=some wr.heap.size):
 LR w4 w' s6 s r m K P F cF PA' cP' (rows++ [x]) kf (kp+1):=by
 have hlt:=h.lt
 have hbP: ∀g,ownB PA=some g→s6+1≤g∧g<wr.heap.size:=OwnE.ltB h.own
 have hne:ownB PA≠some s6:=fun e=>by have:=(hbP s6 e).1;omega
 have hb1:Below s6 wr w':=below_grown hg (Nat.le_of_lt hlt) (fun k hk=>by have:=(hbP k hk).1;omega)
 have hP': ∀b,b<wr.heap.size→ownB PA≠some b→ownB PA'≠some b:=fun b hb h1 h2=>by
  rcases hat with e|e
  ·exact h1 (e▸h2)
  ·rw[e]at h2;injection h2 with h2;omega
 refine {old:=h.old.trans hb1,rc:=(hg.block s6 hlt (fun e=>hne e.symm)).trans h.rc,fld:=⟨h.fld.1,h.fld.2.1,OwnE.keptG h.fld.2.2 hg (fun g hg2 e=>h.apart g hg2 e)⟩,own:=by rw[List.map_append];exact ho,pay:=?_,far:=?_,apart:=?_}
 ·refine⟨fun r hr=>?_⟩
  rcases Nat.lt_or_ge r rows.length with h1|h1
  ·rw[List.getElem_append_left h1]
   have hf:=h.far _ (List.getElem_mem h1)
   refine⟨bytes_keptB (h.pay.at_ r h1).1 hg.size (fun b off e hb=>?_),(h.pay.at_ r h1).2⟩
   injection e with e
   injection e with e1 e2
   subst e1
   exact hg.block _ hb (fun e=>hf.2.2.2 e.symm)
  ·have e1:r=kp:=by rw[List.length_append,List.length_singleton]at hr;omega
   subst e1
   have e2:(rows++ [x])[r]=x:=by rw[List.getElem_append_right h1];simp
   rw[e2]
   refine⟨bytes_keptB hx.1 hg.size (fun b off e hb=>?_),hx.2⟩
   injection e with e
   injection e with e1 e2
   subst e1
   exact hg.block _ hb (fun e=>hfar.2.2.2 e.symm)
 ·intro y hy
  rcases List.mem_append.1 hy with h1|h1
  ·have hf:=h.far y h1
   exact⟨hf.1,Nat.lt_of_lt_of_le hf.2.1 hg.size,hf.2.2.1,hP' _ hf.2.1 hf.2.2.2⟩
  ·rw[List.mem_singleton.1 h1]
   exact⟨hfar.1,Nat.lt_of_lt_of_le hfar.2.1 hg.size,hfar.2.2.1,hP' _ hfar.2.1 hfar.2.2.2⟩
 ·intro g hg2 hp
  have hb:=(OwnE.ltB h.fld.2.2 g hg2).2
  exact hP' g hb (h.apart g hg2) hp
theorem LR.inRows (h:LR w4 wr s6 s r m K P F cF PA cP rows kf kp)(hlen:rows.length=kp): ∃(A:Nat→Option Addr) (L C:Nat→Nat),InRows wr PA kp A L C P∧ ∀r,r<kp→L r≤800000:=by
 refine⟨fun r=>(rows[r]?).bind fun x=>some ⟨x.b,x.off,none⟩,fun r=>((rows[r]?).map Row4.m).getD 0,fun r=>((rows[r]?).map Row4.c).getD 0,fun r hr=>?_,fun r hr=>?_⟩
 ·have hr':r<rows.length:=by omega
  obtain⟨p1,p2,p3,p4,p5⟩:=h.pay.at_ r hr'
  have hx:(rows.map Row4.v)[r]? =some rows[r].v:=by rw[List.getElem?_map,List.getElem?_eq_getElem hr'];rfl
  obtain⟨g,e,hb,hlt,hc⟩:=h.own.cell (i:=r) (by rw[List.length_map];exact hr')
  refine⟨g,0,e,hlt,?_,?_,?_,?_,?_⟩
  ·rw[Nat.zero_add,hc,hx]
   simp only[List.getElem?_eq_getElem hr',Option.bind_some,Option.map_some,Option.getD_some]
   rfl
  all_goals (simp only[List.getElem?_eq_getElem hr',Option.bind_some,Option.map_some,Option.getD_some];assumption)
 ·have hr':r<rows.length:=by omega
  simp only[List.getElem?_eq_getElem hr',Option.map_some,Option.getD_some]
  exact(h.pay.at_ r hr').2.2.2.2
end
attribute [local irreducible] wpList Code.wp
theorem gotp_no (x y:ByteArray)(cd:Int)(h0:cd≠0)(w:World):Calls Tryz.prog 193 #[.agg #[.string x,.string y],.int .i64 cd] w fun e w'=>e= .panicked [haltE cd]∧Below w.heap.size w w':=by
 have HN:=Lib.hid (need_no cd)
 have d0:(cd==0)=false:=by simpa using h0
 go_enter Tryz.func193,Tryz.ntmps193
 go_wp2_with(first
  |(go_at_call 148;(refine(HN.out _).mono ?_);rintro e w1 ⟨rfl,rfl⟩)
  |fail)
 exact⟨rfl,rfl,((Below.refl w.heap.size w).alloc (Nat.le_refl _) _).alloc (by simp) _⟩
theorem gotp_yes (x y:ByteArray)(w:World):Calls Tryz.prog 193 #[.agg #[.string x,.string y],.int .i64 0] w fun e w'=>e= .returned (.agg #[.string x,.string y])∧Below w.heap.size w w':=by
 have HN:=Lib.hid (need_yes 0)
 go_enter Tryz.func193,Tryz.ntmps193
 go_wp2_with(first
  |(go_at_call 148;(refine(HN.out _).mono ?_);rintro e w1 ⟨rfl,rfl⟩)
  |fail)
 refine bodyPost_ret (v:= .agg #[.string x,.string y]) (by exact results_cell_row Tryz.results193 _ _ (w.heap.size+1) 58 _ (0,0) _ rfl (heap_alloc2_new w _ _) Tryz.underlying58 rfl (by kernel_rfl)) rfl ?_
 exact⟨rfl,((Below.refl w.heap.size w).alloc (Nat.le_refl _) _).alloc (by simp) _⟩
end Rm
end Go.Proofs.YtjecmgkmcfkcjaaGreat
