/-
  Texts beneath the proof.
-/
import Derived.Test.YtiddkgcafpaekaaGreatJq32
set_option linter.unusedVariables false
set_option linter.unusedSimpArgs false
set_option maxRecDepth 100000
set_option maxHeartbeats 4000000
open Go.ChangeShapes Go.WideShapes Go.ChangeAt Go.RowKit
namespace Go.Proofs.YtiddkgcafpaekaaGreat
namespace Ri
open Bytes8 Blk8 Own8 OwnE Rows2 Ob Ga Gb Ok7 Rc
open Kf Yc Yp Yd Ye Yg Yh Rh
open Re (res_row_cell load_code)
abbrev ez:Array Value:=zL.toArray
theorem new_ne {B:Nat}{A:Option Addr}(h:NewIn B A){g:Nat}(hg:g<B): ∀b off,A=some ⟨b,off,none⟩→b≠g:=fun b off e=>Nat.ne_of_gt (yL hg (h b off e))
theorem new_mono {B C:Nat}{A:Option Addr}(h:NewIn B A)(hc:C≤B):NewIn C A:=fun b off e=>Nat.le_trans hc (h b off e)
attribute [local irreducible] wpList Code.wp
def ecode9 (h:HD)(l:List Int)(n a:Nat):Int:=if h.N 0≤(a:Int)∧a<n then entC0 l a else 2
theorem vent_out {gv:Nat}{h:HD}{A:Option Addr}{n c:Nat}{l:List Int}(a:Nat)(w:World)(v:ViewAt w gv h A n c l)(h1: ¬(h.N 0≤(a:Int)∧a<n)):
 Calls Tryz.prog 195 #[.pointer (some ⟨gv,0,none⟩),.int .u64 (a:Int)] w fun e w'=>e= .panicked [haltE 2]∧Below w.heap.size w w':=by
 have HF:=yH (from_no (a:Int) _ (v.below ((Below.refl _ _).alloc (yR _) (.cells ez 256))) (by omega))
 have b1:=yH ((Below.refl w.heap.size w).alloc (yR _) (.cells ez 256))
 clear v h1
 go_enter Tryz.func195,Tryz.ntmps195
 go_wp2_with(first
  |(go_at_call 200;(refine HF.out.mono ?_);rintro e w1 ⟨rfl,rfl⟩)
  |fail)
 exact⟨rfl,rfl,b1.out⟩
theorem vent_in {gv:Nat}{h:HD}{A:Option Addr}{n c:Nat}{l:List Int}(a:Nat)(w:World)(v:ViewAt w gv h A n c l)(hcm:c≤maxLen)(h1:h.N 0≤(a:Int)∧a<n):
 Calls Tryz.prog 195 #[.pointer (some ⟨gv,0,none⟩),.int .u64 (a:Int)] w fun e w'=>Below w.heap.size w w'∧
  ((entC0 l a≠0∧e= .panicked [haltE (entC0 l a)])∨(entC0 l a=0∧ ∃A' c',e= .returned (entV (eNum l a 0) (eNum l a 8) (eNum l a 16) (eK l a) (eNum l a 40) A' (eN l a) c')∧In2 w' A' (eN l a) (itA (bodyL l a)) (itH (bodyL l a))∧NewIn w.heap.size A')):=by
 have v1:=v.below ((Below.refl _ _).alloc (yR _) (.cells ez 256))
 have HF:=yH (from_yes (a:Int) _ v1 h1.1 (by omega))
 have HR:=yH (read_e_n A l n c a _ v1.by_ v1.len v1.big v1.cap hcm (by have:=v.big;omega))
 have b1:=yH ((Below.refl w.heap.size w).alloc (yR _) (.cells ez 256))
 have Z1:=yH (heap_alloc_new w (.cells ez 256))
 have s1:=yH (show w.heap.size<(w.alloc (.cells ez 256)).heap.size by simp)
 unfold EntTold2 at HR
 generalize eNum l a 0=s0 at*
 generalize eNum l a 8=s8 at*
 generalize eNum l a 16=s16 at*
 generalize eNum l a 40=s40 at*
 generalize eK l a=kk at*
 generalize eN l a=mm at*
 generalize itA (bodyL l a)=fa at*
 generalize entC0 l a=cd at*
 generalize itH (bodyL l a)=fh at*
 clear v v1 h1
 by_cases hz:cd=0
 ·subst hz
  go_enter Tryz.func195,Tryz.ntmps195
  go_wp2_with(first
   |(go_at_call 200;(refine HF.out.mono ?_);rintro e w1 ⟨rfl,rfl⟩)
   |(go_at_call 239;(refine HR.out.mono ?_);rintro e w2 ⟨A2,c2,rfl,hb2,hy2,hw2⟩;have B2:=yH hb2;have HY2:=yH hy2;have HW2:=yH hw2;clear hb2 hy2 hw2)
   |(go_at_call 238;(refine(gote_yes (entL s0 s8 s16 kk s40 A2 mm c2).toArray rfl (ent_one _ _ _ _ _ _ _ _) w2).mono ?_);rintro e w3 ⟨rfl,hb3⟩;have B3:=yH (B2.out.trans (hb3.mono B2.out.size));have HY3:=yH (HY2.out.keep hb3);have Z3:=yH ((B3.out.block _ s1.out).trans Z1.out);clear hb3)
   |((with_reducible apply at_store (.tmp 4) (.tmp 12));refine wpList_store_row rfl 256 (.tmp 4) (.tmp 12) rfl w.heap.size (entL s0 s8 s16 kk s40 A2 mm c2).toArray rfl rfl 256 ez Z3.out (by kernel_rfl) rfl (by first|exact ent_one _ _ _ _ _ _ _ _|exact z_one) ?_)
   |fail)
  refine bodyPost_ret (v:=entV s0 s8 s16 kk s40 A2 mm c2) (by exact results_cell_row Tryz.results195 _ _ w.heap.size 256 _ (0,0) _ rfl (setRow_heap _ w.heap.size _ _ _ (0,0) Z3.out) Tryz.underlying256 rfl (by kernel_rfl)) rfl ?_
  have b4:=below_setRow (B:=w.heap.size) (b1.out.trans (B3.out.mono b1.out.size)) (yR _) (entL s0 s8 s16 kk s40 A2 mm c2).toArray
  exact⟨b4,.inr ⟨trivial,A2,c2,rfl,In2.setRow HY3.out (new_ne HW2.out s1.out) _,new_mono HW2.out (Nat.le_of_lt s1.out)⟩⟩
 ·go_enter Tryz.func195,Tryz.ntmps195
  go_wp2_with(first
   |(go_at_call 200;(refine HF.out.mono ?_);rintro e w1 ⟨rfl,rfl⟩)
   |(go_at_call 239;(refine HR.out.mono ?_);rintro e w2 ⟨A2,c2,rfl,hb2,hy2,hw2⟩;have B2:=yH (b1.out.trans (hb2.mono b1.out.size));clear hb2 hy2)
   |(go_at_call 238;(refine(gote_no (entL s0 s8 s16 kk s40 A2 mm c2).toArray cd hz w2).mono ?_);rintro e w3 ⟨rfl,hb3⟩;have B3:=yH (B2.out.trans (hb3.mono B2.out.size));clear hb3)
   |fail)
  exact⟨rfl,B3.out,.inl ⟨hz,rfl⟩⟩
def ReadE (B:Nat)(l:List Int)(a:Nat)(cd:Int)(e:Ending)(w':World):Prop:=
 (cd≠0∧e= .panicked [haltE cd])∨(cd=0∧ ∃A' c',e= .returned (entV (eNum l a 0) (eNum l a 8) (eNum l a 16) (eK l a) (eNum l a 40) A' (eN l a) c')∧In2 w' A' (eN l a) (itA (bodyL l a)) (itH (bodyL l a))∧NewIn B A')
theorem vent_any {gv:Nat}{h:HD}{A:Option Addr}{n c:Nat}{l:List Int}(a:Nat)(w:World)(v:ViewAt w gv h A n c l)(hcm:c≤maxLen):
 Calls Tryz.prog 195 #[.pointer (some ⟨gv,0,none⟩),.int .u64 (a:Int)] w fun e w'=>Below w.heap.size w w'∧ReadE w.heap.size l a (ecode9 h l n a) e w':=by
 unfold ReadE ecode9
 by_cases h1:h.N 0≤(a:Int)∧a<n
 ·rw[if_pos h1]
  exact vent_in a w v hcm h1
 ·rw[if_neg h1]
  refine(vent_out a w v h1).mono ?_
  rintro e w' ⟨rfl,hb⟩
  exact⟨hb,.inl ⟨by decide,rfl⟩⟩
end Ri
namespace Rj
open Bytes8 Blk8 Own8 OwnE Rows2 Ga Gb Ok7 Np Sg Ra Rc
def keyB (ic:Int):Bool:=bits .and .u32 ic 4 !=0
theorem view_cell {w:World}{gv:Nat}{h:HD}{b v:Value}(hb:Blk w gv (viewC h b) 160){i:Nat}(hi:(h.cells 21)[i]? =some v):w.cell? ⟨gv,i,none⟩=some v:=by
 refine hb.cell ?_
 unfold viewC
 rw[List.getElem?_append_left (List.getElem?_eq_some_iff.1 hi).1]
 exact hi
theorem view_ic (h:HD):(h.cells 21)[1]? =some (.int .u32 h.ic):=by
 rw[h.get 21 1 (by decide)]
 rfl
theorem view_id {w:World}{gv:Nat}{h:HD}{b:Value}(hb:Blk w gv (viewC h b) 160):w.rangeAt gv 3 (idJ h.I):=fun j v hj=>by
 have hl:j<16:=(List.getElem?_eq_some_iff.1 hj).1
 refine view_cell hb ((h.get_I 21 j (by omega)).trans ?_)
 rw[idJ_get h.I j hl]at hj
 exact hj
theorem I_ok {h:HD}(ok:h.Ok 21):IdOk h.I:=fun i=>ok.I i
attribute [local irreducible] HD.cells wpList Code.wp
theorem vhash_any {gv:Nat}{h:HD}{A:Option Addr}{n c:Nat}{l:List Int}(A2:Option Addr)(pl:List Int)(m2 c2:Nat)(w:World)(v:ViewAt w gv h A n c l)(hb:Bytes w A2 pl)(hL:pl.length=m2)(hm:m2≤800000)(hc:m2≤c2)(hcm:c2≤maxLen):
 Calls Tryz.prog 25 #[.pointer (some ⟨gv,0,none⟩),.slice A2 m2 c2] w fun e w'=>e= .returned (.int .u64 (ofS (keyB h.ic) (idL h.I) pl))∧Below w.heap.size w w':=by
 have HOf:=yH fun(t:Bool)=>of_any t h.I A2 pl m2 c2 w.drew (I_ok v.ok) hb.drew hL hm hc hcm
 have c1:=view_cell v.blk (view_ic h)
 have Sd:=yH (show w.drew.cell? ⟨gv,1,none⟩=some (.int .u32 h.ic)∧w.drew.rangeAt gv 3 (idJ h.I)from⟨c1,view_id v.blk⟩)
 have D:=yH (show Below w.heap.size w w.drew from(Below.refl w.heap.size w).drew)
 have HV:=yH v.blk
 clear v c1 hb hL
 go_enter Tryz.func25,Tryz.ntmps25
 go_upto_region 1 with fail
 refine wp_region_noPanic ?_
 refine wp_region_held_drew (S:=fun W:World=>W.cell? ⟨gv,1,none⟩=some (.int .u32 h.ic)∧W.rangeAt gv 3 (idJ h.I)) (by kernel_rfl) (by exact Sd.out) (fun hHeld=>?_)
 refine tk (i:=0) (oi:=⟨some 5,_,_,_,_,_⟩) (v:=?_) rfl (Or.inl ⟨by rfl,?_⟩) ?_
 rotate_left
 ·intro W hSw;go_simp;try (with_reducible rfl)
 try simp only[Act.put,sA,sZ,sS]
 refine tk (i:=1) (oi:=⟨some 6,_,_,_,_,_⟩) (v:=?_) rfl (Or.inl ⟨by rfl,?_⟩) ?_
 rotate_left
 ·intro W hSw;go_simp;try (with_reducible rfl)
 try simp only[Act.put,sA,sZ,sS]
 refine tk (i:=2) (oi:=⟨some 7,_,_,_,_,_⟩) (v:=?_) rfl (Or.inl ⟨by rfl,?_⟩) ?_
 rotate_left
 ·intro W hSw;go_simp;try (with_reducible rfl)
 try simp only[Act.put,sA,sZ,sS]
 refine tk (i:=3) (oi:=⟨some 8,_,_,_,_,_⟩) (v:=?_) rfl (Or.inl ⟨by rfl,?_⟩) ?_
 rotate_left
 ·intro W hSw;go_simp;try (with_reducible rfl)
 try simp only[Act.put,sA,sZ,sS]
 refine tk (i:=4) (oi:=⟨some 9,_,_,_,_,_⟩) (v:=?_) rfl (Or.inl ⟨by rfl,?_⟩) ?_
 rotate_left
 ·intro W hSw;have hSx:=hSw.1;go_simp;try (with_reducible rfl)
 try simp only[Act.put,sA,sZ,sS]
 refine tk (i:=5) (oi:=⟨some 10,_,_,_,_,_⟩) (v:=?_) rfl (Or.inl ⟨by rfl,?_⟩) ?_
 rotate_left
 ·intro W hSw;go_simp;try (with_reducible rfl)
 try simp only[Act.put,sA,sZ,sS]
 refine tk (i:=6) (oi:=⟨some 11,_,_,_,_,_⟩) (v:=?_) rfl (Or.inl ⟨by rfl,?_⟩) ?_
 rotate_left
 ·intro W hSw;go_simp;try (with_reducible rfl)
 try simp only[Act.put,sA,sZ,sS]
 refine tk (i:=7) (oi:=⟨some 12,_,_,_,_,_⟩) (v:=?_) rfl (Or.inl ⟨by rfl,?_⟩) ?_
 rotate_left
 ·intro W hSw;go_simp;try (with_reducible rfl)
 try simp only[Act.put,sA,sZ,sS]
 refine tk (i:=8) (oi:=⟨some 13,_,_,_,_,_⟩) (v:=?_) rfl (Or.inl ⟨by rfl,?_⟩) ?_
 rotate_left
 ·intro W hSw;go_simp;try (with_reducible rfl)
 try simp only[Act.put,sA,sZ,sS]
 refine tk (i:=9) (oi:=⟨some 14,_,_,_,_,_⟩) (v:=?_) rfl (Or.inl ⟨by rfl,?_⟩) ?_
 rotate_left
 ·intro W hSw;go_simp;try (with_reducible rfl)
 try simp only[Act.put,sA,sZ,sS]
 refine tk (i:=10) (oi:=⟨some 15,_,_,_,_,_⟩) (v:=?_) rfl (Or.inl ⟨by rfl,?_⟩) ?_
 rotate_left
 ·intro W hSw;go_simp;try (with_reducible rfl)
 try simp only[Act.put,sA,sZ,sS]
 refine tk (i:=11) (oi:=⟨some 16,_,_,_,_,_⟩) rfl (yieldsIf_load_mid (by rfl) _ _ rfl _ _ rfl _ _ (fun _ h=>h.2) Tryz.underlying37 rfl (idJ_info _)) ?_
 try simp only[Act.put,sA,sZ,sS]
 refine tk (i:=12) (oi:=⟨some 17,_,_,_,_,_⟩) (v:=?_) rfl (Or.inl ⟨by rfl,?_⟩) ?_
 rotate_left
 ·intro W hSw;go_simp;try (with_reducible rfl)
 try simp only[Act.put,sA,sZ,sS]
 refine wpAnyH_ready (rs:=[13]) (by kernel_rfl) (by simp) ?_
 refine AllReadyH.cons (o:=⟨some 18,_,_,_,_,_⟩) rfl (fun K hK=>?_) AllReadyH.nil
 go_simp
 ((refine(HOf.out _).mono ?_);rintro e w2 ⟨rfl,hb2⟩;have B2:=yH (D.out.trans hb2);have S2:=yH (show w2.cell? ⟨gv,1,none⟩=some (.int .u32 h.ic)∧w2.rangeAt gv 3 (idJ h.I)from⟨view_cell (HV.out.below B2.out HV.out.lt) (view_ic h),view_id (HV.out.below B2.out HV.out.lt)⟩);clear hb2)
 try go_wp2_with fail
 refine hK.out _ _ (by exact S2.out) (fun hHeld=>?_)
 clear hK K
 try simp only[Act.put,sA,sZ,sS]
 refine tk (i:=14) (oi:=⟨some 4,_,_,_,_,_⟩) (v:=?_) rfl (Or.inl ⟨by rfl,?_⟩) ?_
 rotate_left
 ·intro W hSw;go_simp;try (with_reducible rfl)
 try simp only[Act.put,sA,sZ,sS]
 refine wpAnyH_done (by kernel_rfl) ?_ _
 refine NoPanic.normal ?_
 go_wp2
 go_ret
 exact⟨rfl,B2.out⟩
end Rj
namespace Rk
open Bytes8 Blk8 Own8 OwnE Rows2 Ob Ga Gb Oj Ok7 Np Sg Rc Rd Re Rj
def hcode9 (h:HD)(l:List Int)(n a:Nat):Int:=if dcode h l n a≠0 then dcode h l n a else if bnum l a 1 6 0=ofS (keyB h.ic) (idL h.I) (bpay l a 1 6)then 0 else 9
theorem bpay_le (l:List Int)(a:Nat)(k:Int)(n:Nat):(bpay l a k n).length≤l.length:=by
 unfold bpay
 split
 ·rw[List.length_drop]
  unfold bodyL
  rw[List.length_take,List.length_drop]
  omega
 ·exact Nat.zero_le _
attribute [local irreducible] wpList Code.wp ofS bnum bpay bcode
theorem hashed_any {gv:Nat}{h:HD}{A:Option Addr}{n c:Nat}{l:List Int}(a:Nat)(w:World)(v:ViewAt w gv h A n c l)(hcm:c≤maxLen)(h8:n≤800000):
 Calls Tryz.prog 223 #[.pointer (some ⟨gv,0,none⟩),.int .u64 (a:Int)] w fun e w'=>Below w.heap.size w w'∧ReadD w.heap.size l a (hcode9 h l n a) e w':=by
 have b1:=yH ((Below.refl w.heap.size w).alloc (yR _) (.cells dz 65))
 have v1:=v.below b1.out
 have HV:=yH (vdata_any a _ v1 hcm)
 have HH:=yH fun(A2:Option Addr) (m2 c2:Nat) (B:Nat) (W:World) (hW:Below w.heap.size w W) (hb:Bytes W A2 (bpay l a 1 6)) (hL:(bpay l a 1 6).length=m2) (hcp:Cap B A2 m2 c2)=>vhash_any A2 (bpay l a 1 6) m2 c2 W (v.below hW) hb hL (by have h1:=bpay_le l a 1 6;have h2:=v.len;omega) hcp.2.1 hcp.2.2.1
 have Z1:=yH (heap_alloc_new w (.cells dz 65))
 have s1:=yH (show w.heap.size<(w.alloc (.cells dz 65)).heap.size by simp)
 unfold ReadD at HV⊢
 unfold hcode9
 generalize ofS (keyB h.ic) (idL h.I) (bpay l a 1 6)=y0 at*
 generalize bnum l a 1 6 0=x0 at*
 generalize bnum l a 1 6 1=x1 at*
 generalize bnum l a 1 6 2=x2 at*
 generalize bnum l a 1 6 3=x3 at*
 generalize bnum l a 1 6 4=x4 at*
 generalize bnum l a 1 6 5=x5 at*
 generalize dcode h l n a=cd at*
 generalize bpay l a 1 6=pl at*
 clear v v1
 by_cases hz:cd=0
 ·subst hz
  rw[if_neg (by decide)]
  obtain⟨cc,hcc⟩: ∃c:Int,c=if x0=y0 then 0 else 9:=⟨_,rfl⟩
  rw[←hcc]
  have HCC:=yH hcc
  clear hcc
  go_enter Tryz.func223,Tryz.ntmps223
  go_upto_region 2 with(first
   |(go_at_call 229;(refine HV.out.mono ?_);rintro e w2 ⟨hb2,⟨hne,_⟩|⟨_,A2,m2,c2',rfl,hy2,hl2,hm2⟩⟩;(exact absurd rfl hne);have B2:=yH (b1.out.trans (hb2.mono b1.out.size));have HY2:=yH hy2;have Z2:=yH ((hb2.block _ s1.out).trans Z1.out);have SZ2:=yH (show w.heap.size<w2.heap.size from yL s1.out hb2.size);clear hb2 hy2)
   |((with_reducible apply at_store (.tmp 5) (.tmp 8));refine wpList_store_row rfl 65 (.tmp 5) (.tmp 8) rfl w2.heap.size #[.int .u64 x0,.int .u64 x1,.int .u64 x2,.int .u64 x3,.int .u64 x4,.int .u64 x5,.slice A2 m2 c2'] rfl rfl 65 dz (heap_alloc_new w2 _) (by kernel_rfl) rfl (by simp[Value.oneCell']) ?_)
   |fail)
  have R3:=yH (show Blk ((w2.alloc (.cells dz 65)).setRow w2.heap.size #[.int .u64 x0,.int .u64 x1,.int .u64 x2,.int .u64 x3,.int .u64 x4,.int .u64 x5,.slice A2 m2 c2']) w2.heap.size [.int .u64 x0,.int .u64 x1,.int .u64 x2,.int .u64 x3,.int .u64 x4,.int .u64 x5,.slice A2 m2 c2'] 65 from setRow_heap _ _ _ _ _ (0,0) (heap_alloc_new w2 _))
  have B23:=yH (show Below w2.heap.size w2 ((w2.alloc (.cells dz 65)).setRow w2.heap.size #[.int .u64 x0,.int .u64 x1,.int .u64 x2,.int .u64 x3,.int .u64 x4,.int .u64 x5,.slice A2 m2 c2'])from below_setRow ((Below.refl _ _).alloc (yR _) _) (yR _) _)
  generalize (w2.alloc (.cells dz 65)).setRow w2.heap.size #[.int .u64 x0,.int .u64 x1,.int .u64 x2,.int .u64 x3,.int .u64 x4,.int .u64 x5,.slice A2 m2 c2']=w3 at*
  have B3:=yH (B2.out.trans (B23.out.mono B2.out.size))
  have HY3:=yH (HY2.out.below B23.out (yR _))
  have Z3:=yH ((B23.out.block _ SZ2.out).trans Z2.out)
  have Z3s:=yH (show w.heap.size<w3.drew.heap.size from yL SZ2.out B23.out.size)
  have HS:=yH (HH.out A2 m2 c2' _ w3.drew B3.out.drew HY3.out.drew hl2 hm2)
  have Sd:=yH (show w3.drew.cell? ⟨w2.heap.size,0,none⟩=some (.int .u64 x0)∧w3.drew.cell? ⟨w2.heap.size,6,none⟩=some (.slice A2 m2 c2')from⟨R3.out.drew.cell (i:=0) rfl,R3.out.drew.cell (i:=6) rfl⟩)
  have HCp:=yH (hm2.mono (Nat.le_of_lt s1.out))
  generalize w2.heap.size=s5 at*
  clear HV HH hm2 B2 HY2 Z2 SZ2 B23
  by_cases he:x0=y0
  ·have hcc:=HCC.out
   rw[if_pos he]at hcc
   have HC0:=yH hcc
   clear hcc
   have d:(x0==y0)=true:=by simpa using he
   refine wp_region_held_drew (S:=fun W:World=>W.cell? ⟨s5,0,none⟩=some (.int .u64 x0)∧W.cell? ⟨s5,6,none⟩=some (.slice A2 m2 c2')) (by kernel_rfl) (by exact Sd.out) (fun hHeld=>?_)
   refine tk (i:=0) (oi:=⟨some 9,_,_,_,_,_⟩) (v:=?_) rfl (Or.inl ⟨by rfl,?_⟩) ?_
   rotate_left
   ·intro W hSw;obtain⟨x0,x1⟩:=hSw;go_simp;try (with_reducible rfl)
   try simp only[Act.put,sA,sZ,sS]
   refine tk (i:=1) (oi:=⟨some 10,_,_,_,_,_⟩) (v:=?_) rfl (Or.inl ⟨by rfl,?_⟩) ?_
   rotate_left
   ·intro W hSw;obtain⟨x0,x1⟩:=hSw;go_simp;try (with_reducible rfl)
   try simp only[Act.put,sA,sZ,sS]
   refine tk (i:=2) (oi:=⟨some 11,_,_,_,_,_⟩) (v:=?_) rfl (Or.inl ⟨by rfl,?_⟩) ?_
   rotate_left
   ·intro W hSw;obtain⟨x0,x1⟩:=hSw;go_simp;try (with_reducible rfl)
   try simp only[Act.put,sA,sZ,sS]
   refine tk (i:=3) (oi:=⟨some 12,_,_,_,_,_⟩) (v:=?_) rfl (Or.inl ⟨by rfl,?_⟩) ?_
   rotate_left
   ·intro W hSw;obtain⟨x0,x1⟩:=hSw;go_simp;try (with_reducible rfl)
   try simp only[Act.put,sA,sZ,sS]
   refine tk (i:=4) (oi:=⟨some 13,_,_,_,_,_⟩) (v:=?_) rfl (Or.inl ⟨by rfl,?_⟩) ?_
   rotate_left
   ·intro W hSw;obtain⟨x0,x1⟩:=hSw;go_simp;try (with_reducible rfl)
   try simp only[Act.put,sA,sZ,sS]
   refine wpAnyH_ready (rs:=[5]) (by kernel_rfl) (by simp) ?_
   refine AllReadyH.cons (o:=⟨some 14,_,_,_,_,_⟩) rfl (fun K hK=>?_) AllReadyH.nil
   go_simp
   ((refine HS.out.mono ?_);rintro e w4 ⟨rfl,hb4⟩;have B4:=yH (B3.out.drew.trans (hb4.mono B3.out.size));have R4:=yH (R3.out.drew.below hb4 R3.out.lt);have HY4:=yH (HY3.out.drew.below hb4 (yR _));have S4:=yH (show w4.cell? ⟨s5,0,none⟩=some (.int .u64 x0)∧w4.cell? ⟨s5,6,none⟩=some (.slice A2 m2 c2')from⟨R4.out.cell (i:=0) rfl,R4.out.cell (i:=6) rfl⟩);have Z4:=yH ((hb4.block _ Z3s.out).trans Z3.out);clear hb4)
   try go_wp2_with fail
   refine hK.out _ _ (by exact S4.out) (fun hHeld=>?_)
   clear hK K
   try simp only[Act.put,sA,sZ,sS]
   refine tk (i:=6) (oi:=⟨some 15,_,_,_,_,_⟩) (v:=?_) rfl (Or.inl ⟨by rfl,?_⟩) ?_
   rotate_left
   ·intro W hSw;obtain⟨x0,x1⟩:=hSw;go_simp;try (with_reducible rfl)
   try simp only[Act.put,sA,sZ,sS]
   refine wpAnyH_ready (rs:=[7]) (by kernel_rfl) (by simp) ?_
   refine AllReadyH.cons (o:=⟨some 16,_,_,_,_,_⟩) rfl (fun K hK=>?_) AllReadyH.nil
   go_simp
   ((refine(need_yes 9 _).mono ?_);rintro e w5 ⟨rfl,rfl⟩)
   try go_wp2_with fail
   refine hK.out _ _ (by exact S4.out) (fun hHeld=>?_)
   clear hK K
   try simp only[Act.put,sA,sZ,sS]
   refine wpAnyH_done (by kernel_rfl) ?_ _
   go_wp2_with(first
    |((with_reducible apply at_slot 17);refine wpList_load_row rfl 65 (.tmp 5) rfl s5 rfl 65 #[.int .u64 x0,.int .u64 x1,.int .u64 x2,.int .u64 x3,.int .u64 x4,.int .u64 x5,.slice A2 m2 c2'] (0,0) _ R4.out Tryz.underlying65 rfl (by kernel_rfl) ?_)
    |((with_reducible apply at_store (.tmp 4) (.tmp 17));refine wpList_store_row rfl 65 (.tmp 4) (.tmp 17) rfl w.heap.size #[.int .u64 x0,.int .u64 x1,.int .u64 x2,.int .u64 x3,.int .u64 x4,.int .u64 x5,.slice A2 m2 c2'] rfl rfl 65 dz Z4.out (by kernel_rfl) rfl (by simp[Value.oneCell']) ?_)
    |fail)
   refine bodyPost_ret (v:=dataV x0 x1 x2 x3 x4 x5 A2 m2 c2') (by exact results_cell_row Tryz.results223 _ _ w.heap.size 65 _ (0,0) _ rfl (setRow_heap _ w.heap.size _ _ _ (0,0) Z4.out) Tryz.underlying65 rfl (by kernel_rfl)) rfl ?_
   have b5:=below_setRow (B:=w.heap.size) B4.out (yR _) #[.int .u64 x0,.int .u64 x1,.int .u64 x2,.int .u64 x3,.int .u64 x4,.int .u64 x5,.slice A2 m2 c2']
   exact⟨b5,.inr ⟨HC0.out,A2,m2,c2',rfl,bytes_apart HY4.out Z4.out _,hl2,HCp.out⟩⟩
  ·have hcc:=HCC.out
   rw[if_neg he]at hcc
   have HC9:=yH hcc
   clear hcc
   have d:(x0==y0)=false:=by simpa using he
   refine wp_region_held_drew (S:=fun W:World=>W.cell? ⟨s5,0,none⟩=some (.int .u64 x0)∧W.cell? ⟨s5,6,none⟩=some (.slice A2 m2 c2')) (by kernel_rfl) (by exact Sd.out) (fun hHeld=>?_)
   refine tk (i:=0) (oi:=⟨some 9,_,_,_,_,_⟩) (v:=?_) rfl (Or.inl ⟨by rfl,?_⟩) ?_
   rotate_left
   ·intro W hSw;obtain⟨x0,x1⟩:=hSw;go_simp;try (with_reducible rfl)
   try simp only[Act.put,sA,sZ,sS]
   refine tk (i:=1) (oi:=⟨some 10,_,_,_,_,_⟩) (v:=?_) rfl (Or.inl ⟨by rfl,?_⟩) ?_
   rotate_left
   ·intro W hSw;obtain⟨x0,x1⟩:=hSw;go_simp;try (with_reducible rfl)
   try simp only[Act.put,sA,sZ,sS]
   refine tk (i:=2) (oi:=⟨some 11,_,_,_,_,_⟩) (v:=?_) rfl (Or.inl ⟨by rfl,?_⟩) ?_
   rotate_left
   ·intro W hSw;obtain⟨x0,x1⟩:=hSw;go_simp;try (with_reducible rfl)
   try simp only[Act.put,sA,sZ,sS]
   refine tk (i:=3) (oi:=⟨some 12,_,_,_,_,_⟩) (v:=?_) rfl (Or.inl ⟨by rfl,?_⟩) ?_
   rotate_left
   ·intro W hSw;obtain⟨x0,x1⟩:=hSw;go_simp;try (with_reducible rfl)
   try simp only[Act.put,sA,sZ,sS]
   refine tk (i:=4) (oi:=⟨some 13,_,_,_,_,_⟩) (v:=?_) rfl (Or.inl ⟨by rfl,?_⟩) ?_
   rotate_left
   ·intro W hSw;obtain⟨x0,x1⟩:=hSw;go_simp;try (with_reducible rfl)
   try simp only[Act.put,sA,sZ,sS]
   refine wpAnyH_ready (rs:=[5]) (by kernel_rfl) (by simp) ?_
   refine AllReadyH.cons (o:=⟨some 14,_,_,_,_,_⟩) rfl (fun K hK=>?_) AllReadyH.nil
   go_simp
   ((refine HS.out.mono ?_);rintro e w4 ⟨rfl,hb4⟩;have B4:=yH (B3.out.drew.trans (hb4.mono B3.out.size));have R4:=yH (R3.out.drew.below hb4 R3.out.lt);have HY4:=yH (HY3.out.drew.below hb4 (yR _));have S4:=yH (show w4.cell? ⟨s5,0,none⟩=some (.int .u64 x0)∧w4.cell? ⟨s5,6,none⟩=some (.slice A2 m2 c2')from⟨R4.out.cell (i:=0) rfl,R4.out.cell (i:=6) rfl⟩);have Z4:=yH ((hb4.block _ Z3s.out).trans Z3.out);clear hb4)
   try go_wp2_with fail
   refine hK.out _ _ (by exact S4.out) (fun hHeld=>?_)
   clear hK K
   try simp only[Act.put,sA,sZ,sS]
   refine tk (i:=6) (oi:=⟨some 15,_,_,_,_,_⟩) (v:=?_) rfl (Or.inl ⟨by rfl,?_⟩) ?_
   rotate_left
   ·intro W hSw;obtain⟨x0,x1⟩:=hSw;go_simp;try (with_reducible rfl)
   try simp only[Act.put,sA,sZ,sS]
   refine wpAnyH_ready (rs:=[7]) (by kernel_rfl) (by simp) ?_
   refine AllReadyH.cons (o:=⟨some 16,_,_,_,_,_⟩) rfl (fun K hK=>?_) AllReadyH.nil
   go_simp
   ((refine(need_no 9 _).mono ?_);rintro e w5 ⟨rfl,rfl⟩;exact⟨rfl,B4.out,.inl ⟨by rw[HC9.out];decide,by rw[HC9.out]⟩⟩)
 ·rw[if_pos hz]
  go_enter Tryz.func223,Tryz.ntmps223
  go_wp2_with(first
   |(go_at_call 229;(refine HV.out.mono ?_);rintro e w3 ⟨hb3,⟨_,rfl⟩|⟨he,_⟩⟩;rotate_left;(exact absurd he hz);have B3:=yH (b1.out.trans (hb3.mono b1.out.size));clear hb3)
   |fail)
  exact⟨rfl,B3.out,.inl ⟨hz,rfl⟩⟩
end Rk
namespace Rl
open Rd (dz)
open Re (load_code ReadD)
attribute [local irreducible] wpList Code.wp
end Rl
end Go.Proofs.YtiddkgcafpaekaaGreat
