/-
  Texts beneath the proof.
-/
import Derived.Test.YtlelnfokffflnaaGreatQl32
set_option linter.unusedVariables false
set_option linter.unusedSimpArgs false
set_option maxRecDepth 100000
set_option maxHeartbeats 4000000
open Go.ChangeShapes Go.WideShapes Go.ChangeAt Go.RowKit
namespace Go.Proofs.YtlelnfokffflnaaGreat
namespace Ri
open Bytes8 Blk8 Own8 OwnE Rows2 Ob Ga Gb Ok7 Rc
open Kf Yc Yp Yd Ye Yg Yh Rh
open Re (aAw aAI)
abbrev ez:Array Value:=zL.toArray
theorem new_ne {B:Nat}{A:Option Addr}(h:NewIn B A){g:Nat}(c:g<B): ∀b off,A=some ⟨b,off,none⟩→b≠g:=fun b off e=>Nat.ne_of_gt (yL c (h b off e))
theorem new_mono {B C:Nat}{A:Option Addr}(h:NewIn B A)(c:C≤B):NewIn C A:=fun b off e=>Nat.le_trans c (h b off e)
attribute [local irreducible] wpList Code.wp
def ecode9 (h:HD)(l:List Int)(n a:Nat):Int:=if h.N 0≤(a:Int)∧a<n then entC0 l a else 2
theorem aNs {b:Nat}{h:HD}{A:Option Addr}{n c:Nat}{l:List Int}(a:Nat)(w:World)(v:ViewAt w b h A n c l)(g: ¬(h.N 0≤(a:Int)∧a<n)):
 Calls Tryz.prog 177 #[.pointer (some ⟨b,0,none⟩),.int .u64 (a:Int)] w fun e w'=>e= .panicked [haltE 2]∧Below w.heap.size w w':=by
 have f:=yH (aHH (a:Int) _ (v.below ((Below.refl _ _).alloc (yR _) (.cells ez 239))) (by omega))
 have d:=yH ((Below.refl w.heap.size w).alloc (yR _) (.cells ez 239))
 clear v g
 go_enter Tryz.func177,Tryz.ntmps177
 go_wp2_with(first
  |(go_at_call 182;(refine f.out.mono ?_);rintro e w1 ⟨rfl,rfl⟩)
  |fail)
 exact⟨rfl,rfl,d.out⟩
theorem aO9 {H:Nat}{h:HD}{A:Option Addr}{n c:Nat}{l:List Int}(a:Nat)(w:World)(v:ViewAt w H h A n c l)(D:c≤maxLen)(J:h.N 0≤(a:Int)∧a<n):
 Calls Tryz.prog 177 #[.pointer (some ⟨H,0,none⟩),.int .u64 (a:Int)] w fun e w'=>Below w.heap.size w w'∧
  ((entC0 l a≠0∧e= .panicked [haltE (entC0 l a)])∨(entC0 l a=0∧ ∃A' c',e= .returned (entV (eNum l a 0) (eNum l a 8) (eNum l a 16) (eK l a) (eNum l a 40) A' (eN l a) c')∧In2 w' A' (eN l a) (itA (bodyL l a)) (itH (bodyL l a))∧NewIn w.heap.size A')):=by
 have o:=v.below ((Below.refl _ _).alloc (yR _) (.cells ez 239))
 have I:=yH (aFF (a:Int) _ o J.1 (by omega))
 have G:=yH (aMy A l n c a _ o.by_ o.len o.big o.cap D (by have:=v.big;omega))
 have x:=yH ((Below.refl w.heap.size w).alloc (yR _) (.cells ez 239))
 have M:=yH (heap_alloc_new w (.cells ez 239))
 have F:=yH (show w.heap.size<(w.alloc (.cells ez 239)).heap.size by simp)
 unfold EntTold2 at G
 generalize eNum l a 0=p at*
 generalize eNum l a 8=t at*
 generalize eNum l a 16=g at*
 generalize eNum l a 40=d at*
 generalize eK l a=s at*
 generalize eN l a=u at*
 generalize itA (bodyL l a)=V at*
 generalize entC0 l a=cd at*
 generalize itH (bodyL l a)=fh at*
 clear v o J
 by_cases E:cd=0
 ·subst E
  go_enter Tryz.func177,Tryz.ntmps177
  go_wp2_with(first
   |(go_at_call 182;(refine I.out.mono ?_);rintro e w1 ⟨rfl,rfl⟩)
   |(go_at_call 222;(refine G.out.mono ?_);rintro e w2 ⟨j,m,rfl,f,i,k⟩;have r:=yH f;have C:=yH i;have q:=yH k;clear f i k)
   |(go_at_call 221;(refine(aNr (entL p t g s d j u m).toArray rfl (aBB _ _ _ _ _ _ _ _) w2).mono ?_);rintro e w3 ⟨rfl,b⟩;have y:=yH (r.out.trans (b.mono r.out.size));have z:=yH (C.out.keep b);have L:=yH ((y.out.block _ F.out).trans M.out);clear b)
   |((with_reducible apply aAa (.tmp 4) (.tmp 12));refine wpList_store_row rfl 239 (.tmp 4) (.tmp 12) rfl w.heap.size (entL p t g s d j u m).toArray rfl rfl 239 ez L.out (by kernel_rfl) rfl (by first|exact aBB _ _ _ _ _ _ _ _|exact aCt) ?_)
   |fail)
  refine bodyPost_ret (v:=entV p t g s d j u m) (by exact results_cell_row Tryz.results177 _ _ w.heap.size 239 _ (0,0) _ rfl (setRow_heap _ w.heap.size _ _ _ (0,0) L.out) Tryz.underlying239 rfl (by kernel_rfl)) rfl ?_
  have R:=below_setRow (B:=w.heap.size) (x.out.trans (y.out.mono x.out.size)) (yR _) (entL p t g s d j u m).toArray
  exact⟨R,.inr ⟨trivial,j,m,rfl,In2.setRow z.out (new_ne q.out F.out) _,new_mono q.out (Nat.le_of_lt F.out)⟩⟩
 ·go_enter Tryz.func177,Tryz.ntmps177
  go_wp2_with(first
   |(go_at_call 182;(refine I.out.mono ?_);rintro e w1 ⟨rfl,rfl⟩)
   |(go_at_call 222;(refine G.out.mono ?_);rintro e w2 ⟨j,m,rfl,f,i,k⟩;have r:=yH (x.out.trans (f.mono x.out.size));clear f i)
   |(go_at_call 221;(refine(aO8 (entL p t g s d j u m).toArray cd E w2).mono ?_);rintro e w3 ⟨rfl,b⟩;have y:=yH (r.out.trans (b.mono r.out.size));clear b)
   |fail)
  exact⟨rfl,y.out,.inl ⟨E,rfl⟩⟩
def ReadE (B:Nat)(l:List Int)(a:Nat)(cd:Int)(e:Ending)(w':World):Prop:=
 (cd≠0∧e= .panicked [haltE cd])∨(cd=0∧ ∃A' c',e= .returned (entV (eNum l a 0) (eNum l a 8) (eNum l a 16) (eK l a) (eNum l a 40) A' (eN l a) c')∧In2 w' A' (eN l a) (itA (bodyL l a)) (itH (bodyL l a))∧NewIn B A')
theorem aNt {f:Nat}{h:HD}{A:Option Addr}{n c:Nat}{l:List Int}(a:Nat)(w:World)(v:ViewAt w f h A n c l)(d:c≤maxLen):
 Calls Tryz.prog 177 #[.pointer (some ⟨f,0,none⟩),.int .u64 (a:Int)] w fun e w'=>Below w.heap.size w w'∧ReadE w.heap.size l a (ecode9 h l n a) e w':=by
 unfold ReadE ecode9
 by_cases b:h.N 0≤(a:Int)∧a<n
 ·rw[if_pos b]
  exact aO9 a w v d b
 ·rw[if_neg b]
  refine(aNs a w v b).mono ?_
  rintro e w' ⟨rfl,g⟩
  exact⟨g,.inl ⟨by decide,rfl⟩⟩
end Ri
namespace Rj
open Bytes8 Blk8 Own8 OwnE Rows2 Ga Gb Ok7 Np Sg Ra Rc
def keyB (ic:Int):Bool:=bits .and .u32 ic 4 !=0
theorem aEm {w:World}{c:Nat}{h:HD}{b v:Value}(f:Blk w c (viewC h b) 141){i:Nat}(d:(h.cells 21)[i]? =some v):w.cell? ⟨c,i,none⟩=some v:=by
 refine f.cell ?_
 unfold viewC
 rw[List.getElem?_append_left (List.getElem?_eq_some_iff.1 d).1]
 exact d
theorem aLl (h:HD):(h.cells 21)[1]? =some (.int .u32 h.ic):=by
 rw[h.get 21 1 (by decide)]
 rfl
theorem aLm {w:World}{c:Nat}{h:HD}{b:Value}(f:Blk w c (viewC h b) 141):w.rangeAt c 3 (idJ h.I):=fun j v hj=>by
 have d:j<16:=(List.getElem?_eq_some_iff.1 hj).1
 refine aEm f ((h.get_I 21 j (by omega)).trans ?_)
 rw[aC7 h.I j d]at hj
 exact hj
theorem I_ok {h:HD}(b:h.Ok 21):IdOk h.I:=fun i=>b.I i
attribute [local irreducible] HD.cells wpList Code.wp
theorem aLn {b:Nat}{h:HD}{A:Option Addr}{n c:Nat}{l:List Int}(m:Option Addr)(g:List Int)(f k:Nat)(w:World)(v:ViewAt w b h A n c l)(u:Bytes w m g)(r:g.length=f)(y:f≤800000)(x:f≤k)(q:k≤maxLen):
 Calls Tryz.prog 23 #[.pointer (some ⟨b,0,none⟩),.slice m f k] w fun e w'=>e= .returned (.int .u64 (ofS (keyB h.ic) (idL h.I) g))∧Below w.heap.size w w':=by
 have o:=yH fun(t:Bool)=>aQh t h.I m g f k w.drew (I_ok v.ok) u.drew r y x q
 have s:=aEm v.blk (aLl h)
 have C:=yH (show w.drew.cell? ⟨b,1,none⟩=some (.int .u32 h.ic)∧w.drew.rangeAt b 3 (idJ h.I)from⟨s,aLm v.blk⟩)
 have D:=yH (show Below w.heap.size w w.drew from(Below.refl w.heap.size w).drew)
 have j:=yH v.blk
 clear v s u r
 go_enter Tryz.func23,Tryz.ntmps23
 go_upto_region 1 with fail
 refine wp_region_noPanic ?_
 refine wp_region_held_drew (S:=fun W:World=>W.cell? ⟨b,1,none⟩=some (.int .u32 h.ic)∧W.rangeAt b 3 (idJ h.I)) (by kernel_rfl) (by exact C.out) (fun hHeld=>?_)
 refine tq 0 5 rfl (fun W hSw=>by go_simp;try (with_reducible rfl)) ?_
 try simp only[Act.put,sA,sZ,sS]
 refine tq 1 6 rfl (fun W hSw=>by go_simp;try (with_reducible rfl)) ?_
 try simp only[Act.put,sA,sZ,sS]
 refine tq 2 7 rfl (fun W hSw=>by go_simp;try (with_reducible rfl)) ?_
 try simp only[Act.put,sA,sZ,sS]
 refine tq 3 8 rfl (fun W hSw=>by go_simp;try (with_reducible rfl)) ?_
 try simp only[Act.put,sA,sZ,sS]
 refine tq 4 9 rfl (fun W hSw=>by have z:=hSw.1;go_simp;try (with_reducible rfl)) ?_
 try simp only[Act.put,sA,sZ,sS]
 refine tq 5 10 rfl (fun W hSw=>by go_simp;try (with_reducible rfl)) ?_
 try simp only[Act.put,sA,sZ,sS]
 refine tq 6 11 rfl (fun W hSw=>by go_simp;try (with_reducible rfl)) ?_
 try simp only[Act.put,sA,sZ,sS]
 refine tq 7 12 rfl (fun W hSw=>by go_simp;try (with_reducible rfl)) ?_
 try simp only[Act.put,sA,sZ,sS]
 refine tq 8 13 rfl (fun W hSw=>by go_simp;try (with_reducible rfl)) ?_
 try simp only[Act.put,sA,sZ,sS]
 refine tq 9 14 rfl (fun W hSw=>by go_simp;try (with_reducible rfl)) ?_
 try simp only[Act.put,sA,sZ,sS]
 refine tq 10 15 rfl (fun W hSw=>by go_simp;try (with_reducible rfl)) ?_
 try simp only[Act.put,sA,sZ,sS]
 refine tk (i:=11) (oi:=⟨some 16,_,_,_,_,_⟩) rfl (yieldsIf_load_mid (by rfl) _ _ rfl _ _ rfl _ _ (fun _ h=>h.2) Tryz.underlying37 rfl (aBl _)) ?_
 try simp only[Act.put,sA,sZ,sS]
 refine tq 12 17 rfl (fun W hSw=>by go_simp;try (with_reducible rfl)) ?_
 try simp only[Act.put,sA,sZ,sS]
 refine rd 13 rfl (fun K hK=>?_)
 go_simp
 ((refine(o.out _).mono ?_);rintro e w2 ⟨rfl,d⟩;have p:=yH (D.out.trans d);have B:=yH (show w2.cell? ⟨b,1,none⟩=some (.int .u32 h.ic)∧w2.rangeAt b 3 (idJ h.I)from⟨aEm (j.out.below p.out j.out.lt) (aLl h),aLm (j.out.below p.out j.out.lt)⟩);clear d)
 try go_wp2_with fail
 refine hK.out _ _ (by exact B.out) (fun hHeld=>?_)
 clear hK K
 try simp only[Act.put,sA,sZ,sS]
 refine tq 14 4 rfl (fun W hSw=>by go_simp;try (with_reducible rfl)) ?_
 try simp only[Act.put,sA,sZ,sS]
 refine wpAnyH_done (by kernel_rfl) ?_ _
 refine NoPanic.normal ?_
 go_wp2
 go_ret
 exact⟨rfl,p.out⟩
end Rj
namespace Rk
open Bytes8 Blk8 Own8 OwnE Rows2 Ob Ga Gb Oj Ok7 Np Sg Rc Rd Re Rj
def hcode9 (h:HD)(l:List Int)(n a:Nat):Int:=if dcode h l n a≠0 then dcode h l n a else if bnum l a 1 6 0=ofS (keyB h.ic) (idL h.I) (bpay l a 1 6)then 0 else 9
theorem aFH (l:List Int)(a:Nat)(k:Int)(n:Nat):(bpay l a k n).length≤l.length:=by
 unfold bpay
 split
 ·rw[List.length_drop]
  unfold bodyL
  rw[List.length_take,List.length_drop]
  omega
 ·exact Nat.zero_le _
attribute [local irreducible] wpList Code.wp ofS bnum bpay bcode
theorem aJJ {gv:Nat}{h:HD}{A:Option Addr}{n c:Nat}{l:List Int}(a:Nat)(w:World)(v:ViewAt w gv h A n c l)(ab:c≤maxLen)(h8:n≤800000):
 Calls Tryz.prog 206 #[.pointer (some ⟨gv,0,none⟩),.int .u64 (a:Int)] w fun e w'=>Below w.heap.size w w'∧ReadD w.heap.size l a (hcode9 h l n a) e w':=by
 have R:=yH ((Below.refl w.heap.size w).alloc (yR _) (.cells dz 283))
 have v1:=v.below R.out
 have HV:=yH (aLk a _ v1 ab)
 have HH:=yH fun(m:Option Addr) (o c2:Nat) (B:Nat) (W:World) (hW:Below w.heap.size w W) (hb:Bytes W m (bpay l a 1 6)) (hL:(bpay l a 1 6).length=o) (hcp:Cap B m o c2)=>aLn m (bpay l a 1 6) o c2 W (v.below hW) hb hL (by have h1:=aFH l a 1 6;have h2:=v.len;omega) hcp.2.1 hcp.2.2.1
 have Z1:=yH (heap_alloc_new w (.cells dz 283))
 have s1:=yH (show w.heap.size<(w.alloc (.cells dz 283)).heap.size by simp)
 unfold ReadD at HV⊢
 unfold hcode9
 generalize ofS (keyB h.ic) (idL h.I) (bpay l a 1 6)=y0 at*
 generalize bnum l a 1 6 0=f at*
 generalize bnum l a 1 6 1=k at*
 generalize bnum l a 1 6 2=u at*
 generalize bnum l a 1 6 3=x at*
 generalize bnum l a 1 6 4=t at*
 generalize bnum l a 1 6 5=q at*
 generalize dcode h l n a=cd at*
 generalize bpay l a 1 6=pl at*
 clear v v1
 by_cases Z:cd=0
 ·subst Z
  rw[if_neg (by decide)]
  obtain⟨cc,g⟩: ∃c:Int,c=if f=y0 then 0 else 9:=⟨_,rfl⟩
  rw[←g]
  have J:=yH g
  clear g
  go_enter Tryz.func206,Tryz.ntmps206
  go_upto_region 2 with(first
   |(go_at_call 212;(refine HV.out.mono ?_);rintro e w2 ⟨s,⟨aa,_⟩|⟨_,m,o,b,rfl,V,X,z⟩⟩;(exact absurd rfl aa);have B2:=yH (R.out.trans (s.mono R.out.size));have N:=yH V;have Z2:=yH ((s.block _ s1.out).trans Z1.out);have C:=yH (show w.heap.size<w2.heap.size from yL s1.out s.size);clear s V)
   |((with_reducible apply aAa (.tmp 5) (.tmp 8));refine wpList_store_row rfl 283 (.tmp 5) (.tmp 8) rfl w2.heap.size #[.int .u64 f,.int .u64 k,.int .u64 u,.int .u64 x,.int .u64 t,.int .u64 q,.slice m o b] rfl rfl 283 dz (heap_alloc_new w2 _) (by kernel_rfl) rfl (by simp[Value.oneCell']) ?_)
   |fail)
  have E:=yH (show Blk ((w2.alloc (.cells dz 283)).setRow w2.heap.size #[.int .u64 f,.int .u64 k,.int .u64 u,.int .u64 x,.int .u64 t,.int .u64 q,.slice m o b]) w2.heap.size [.int .u64 f,.int .u64 k,.int .u64 u,.int .u64 x,.int .u64 t,.int .u64 q,.slice m o b] 283 from setRow_heap _ _ _ _ _ (0,0) (heap_alloc_new w2 _))
  have p:=yH (show Below w2.heap.size w2 ((w2.alloc (.cells dz 283)).setRow w2.heap.size #[.int .u64 f,.int .u64 k,.int .u64 u,.int .u64 x,.int .u64 t,.int .u64 q,.slice m o b])from below_setRow ((Below.refl _ _).alloc (yR _) _) (yR _) _)
  generalize (w2.alloc (.cells dz 283)).setRow w2.heap.size #[.int .u64 f,.int .u64 k,.int .u64 u,.int .u64 x,.int .u64 t,.int .u64 q,.slice m o b]=w3 at*
  have D:=yH (B2.out.trans (p.out.mono B2.out.size))
  have y:=yH (N.out.below p.out (yR _))
  have Z3:=yH ((p.out.block _ C.out).trans Z2.out)
  have L:=yH (show w.heap.size<w3.drew.heap.size from yL C.out p.out.size)
  have HS:=yH (HH.out m o b _ w3.drew D.out.drew y.out.drew X z)
  have Sd:=yH (show w3.drew.cell? ⟨w2.heap.size,0,none⟩=some (.int .u64 f)∧w3.drew.cell? ⟨w2.heap.size,6,none⟩=some (.slice m o b)from⟨E.out.drew.cell (i:=0) rfl,E.out.drew.cell (i:=6) rfl⟩)
  have ac:=yH (z.mono (Nat.le_of_lt s1.out))
  generalize w2.heap.size=r at*
  clear HV HH z B2 N Z2 C p
  by_cases F:f=y0
  ·have g:=J.out
   rw[if_pos F]at g
   have ad:=yH g
   clear g
   have d:(f==y0)=true:=by simpa using F
   refine wp_region_held_drew (S:=fun W:World=>W.cell? ⟨r,0,none⟩=some (.int .u64 f)∧W.cell? ⟨r,6,none⟩=some (.slice m o b)) (by kernel_rfl) (by exact Sd.out) (fun hHeld=>?_)
   refine tq 0 9 rfl (fun W hSw=>by obtain⟨f,k⟩:=hSw;go_simp;try (with_reducible rfl)) ?_
   try simp only[Act.put,sA,sZ,sS]
   refine tq 1 10 rfl (fun W hSw=>by obtain⟨f,k⟩:=hSw;go_simp;try (with_reducible rfl)) ?_
   try simp only[Act.put,sA,sZ,sS]
   refine tq 2 11 rfl (fun W hSw=>by obtain⟨f,k⟩:=hSw;go_simp;try (with_reducible rfl)) ?_
   try simp only[Act.put,sA,sZ,sS]
   refine tq 3 12 rfl (fun W hSw=>by obtain⟨f,k⟩:=hSw;go_simp;try (with_reducible rfl)) ?_
   try simp only[Act.put,sA,sZ,sS]
   refine tq 4 13 rfl (fun W hSw=>by obtain⟨f,k⟩:=hSw;go_simp;try (with_reducible rfl)) ?_
   try simp only[Act.put,sA,sZ,sS]
   refine rd 5 rfl (fun K hK=>?_)
   go_simp
   ((refine HS.out.mono ?_);rintro e w4 ⟨rfl,j⟩;have B4:=yH (D.out.drew.trans (j.mono D.out.size));have G:=yH (E.out.drew.below j E.out.lt);have M:=yH (y.out.drew.below j (yR _));have S4:=yH (show w4.cell? ⟨r,0,none⟩=some (.int .u64 f)∧w4.cell? ⟨r,6,none⟩=some (.slice m o b)from⟨G.out.cell (i:=0) rfl,G.out.cell (i:=6) rfl⟩);have Z4:=yH ((j.block _ L.out).trans Z3.out);clear j)
   try go_wp2_with fail
   refine hK.out _ _ (by exact S4.out) (fun hHeld=>?_)
   clear hK K
   try simp only[Act.put,sA,sZ,sS]
   refine tq 6 15 rfl (fun W hSw=>by obtain⟨f,k⟩:=hSw;go_simp;try (with_reducible rfl)) ?_
   try simp only[Act.put,sA,sZ,sS]
   refine rd 7 rfl (fun K hK=>?_)
   go_simp
   ((refine(aA4 9 _).mono ?_);rintro e w5 ⟨rfl,rfl⟩)
   try go_wp2_with fail
   refine hK.out _ _ (by exact S4.out) (fun hHeld=>?_)
   clear hK K
   try simp only[Act.put,sA,sZ,sS]
   refine wpAnyH_done (by kernel_rfl) ?_ _
   go_wp2_with(first
    |((with_reducible apply aAb 17);refine wpList_load_row rfl 283 (.tmp 5) rfl r rfl 283 #[.int .u64 f,.int .u64 k,.int .u64 u,.int .u64 x,.int .u64 t,.int .u64 q,.slice m o b] (0,0) _ G.out Tryz.underlying283 rfl (by kernel_rfl) ?_)
    |((with_reducible apply aAa (.tmp 4) (.tmp 17));refine wpList_store_row rfl 283 (.tmp 4) (.tmp 17) rfl w.heap.size #[.int .u64 f,.int .u64 k,.int .u64 u,.int .u64 x,.int .u64 t,.int .u64 q,.slice m o b] rfl rfl 283 dz Z4.out (by kernel_rfl) rfl (by simp[Value.oneCell']) ?_)
    |fail)
   refine bodyPost_ret (v:=dataV f k u x t q m o b) (by exact results_cell_row Tryz.results206 _ _ w.heap.size 283 _ (0,0) _ rfl (setRow_heap _ w.heap.size _ _ _ (0,0) Z4.out) Tryz.underlying283 rfl (by kernel_rfl)) rfl ?_
   have b5:=below_setRow (B:=w.heap.size) B4.out (yR _) #[.int .u64 f,.int .u64 k,.int .u64 u,.int .u64 x,.int .u64 t,.int .u64 q,.slice m o b]
   exact⟨b5,.inr ⟨ad.out,m,o,b,rfl,aEl M.out Z4.out _,X,ac.out⟩⟩
  ·have g:=J.out
   rw[if_neg F]at g
   have H:=yH g
   clear g
   have d:(f==y0)=false:=by simpa using F
   refine wp_region_held_drew (S:=fun W:World=>W.cell? ⟨r,0,none⟩=some (.int .u64 f)∧W.cell? ⟨r,6,none⟩=some (.slice m o b)) (by kernel_rfl) (by exact Sd.out) (fun hHeld=>?_)
   refine tq 0 9 rfl (fun W hSw=>by obtain⟨f,k⟩:=hSw;go_simp;try (with_reducible rfl)) ?_
   try simp only[Act.put,sA,sZ,sS]
   refine tq 1 10 rfl (fun W hSw=>by obtain⟨f,k⟩:=hSw;go_simp;try (with_reducible rfl)) ?_
   try simp only[Act.put,sA,sZ,sS]
   refine tq 2 11 rfl (fun W hSw=>by obtain⟨f,k⟩:=hSw;go_simp;try (with_reducible rfl)) ?_
   try simp only[Act.put,sA,sZ,sS]
   refine tq 3 12 rfl (fun W hSw=>by obtain⟨f,k⟩:=hSw;go_simp;try (with_reducible rfl)) ?_
   try simp only[Act.put,sA,sZ,sS]
   refine tq 4 13 rfl (fun W hSw=>by obtain⟨f,k⟩:=hSw;go_simp;try (with_reducible rfl)) ?_
   try simp only[Act.put,sA,sZ,sS]
   refine rd 5 rfl (fun K hK=>?_)
   go_simp
   ((refine HS.out.mono ?_);rintro e w4 ⟨rfl,j⟩;have B4:=yH (D.out.drew.trans (j.mono D.out.size));have G:=yH (E.out.drew.below j E.out.lt);have M:=yH (y.out.drew.below j (yR _));have S4:=yH (show w4.cell? ⟨r,0,none⟩=some (.int .u64 f)∧w4.cell? ⟨r,6,none⟩=some (.slice m o b)from⟨G.out.cell (i:=0) rfl,G.out.cell (i:=6) rfl⟩);have Z4:=yH ((j.block _ L.out).trans Z3.out);clear j)
   try go_wp2_with fail
   refine hK.out _ _ (by exact S4.out) (fun hHeld=>?_)
   clear hK K
   try simp only[Act.put,sA,sZ,sS]
   refine tq 6 15 rfl (fun W hSw=>by obtain⟨f,k⟩:=hSw;go_simp;try (with_reducible rfl)) ?_
   try simp only[Act.put,sA,sZ,sS]
   refine rd 7 rfl (fun K hK=>?_)
   go_simp
   ((refine(aBF 9 _).mono ?_);rintro e w5 ⟨rfl,rfl⟩;exact⟨rfl,B4.out,.inl ⟨by rw[H.out];decide,by rw[H.out]⟩⟩)
 ·rw[if_pos Z]
  go_enter Tryz.func206,Tryz.ntmps206
  go_wp2_with(first
   |(go_at_call 212;(refine HV.out.mono ?_);rintro e w3 ⟨Y,⟨_,rfl⟩|⟨F,_⟩⟩;rotate_left;(exact absurd F Z);have D:=yH (R.out.trans (Y.mono R.out.size));clear Y)
   |fail)
  exact⟨rfl,D.out,.inl ⟨Z,rfl⟩⟩
end Rk
namespace Rl
open Rd (dz)
open Re (aAI ReadD)
attribute [local irreducible] wpList Code.wp
end Rl
end Go.Proofs.YtlelnfokffflnaaGreat
