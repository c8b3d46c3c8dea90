/-
  Texts beneath.
-/
import Derived.Test.YteaikbodkgjkdaaGreatQl32
set_option linter.unusedVariables false
set_option linter.unusedSimpArgs false
set_option maxRecDepth 100000
set_option maxHeartbeats 4000000
open Go.ChangeShapes Go.WideShapes Go.ChangeAt Go.RowKit
namespace Go.Proofs.YteaikbodkgjkdaaGreat
namespace Ri
open Bytes8 Blk8 Own8 OwnE Rows2 Ob Ga Gb Ok7 Rc
open Kf Yc Yp Yd Ye Yg Yh Rh
open Re (aAw aAI)
abbrev ez:Array Value:=zL.toArray
theorem new_ne {B:Nat}{A:Option Addr}(h:NewIn B A){g:Nat}(a:g<B): ∀b off,A=some ⟨b,off,none⟩→b≠g:=fun b off e=>Nat.ne_of_gt (yL a (h b off e))
theorem new_mono {B C:Nat}{A:Option Addr}(h:NewIn B A)(a:C≤B):NewIn C A:=fun b off e=>Nat.le_trans a (h b off e)
attribute [local irreducible] wpList Code.wp
def ecode9 (h:HD)(l:List Int)(n a:Nat):Int:=if h.N 0≤(a:Int)∧a<n then entC0 l a else 2
theorem aNs {b:Nat}{h:HD}{A:Option Addr}{n c:Nat}{l:List Int}(a:Nat)(w:World)(v:ViewAt w b h A n c l)(f: ¬(h.N 0≤(a:Int)∧a<n)):
 Calls Tryz.prog 177 #[.pointer (some ⟨b,0,none⟩),.int .u64 (a:Int)] w fun e w'=>e= .panicked [haltE 2]∧Below w.heap.size w w':=by
 have g:=yH (aHE (a:Int) _ (v.below ((yB _ _).alloc (yR _) (.cells ez 299))) (by omega))
 have d:=yH ((yB w.heap.size w).alloc (yR _) (.cells ez 299))
 clear v f
 go_enter Tryz.func177,Tryz.ntmps177
 go_wp2_with(first
  |(go_at_call 188;(refine g.out.mono ?_);rintro e w1 ⟨rfl,rfl⟩)
  |fail)
 exact⟨rfl,rfl,d.out⟩
theorem aO9 {H:Nat}{h:HD}{A:Option Addr}{n c:Nat}{l:List Int}(a:Nat)(w:World)(v:ViewAt w H h A n c l)(z:c≤maxLen)(J:h.N 0≤(a:Int)∧a<n):
 Calls Tryz.prog 177 #[.pointer (some ⟨H,0,none⟩),.int .u64 (a:Int)] w fun e w'=>Below w.heap.size w w'∧
  ((entC0 l a≠0∧e= .panicked [haltE (entC0 l a)])∨(entC0 l a=0∧ ∃A' c',e= .returned (entV (eNum l a 0) (eNum l a 8) (eNum l a 16) (eK l a) (eNum l a 40) A' (eN l a) c')∧In2 w' A' (eN l a) (itA (bodyL l a)) (itH (bodyL l a))∧NewIn w.heap.size A')):=by
 have o:=v.below ((yB _ _).alloc (yR _) (.cells ez 299))
 have I:=yH (aFF (a:Int) _ o J.1 (by omega))
 have D:=yH (aMy A l n c a _ o.by_ o.len o.big o.cap z (by have:=v.big;omega))
 have x:=yH ((yB w.heap.size w).alloc (yR _) (.cells ez 299))
 have M:=yH (heap_alloc_new w (.cells ez 299))
 have G:=yH (show w.heap.size<(w.alloc (.cells ez 299)).heap.size by simp)
 unfold EntTold2 at D
 generalize eNum l a 0=r at*
 generalize eNum l a 8=p at*
 generalize eNum l a 16=f at*
 generalize eNum l a 40=d at*
 generalize eK l a=q at*
 generalize eN l a=t at*
 generalize itA (bodyL l a)=V at*
 generalize entC0 l a=cd at*
 generalize itH (bodyL l a)=fh at*
 clear v o J
 by_cases E:cd=0
 ·subst E
  go_enter Tryz.func177,Tryz.ntmps177
  go_wp2_with(first
   |(go_at_call 188;(refine I.out.mono ?_);rintro e w1 ⟨rfl,rfl⟩)
   |(go_at_call 205;(refine D.out.mono ?_);rintro e w2 ⟨m,k,rfl,g,i,j⟩;have u:=yH g;have C:=yH i;have s:=yH j;clear g i j)
   |(go_at_call 204;(refine(aNr (entL r p f q d m t k).toArray rfl (aBB _ _ _ _ _ _ _ _) w2).mono ?_);rintro e w3 ⟨rfl,b⟩;have y:=yH (u.out.trans (b.mono u.out.size));have F:=yH (C.out.keep b);have L:=yH ((y.out.block _ G.out).trans M.out);clear b)
   |((with_reducible apply aAa (.tmp 4) (.tmp 12));refine wpList_store_row rfl 299 (.tmp 4) (.tmp 12) rfl w.heap.size (entL r p f q d m t k).toArray rfl rfl 299 ez L.out (by kernel_rfl) rfl (by first|exact aBB _ _ _ _ _ _ _ _|exact aCt) ?_)
   |fail)
  refine bodyPost_ret (v:=entV r p f q d m t k) (by exact results_cell_row Tryz.results177 _ _ w.heap.size 299 _ (0,0) _ rfl (setRow_heap _ w.heap.size _ _ _ (0,0) L.out) Tryz.underlying299 rfl (by kernel_rfl)) rfl ?_
  have R:=below_setRow (B:=w.heap.size) (x.out.trans (y.out.mono x.out.size)) (yR _) (entL r p f q d m t k).toArray
  exact⟨R,.inr ⟨trivial,m,k,rfl,In2.setRow F.out (new_ne s.out G.out) _,new_mono s.out (Nat.le_of_lt G.out)⟩⟩
 ·go_enter Tryz.func177,Tryz.ntmps177
  go_wp2_with(first
   |(go_at_call 188;(refine I.out.mono ?_);rintro e w1 ⟨rfl,rfl⟩)
   |(go_at_call 205;(refine D.out.mono ?_);rintro e w2 ⟨m,k,rfl,g,i,j⟩;have u:=yH (x.out.trans (g.mono x.out.size));clear g i)
   |(go_at_call 204;(refine(aO8 (entL r p f q d m t k).toArray cd E w2).mono ?_);rintro e w3 ⟨rfl,b⟩;have y:=yH (u.out.trans (b.mono u.out.size));clear b)
   |fail)
  exact⟨rfl,y.out,.inl ⟨E,rfl⟩⟩
def ReadE (B:Nat)(l:List Int)(a:Nat)(cd:Int)(e:Ending)(w':World):Prop:=
 (cd≠0∧e= .panicked [haltE cd])∨(cd=0∧ ∃A' c',e= .returned (entV (eNum l a 0) (eNum l a 8) (eNum l a 16) (eK l a) (eNum l a 40) A' (eN l a) c')∧In2 w' A' (eN l a) (itA (bodyL l a)) (itH (bodyL l a))∧NewIn B A')
theorem aNt {f:Nat}{h:HD}{A:Option Addr}{n c:Nat}{l:List Int}(a:Nat)(w:World)(v:ViewAt w f h A n c l)(d:c≤maxLen):
 Calls Tryz.prog 177 #[.pointer (some ⟨f,0,none⟩),.int .u64 (a:Int)] w fun e w'=>Below w.heap.size w w'∧ReadE w.heap.size l a (ecode9 h l n a) e w':=by
 unfold ReadE ecode9
 by_cases b:h.N 0≤(a:Int)∧a<n
 ·rw[if_pos b]
  exact aO9 a w v d b
 ·rw[if_neg b]
  refine(aNs a w v b).mono ?_
  rintro e w' ⟨rfl,g⟩
  exact⟨g,.inl ⟨by decide,rfl⟩⟩
end Ri
namespace Rj
open Bytes8 Blk8 Own8 OwnE Rows2 Ga Gb Ok7 Np Sg Ra Rc
def keyB (ic:Int):Bool:=bits .and .u32 ic 4 !=0
theorem aEm {w:World}{a:Nat}{h:HD}{b v:Value}(d:Blk w a (viewC h b) 171){i:Nat}(c:(h.cells 21)[i]? =some v):w.cell? ⟨a,i,none⟩=some v:=by
 refine d.cell ?_
 unfold viewC
 rw[List.getElem?_append_left (List.getElem?_eq_some_iff.1 c).1]
 exact c
theorem aLk (h:HD):(h.cells 21)[1]? =some (.int .u32 h.ic):=by
 rw[h.get 21 1 (by decide)]
 rfl
theorem aLl {w:World}{a:Nat}{h:HD}{b:Value}(c:Blk w a (viewC h b) 171):w.rangeAt a 3 (idJ h.I):=fun j v hj=>by
 have d:j<16:=(List.getElem?_eq_some_iff.1 hj).1
 refine aEm c ((h.get_I 21 j (by omega)).trans ?_)
 rw[aC7 h.I j d]at hj
 exact hj
theorem I_ok {h:HD}(a:h.Ok 21):IdOk h.I:=fun i=>a.I i
attribute [local irreducible] HD.cells wpList Code.wp
theorem aLm {a:Nat}{h:HD}{A:Option Addr}{n c:Nat}{l:List Int}(m:Option Addr)(g:List Int)(b f:Nat)(w:World)(v:ViewAt w a h A n c l)(q:Bytes w m g)(r:g.length=b)(y:b≤800000)(z:b≤f)(k:f≤maxLen):
 Calls Tryz.prog 165 #[.pointer (some ⟨a,0,none⟩),.slice m b f] w fun e w'=>e= .returned (.int .u64 (ofS (keyB h.ic) (idL h.I) g))∧Below w.heap.size w w':=by
 have o:=yH fun(t:Bool)=>aQh t h.I m g b f w.drew (I_ok v.ok) q.drew r y z k
 have s:=aEm v.blk (aLk h)
 have x:=yH (show w.drew.cell? ⟨a,1,none⟩=some (.int .u32 h.ic)∧w.drew.rangeAt a 3 (idJ h.I)from⟨s,aLl v.blk⟩)
 have D:=yH (show Below w.heap.size w w.drew from(yB w.heap.size w).drew)
 have j:=yH v.blk
 clear v s q r
 go_enter Tryz.func165,Tryz.ntmps165
 go_upto_region 1 with fail
 refine wp_region_noPanic ?_
 refine wp_region_held_drew (S:=fun W:World=>W.cell? ⟨a,1,none⟩=some (.int .u32 h.ic)∧W.rangeAt a 3 (idJ h.I)) (by kernel_rfl) (by exact x.out) (fun hHeld=>?_)
 refine tq 0 5 rfl (fun W hSw=>by go_simp;try (with_reducible rfl)) ?_
 try simp only[Act.put,sA,sZ,sS]
 refine tq 1 6 rfl (fun W hSw=>by go_simp;try (with_reducible rfl)) ?_
 try simp only[Act.put,sA,sZ,sS]
 refine tq 2 7 rfl (fun W hSw=>by go_simp;try (with_reducible rfl)) ?_
 try simp only[Act.put,sA,sZ,sS]
 refine tq 3 8 rfl (fun W hSw=>by go_simp;try (with_reducible rfl)) ?_
 try simp only[Act.put,sA,sZ,sS]
 refine tq 4 9 rfl (fun W hSw=>by have B:=hSw.1;go_simp;try (with_reducible rfl)) ?_
 try simp only[Act.put,sA,sZ,sS]
 refine tq 5 10 rfl (fun W hSw=>by go_simp;try (with_reducible rfl)) ?_
 try simp only[Act.put,sA,sZ,sS]
 refine tq 6 11 rfl (fun W hSw=>by go_simp;try (with_reducible rfl)) ?_
 try simp only[Act.put,sA,sZ,sS]
 refine tq 7 12 rfl (fun W hSw=>by go_simp;try (with_reducible rfl)) ?_
 try simp only[Act.put,sA,sZ,sS]
 refine tq 8 13 rfl (fun W hSw=>by go_simp;try (with_reducible rfl)) ?_
 try simp only[Act.put,sA,sZ,sS]
 refine tq 9 14 rfl (fun W hSw=>by go_simp;try (with_reducible rfl)) ?_
 try simp only[Act.put,sA,sZ,sS]
 refine tq 10 15 rfl (fun W hSw=>by go_simp;try (with_reducible rfl)) ?_
 try simp only[Act.put,sA,sZ,sS]
 refine tk (i:=11) (oi:=⟨some 16,_,_,_,_,_⟩) rfl (yieldsIf_load_mid (by rfl) _ _ rfl _ _ rfl _ _ (fun _ h=>h.2) Tryz.underlying61 rfl (aBl _)) ?_
 try simp only[Act.put,sA,sZ,sS]
 refine tq 12 17 rfl (fun W hSw=>by go_simp;try (with_reducible rfl)) ?_
 try simp only[Act.put,sA,sZ,sS]
 refine rd 13 rfl (fun K hK=>?_)
 go_simp
 ((refine(o.out _).mono ?_);rintro e w2 ⟨rfl,d⟩;have p:=yH (D.out.trans d);have u:=yH (show w2.cell? ⟨a,1,none⟩=some (.int .u32 h.ic)∧w2.rangeAt a 3 (idJ h.I)from⟨aEm (j.out.below p.out j.out.lt) (aLk h),aLl (j.out.below p.out j.out.lt)⟩);clear d)
 try go_wp2_with fail
 refine hK.out _ _ (by exact u.out) (fun hHeld=>?_)
 clear hK K
 try simp only[Act.put,sA,sZ,sS]
 refine tq 14 4 rfl (fun W hSw=>by go_simp;try (with_reducible rfl)) ?_
 try simp only[Act.put,sA,sZ,sS]
 refine wpAnyH_done (by kernel_rfl) ?_ _
 refine NoPanic.normal ?_
 go_wp2
 go_ret
 exact⟨rfl,p.out⟩
end Rj
namespace Rk
open Bytes8 Blk8 Own8 OwnE Rows2 Ob Ga Gb Oj Ok7 Np Sg Rc Rd Re Rj
def hcode9 (h:HD)(l:List Int)(n a:Nat):Int:=if dcode h l n a≠0 then dcode h l n a else if bnum l a 1 6 0=ofS (keyB h.ic) (idL h.I) (bpay l a 1 6)then 0 else 9
theorem aFH (l:List Int)(a:Nat)(k:Int)(n:Nat):(bpay l a k n).length≤l.length:=by
 unfold bpay
 split
 ·rw[List.length_drop]
  unfold bodyL
  rw[List.length_take,List.length_drop]
  omega
 ·exact Nat.zero_le _
attribute [local irreducible] wpList Code.wp ofS bnum bpay bcode
theorem aJH {gv:Nat}{h:HD}{A:Option Addr}{n c:Nat}{l:List Int}(a:Nat)(w:World)(v:ViewAt w gv h A n c l)(ab:c≤maxLen)(h8:n≤800000):
 Calls Tryz.prog 179 #[.pointer (some ⟨gv,0,none⟩),.int .u64 (a:Int)] w fun e w'=>Below w.heap.size w w'∧ReadD w.heap.size l a (hcode9 h l n a) e w':=by
 have H:=yH ((yB w.heap.size w).alloc (yR _) (.cells dz 238))
 have v1:=v.below H.out
 have HV:=yH (aLj a _ v1 ab)
 have HH:=yH fun(o:Option Addr) (m c2:Nat) (B:Nat) (W:World) (hW:Below w.heap.size w W) (hb:Bytes W o (bpay l a 1 6)) (hL:(bpay l a 1 6).length=m) (hcp:Cap B o m c2)=>aLm o (bpay l a 1 6) m c2 W (v.below hW) hb hL (by have h1:=aFH l a 1 6;have h2:=v.len;omega) hcp.2.1 hcp.2.2.1
 have Z1:=yH (heap_alloc_new w (.cells dz 238))
 have s1:=yH (show w.heap.size<(w.alloc (.cells dz 238)).heap.size by simp)
 unfold ReadD at HV⊢
 unfold hcode9
 generalize ofS (keyB h.ic) (idL h.I) (bpay l a 1 6)=y0 at*
 generalize bnum l a 1 6 0=f at*
 generalize bnum l a 1 6 1=k at*
 generalize bnum l a 1 6 2=t at*
 generalize bnum l a 1 6 3=r at*
 generalize bnum l a 1 6 4=q at*
 generalize bnum l a 1 6 5=u at*
 generalize dcode h l n a=cd at*
 generalize bpay l a 1 6=pl at*
 clear v v1
 by_cases hz:cd=0
 ·subst hz
  rw[if_neg (by decide)]
  obtain⟨cc,g⟩: ∃c:Int,c=if f=y0 then 0 else 9:=⟨_,rfl⟩
  rw[←g]
  have X:=yH g
  clear g
  go_enter Tryz.func179,Tryz.ntmps179
  go_upto_region 2 with(first
   |(go_at_call 171;(refine HV.out.mono ?_);rintro e w2 ⟨s,⟨aa,_⟩|⟨_,o,m,b,rfl,M,N,z⟩⟩;(exact absurd rfl aa);have B2:=yH (H.out.trans (s.mono H.out.size));have L:=yH M;have Z2:=yH ((s.block _ s1.out).trans Z1.out);have y:=yH (show w.heap.size<w2.heap.size from yL s1.out s.size);clear s M)
   |((with_reducible apply aAa (.tmp 5) (.tmp 8));refine wpList_store_row rfl 238 (.tmp 5) (.tmp 8) rfl w2.heap.size #[.int .u64 f,.int .u64 k,.int .u64 t,.int .u64 r,.int .u64 q,.int .u64 u,.slice o m b] rfl rfl 238 dz (heap_alloc_new w2 _) (by kernel_rfl) rfl (by simp[Value.oneCell']) ?_)
   |fail)
  have E:=yH (show Blk ((w2.alloc (.cells dz 238)).setRow w2.heap.size #[.int .u64 f,.int .u64 k,.int .u64 t,.int .u64 r,.int .u64 q,.int .u64 u,.slice o m b]) w2.heap.size [.int .u64 f,.int .u64 k,.int .u64 t,.int .u64 r,.int .u64 q,.int .u64 u,.slice o m b] 238 from setRow_heap _ _ _ _ _ (0,0) (heap_alloc_new w2 _))
  have p:=yH (show Below w2.heap.size w2 ((w2.alloc (.cells dz 238)).setRow w2.heap.size #[.int .u64 f,.int .u64 k,.int .u64 t,.int .u64 r,.int .u64 q,.int .u64 u,.slice o m b])from below_setRow ((yB _ _).alloc (yR _) _) (yR _) _)
  generalize (w2.alloc (.cells dz 238)).setRow w2.heap.size #[.int .u64 f,.int .u64 k,.int .u64 t,.int .u64 r,.int .u64 q,.int .u64 u,.slice o m b]=w3 at*
  have D:=yH (B2.out.trans (p.out.mono B2.out.size))
  have C:=yH (L.out.below p.out (yR _))
  have Z3:=yH ((p.out.block _ y.out).trans Z2.out)
  have J:=yH (show w.heap.size<w3.drew.heap.size from yL y.out p.out.size)
  have HS:=yH (HH.out o m b _ w3.drew D.out.drew C.out.drew N z)
  have Sd:=yH (show w3.drew.cell? ⟨w2.heap.size,0,none⟩=some (.int .u64 f)∧w3.drew.cell? ⟨w2.heap.size,6,none⟩=some (.slice o m b)from⟨E.out.drew.cell (i:=0) rfl,E.out.drew.cell (i:=6) rfl⟩)
  have ad:=yH (z.mono (Nat.le_of_lt s1.out))
  generalize w2.heap.size=x at*
  clear HV HH z B2 L Z2 y p
  by_cases F:f=y0
  ·have g:=X.out
   rw[if_pos F]at g
   have ac:=yH g
   clear g
   have d:(f==y0)=true:=by simpa using F
   refine wp_region_held_drew (S:=fun W:World=>W.cell? ⟨x,0,none⟩=some (.int .u64 f)∧W.cell? ⟨x,6,none⟩=some (.slice o m b)) (by kernel_rfl) (by exact Sd.out) (fun hHeld=>?_)
   refine tq 0 9 rfl (fun W hSw=>by obtain⟨f,k⟩:=hSw;go_simp;try (with_reducible rfl)) ?_
   try simp only[Act.put,sA,sZ,sS]
   refine tq 1 10 rfl (fun W hSw=>by obtain⟨f,k⟩:=hSw;go_simp;try (with_reducible rfl)) ?_
   try simp only[Act.put,sA,sZ,sS]
   refine tq 2 11 rfl (fun W hSw=>by obtain⟨f,k⟩:=hSw;go_simp;try (with_reducible rfl)) ?_
   try simp only[Act.put,sA,sZ,sS]
   refine tq 3 12 rfl (fun W hSw=>by obtain⟨f,k⟩:=hSw;go_simp;try (with_reducible rfl)) ?_
   try simp only[Act.put,sA,sZ,sS]
   refine tq 4 13 rfl (fun W hSw=>by obtain⟨f,k⟩:=hSw;go_simp;try (with_reducible rfl)) ?_
   try simp only[Act.put,sA,sZ,sS]
   refine rd 5 rfl (fun K hK=>?_)
   go_simp
   ((refine HS.out.mono ?_);rintro e w4 ⟨rfl,j⟩;have B4:=yH (D.out.drew.trans (j.mono D.out.size));have G:=yH (E.out.drew.below j E.out.lt);have V:=yH (C.out.drew.below j (yR _));have S4:=yH (show w4.cell? ⟨x,0,none⟩=some (.int .u64 f)∧w4.cell? ⟨x,6,none⟩=some (.slice o m b)from⟨G.out.cell (i:=0) rfl,G.out.cell (i:=6) rfl⟩);have Z:=yH ((j.block _ J.out).trans Z3.out);clear j)
   try go_wp2_with fail
   refine hK.out _ _ (by exact S4.out) (fun hHeld=>?_)
   clear hK K
   try simp only[Act.put,sA,sZ,sS]
   refine tq 6 15 rfl (fun W hSw=>by obtain⟨f,k⟩:=hSw;go_simp;try (with_reducible rfl)) ?_
   try simp only[Act.put,sA,sZ,sS]
   refine rd 7 rfl (fun K hK=>?_)
   go_simp
   ((refine(aA4 9 _).mono ?_);rintro e w5 ⟨rfl,rfl⟩)
   try go_wp2_with fail
   refine hK.out _ _ (by exact S4.out) (fun hHeld=>?_)
   clear hK K
   try simp only[Act.put,sA,sZ,sS]
   refine wpAnyH_done (by kernel_rfl) ?_ _
   go_wp2_with(first
    |((with_reducible apply aAb 17);refine wpList_load_row rfl 238 (.tmp 5) rfl x rfl 238 #[.int .u64 f,.int .u64 k,.int .u64 t,.int .u64 r,.int .u64 q,.int .u64 u,.slice o m b] (0,0) _ G.out Tryz.underlying238 rfl (by kernel_rfl) ?_)
    |((with_reducible apply aAa (.tmp 4) (.tmp 17));refine wpList_store_row rfl 238 (.tmp 4) (.tmp 17) rfl w.heap.size #[.int .u64 f,.int .u64 k,.int .u64 t,.int .u64 r,.int .u64 q,.int .u64 u,.slice o m b] rfl rfl 238 dz Z.out (by kernel_rfl) rfl (by simp[Value.oneCell']) ?_)
    |fail)
   refine bodyPost_ret (v:=dataV f k t r q u o m b) (by exact results_cell_row Tryz.results179 _ _ w.heap.size 238 _ (0,0) _ rfl (setRow_heap _ w.heap.size _ _ _ (0,0) Z.out) Tryz.underlying238 rfl (by kernel_rfl)) rfl ?_
   have b5:=below_setRow (B:=w.heap.size) B4.out (yR _) #[.int .u64 f,.int .u64 k,.int .u64 t,.int .u64 r,.int .u64 q,.int .u64 u,.slice o m b]
   exact⟨b5,.inr ⟨ac.out,o,m,b,rfl,aEl V.out Z.out _,N,ad.out⟩⟩
  ·have g:=X.out
   rw[if_neg F]at g
   have R:=yH g
   clear g
   have d:(f==y0)=false:=by simpa using F
   refine wp_region_held_drew (S:=fun W:World=>W.cell? ⟨x,0,none⟩=some (.int .u64 f)∧W.cell? ⟨x,6,none⟩=some (.slice o m b)) (by kernel_rfl) (by exact Sd.out) (fun hHeld=>?_)
   refine tq 0 9 rfl (fun W hSw=>by obtain⟨f,k⟩:=hSw;go_simp;try (with_reducible rfl)) ?_
   try simp only[Act.put,sA,sZ,sS]
   refine tq 1 10 rfl (fun W hSw=>by obtain⟨f,k⟩:=hSw;go_simp;try (with_reducible rfl)) ?_
   try simp only[Act.put,sA,sZ,sS]
   refine tq 2 11 rfl (fun W hSw=>by obtain⟨f,k⟩:=hSw;go_simp;try (with_reducible rfl)) ?_
   try simp only[Act.put,sA,sZ,sS]
   refine tq 3 12 rfl (fun W hSw=>by obtain⟨f,k⟩:=hSw;go_simp;try (with_reducible rfl)) ?_
   try simp only[Act.put,sA,sZ,sS]
   refine tq 4 13 rfl (fun W hSw=>by obtain⟨f,k⟩:=hSw;go_simp;try (with_reducible rfl)) ?_
   try simp only[Act.put,sA,sZ,sS]
   refine rd 5 rfl (fun K hK=>?_)
   go_simp
   ((refine HS.out.mono ?_);rintro e w4 ⟨rfl,j⟩;have B4:=yH (D.out.drew.trans (j.mono D.out.size));have G:=yH (E.out.drew.below j E.out.lt);have V:=yH (C.out.drew.below j (yR _));have S4:=yH (show w4.cell? ⟨x,0,none⟩=some (.int .u64 f)∧w4.cell? ⟨x,6,none⟩=some (.slice o m b)from⟨G.out.cell (i:=0) rfl,G.out.cell (i:=6) rfl⟩);have Z:=yH ((j.block _ J.out).trans Z3.out);clear j)
   try go_wp2_with fail
   refine hK.out _ _ (by exact S4.out) (fun hHeld=>?_)
   clear hK K
   try simp only[Act.put,sA,sZ,sS]
   refine tq 6 15 rfl (fun W hSw=>by obtain⟨f,k⟩:=hSw;go_simp;try (with_reducible rfl)) ?_
   try simp only[Act.put,sA,sZ,sS]
   refine rd 7 rfl (fun K hK=>?_)
   go_simp
   ((refine(aBF 9 _).mono ?_);rintro e w5 ⟨rfl,rfl⟩;exact⟨rfl,B4.out,.inl ⟨by rw[R.out];decide,by rw[R.out]⟩⟩)
 ·rw[if_pos hz]
  go_enter Tryz.func179,Tryz.ntmps179
  go_wp2_with(first
   |(go_at_call 171;(refine HV.out.mono ?_);rintro e w3 ⟨Y,⟨_,rfl⟩|⟨F,_⟩⟩;rotate_left;(exact absurd F hz);have D:=yH (H.out.trans (Y.mono H.out.size));clear Y)
   |fail)
  exact⟨rfl,D.out,.inl ⟨hz,rfl⟩⟩
end Rk
namespace Rl
open Rd (dz)
open Re (aAI ReadD)
attribute [local irreducible] wpList Code.wp
end Rl
namespace Rm
open Bytes8 Blk8 Own8 OwnE OwnA Rows2 Ob Od Ga Gb Ok7 Np Nr Pr8 Fa Dc Rc Rk
open Rd (dcode dz)
def lcode (c:Nat→Int):Nat→Int
 |0=>0
 |k+1=>if lcode c k≠0 then lcode c k else c k
theorem aB5 {c:Nat→Int}: ∀ {k:Nat},(∀i,i<k→c i=0)→lcode c k=0
 |0,_=>rfl
 |k+1,h=>by
  unfold lcode
  rw[aB5 (fun i hi=>h i (by omega)),if_neg (by decide)]
  exact h k (by omega)
theorem aEn {c:Nat→Int}{k:Nat}(h: ∀i,i<k→c i=0)(a:c k≠0): ∀ {n:Nat},k<n→lcode c n=c k
 |0,hn=>absurd hn (Nat.not_lt_zero k)
 |n+1,hn=>by
  unfold lcode
  rcases Nat.lt_or_ge k n with h1|h1
  ·rw[aEn h a h1,if_pos a]
  ·have e:n=k:=by omega
   subst e
   rw[aB5 h,if_neg (by decide)]
theorem aIK {l:List Int}{a:Nat}(h:bcode l a 1 6=0):0<(bpay l a 1 6).length:=by
 unfold bpay
 rw[if_pos h,List.length_drop]
 unfold bcode at h
 by_cases b:code l a≠0
 ·rw[if_pos b]at h;exact absurd h b
 ·rw[if_neg b]at h
  by_cases c:kindL l a≠1
  ·rw[if_pos c]at h;cases h
  ·rw[if_neg c]at h
   by_cases d:(bodyL l a).length≤8*6
   ·rw[if_pos d]at h;cases h
   ·omega
theorem aE1 {h:HD}{l:List Int}{n a:Nat}(c:hcode9 h l n a=0):bcode l a 1 6=0:=by
 unfold hcode9 at c
 by_cases d:dcode h l n a≠0
 ·rw[if_pos d]at c;exact absurd c d
 ·have b:dcode h l n a=0:=by omega
  unfold dcode at b
  by_cases e:h.N 0≤(a:Int)∧a<n
  ·rw[if_pos e]at b;exact b
  ·rw[if_neg e]at b;cases b
def prsL (P:Nat→List Int)(k:Nat):List PR:=(List.range k).map fun i=>(splitN (P i),splitV (P i))
theorem aGF (P:Nat→List Int)(k:Nat):prsL P (k+1)=prsL P k++ [(splitN (P k),splitV (P k))]:=by simp[prsL,List.range_succ]
theorem aIL (P:Nat→List Int)(k:Nat):(prsL P k).length=k:=by simp[prsL]
def icode (h:HD)(l:List Int)(n:Nat)(f g:Nat→Int)(i:Nat):Int:=
 if hcode9 h l n (f i).toNat≠0 then hcode9 h l n (f i).toNat else if bnum l (f i).toNat 1 6 0=g i then splitE (bpay l (f i).toNat 1 6)else 9
theorem OwnE.farE {E:TypeId}{size:Nat}{w:World}{base:Nat}{A:Option Addr}{n c:Nat}{xs:List Value}(h:OwnE E size w base A n c xs){a:Addr}(b:a.block<base)(u:Value):OwnE E size (w.setCell a u) base A n c xs:=
 ⟨by simpa using h.1,ownsRow_setCell_below h.2 b u⟩
structure Row4 where
 b:Nat
 off:Nat
 m:Nat
 c:Nat
def Row4.v (x:Row4):Value:= .slice (some ⟨x.b,x.off,none⟩) x.m x.c
structure PayAt (w:World)(rows:List Row4)(P:Nat→List Int):Prop where
 at_: ∀r (h:r<rows.length),Bytes w (some ⟨rows[r].b,rows[r].off,none⟩) (P r)∧(P r).length=rows[r].m∧rows[r].m≤rows[r].c∧rows[r].c≤maxLen∧rows[r].m≤800000
theorem aBe {w w':World}{A:Option Addr}{l:List Int}(h:Bytes w A l)(hs:w.heap.size≤w'.heap.size)(f: ∀b c,A=some ⟨b,c,none⟩→b<w.heap.size→w'.heap[b]? =w.heap[b]?):Bytes w' A l:=⟨h.1,fun i hi=>by
 obtain⟨b,c,e,d,g⟩:=h.2 i hi
 exact⟨b,c,e,yL d hs,(World.cell?_of_block (a:=⟨b,c+i,none⟩) (f b c e d)).trans g⟩⟩
structure LR (w4 wr:World)(s6:Nat)(s r m:Int)(K:Nat→Int)(P:Nat→List Int)(F:Option Addr)(cF:Nat)(PA:Option Addr)(cP:Nat)(rows:List Row4)(kf kp:Nat):Prop where
 old:Below s6 w4 wr
 rc:Blk wr s6 (recL s r m K (.slice F kf cF)) 64
 fld:OwnP wr (s6+1) F kf cF (prsL P kf)
 own:OwnE 26 1 wr (s6+1) PA kp cP (rows.map Row4.v)
 pay:PayAt wr rows P
 far: ∀x∈rows,s6<x.b∧x.b<wr.heap.size∧ownB F≠some x.b∧ownB PA≠some x.b
 apart: ∀g,ownB F=some g→ownB PA≠some g
section
variable {w4 wr : World} {s6 : Nat} {s r m : Int} {K : Nat → Int} {P : Nat → List Int} {F : Option Addr} {cF : Nat} {PA : Option Addr} {cP : Nat} {rows : List Row4} {kf kp : Nat}
theorem LR.lt (h:LR w4 wr s6 s r m K P F cF PA cP rows kf kp):s6<wr.heap.size:=h.rc.lt
theorem LR.below {w':World}(h:LR w4 wr s6 s r m K P F cF PA cP rows kf kp)(a:Below wr.heap.size wr w'):LR w4 w' s6 s r m K P F cF PA cP rows kf kp:=
 {old:=h.old.trans (a.mono (Nat.le_of_lt h.lt))
  rc:=h.rc.below a h.lt
  fld:=h.fld.kept a (yR _)
  own:=h.own.kept a (yR _)
  pay:=⟨fun r hr=>⟨(h.pay.at_ r hr).1.below a (yR _),(h.pay.at_ r hr).2⟩⟩
  far:=fun x hx=>⟨(h.far x hx).1,yL (h.far x hx).2.1 a.size,(h.far x hx).2.2⟩
  apart:=h.apart}
theorem LR.field {w':World}{c:Option Addr}{a:Nat}(h:LR w4 wr s6 s r m K P F cF PA cP rows kf kp)(y:okP (splitN (P kf),splitV (P kf)))
 (C:OwnE 24 2 w' (s6+1) c (kf+1) a (cellsP (prsL P kf)++ [.string (T (splitN (P kf))),.string (T (splitV (P kf)))]))(n:wr.grownBy w' (ownB F))(v:ownB c=ownB F∨ownB c=some wr.heap.size):
 LR w4 (w'.setCell ⟨s6,19,none⟩ (.slice c (kf+1) a)) s6 s r m K P c a PA cP rows (kf+1) kp:=by
 have j:=h.lt
 have o: ∀g,ownB F=some g→s6+1≤g∧g<wr.heap.size:=OwnE.ltB h.fld.2.2
 have u:ownB F≠some s6:=fun e=>by have:=(o s6 e).1;omega
 have z:Below s6 wr w':=below_grown n (Nat.le_of_lt j) (fun k hk=>by have:=(o k hk).1;omega)
 have w:Blk w' s6 (recL s r m K (.slice F kf cF)) 64:=(n.block s6 j (fun e=>u e.symm)).trans h.rc
 have A: ∀b,b<wr.heap.size→ownB F≠some b→b≠s6→(w'.setCell ⟨s6,19,none⟩ (.slice c (kf+1) a)).heap[b]? =wr.heap[b]? :=fun b i d h2=>(Below.heap_setCell w' ⟨s6,19,none⟩ _ b h2).trans (n.block b i (fun e=>d e.symm))
 have q:wr.heap.size≤(w'.setCell ⟨s6,19,none⟩ (.slice c (kf+1) a)).heap.size:=by simpa using n.size
 have l: ∀b,b<wr.heap.size→ownB F≠some b→ownB c≠some b:=fun b i d h2=>by
  rcases v with e|e
  ·exact d (e▸h2)
  ·rw[e]at h2;injection h2 with h2;omega
 refine {old:=(h.old.trans z).setCell (p:=⟨s6,19,none⟩) (yR _) _,rc:=w.set_ 19 _,fld:=?_,own:=?_,pay:=?_,far:=?_,apart:=?_}
 ·refine⟨?_,by rw[aIL],?_⟩
  ·rw[aGF]
   intro p t
   rcases List.mem_append.1 t with d|d
   ·exact h.fld.1 p d
   ·rw[List.mem_singleton.1 d];exact y
  ·rw[aGF,aBv]
   exact OwnE.farE C (show(⟨s6,19,none⟩:Addr).block<s6+1 from Nat.lt_succ_self _) _
 ·exact OwnE.farE (OwnE.keptG h.own n (fun g f e=>h.apart g e f)) (show(⟨s6,19,none⟩:Addr).block<s6+1 from Nat.lt_succ_self _) _
 ·refine⟨fun r hr=>⟨aBe (h.pay.at_ r hr).1 q (fun b off e i=>?_),(h.pay.at_ r hr).2⟩⟩
  have B:=h.far _ (List.getElem_mem hr)
  injection e with e
  injection e with e1 e2
  subst e1
  exact A _ i B.2.2.1 (by omega)
 ·exact fun x hx=>⟨(h.far x hx).1,yL (h.far x hx).2.1 q,l _ (h.far x hx).2.1 (h.far x hx).2.2.1,(h.far x hx).2.2.2⟩
 ·intro g f t
  have i:=(OwnE.ltB h.own g t).2
  exact l g i (fun e=>h.apart g e t) f
theorem LR.payload {w':World}{f:Option Addr}{u:Nat}(h:LR w4 wr s6 s r m K P F cF PA cP rows kf kp)(x:Row4)(D:rows.length=kp)
 (C:Bytes wr (some ⟨x.b,x.off,none⟩) (P kp)∧(P kp).length=x.m∧x.m≤x.c∧x.c≤maxLen∧x.m≤800000)(a:s6<x.b∧x.b<wr.heap.size∧ownB F≠some x.b∧ownB PA≠some x.b)
 (G:OwnE 26 1 w' (s6+1) f (kp+1) u (rows.map Row4.v++ [x.v]))(i:wr.grownBy w' (ownB PA))(A:ownB f=ownB PA∨ownB f=some wr.heap.size):
 LR w4 w' s6 s r m K P F cF f u (rows++ [x]) kf (kp+1):=by
 have p:=h.lt
 have q: ∀g,ownB PA=some g→s6+1≤g∧g<wr.heap.size:=OwnE.ltB h.own
 have w:ownB PA≠some s6:=fun e=>by have:=(q s6 e).1;omega
 have B:Below s6 wr w':=below_grown i (Nat.le_of_lt p) (fun k hk=>by have:=(q k hk).1;omega)
 have n: ∀b,b<wr.heap.size→ownB PA≠some b→ownB f≠some b:=fun b o d h2=>by
  rcases A with e|e
  ·exact d (e▸h2)
  ·rw[e]at h2;injection h2 with h2;omega
 refine {old:=h.old.trans B,rc:=(i.block s6 p (fun e=>w e.symm)).trans h.rc,fld:=⟨h.fld.1,h.fld.2.1,OwnE.keptG h.fld.2.2 i (fun g j e=>h.apart g j e)⟩,own:=by rw[List.map_append];exact G,pay:=?_,far:=?_,apart:=?_}
 ·refine⟨fun r hr=>?_⟩
  rcases Nat.lt_or_ge r rows.length with d|d
  ·rw[List.getElem_append_left d]
   have l:=h.far _ (List.getElem_mem d)
   refine⟨aBe (h.pay.at_ r d).1 i.size (fun b off e o=>?_),(h.pay.at_ r d).2⟩
   injection e with e
   injection e with t z
   subst t
   exact i.block _ o (fun e=>l.2.2.2 e.symm)
  ·have t:r=kp:=by rw[yA,List.length_singleton]at hr;omega
   subst t
   have z:(rows++ [x])[r]=x:=by rw[List.getElem_append_right d];simp
   rw[z]
   refine⟨aBe C.1 i.size (fun b off e o=>?_),C.2⟩
   injection e with e
   injection e with t z
   subst t
   exact i.block _ o (fun e=>a.2.2.2 e.symm)
 ·intro y H
  rcases List.mem_append.1 H with d|d
  ·have l:=h.far y d
   exact⟨l.1,yL l.2.1 i.size,l.2.2.1,n _ l.2.1 l.2.2.2⟩
  ·rw[List.mem_singleton.1 d]
   exact⟨a.1,yL a.2.1 i.size,a.2.2.1,n _ a.2.1 a.2.2.2⟩
 ·intro g j E
  have o:=(OwnE.ltB h.fld.2.2 g j).2
  exact n g o (h.apart g j) E
theorem LR.inRows (h:LR w4 wr s6 s r m K P F cF PA cP rows kf kp)(f:rows.length=kp): ∃(A:Nat→Option Addr) (L C:Nat→Nat),InRows wr PA kp A L C P∧ ∀r,r<kp→L r≤800000:=by
 refine⟨fun r=>(rows[r]?).bind fun x=>some ⟨x.b,x.off,none⟩,fun r=>((rows[r]?).map Row4.m).getD 0,fun r=>((rows[r]?).map Row4.c).getD 0,fun r hr=>?_,fun r hr=>?_⟩
 ·have a:r<rows.length:=by omega
  obtain⟨p,q,l,o,n⟩:=h.pay.at_ r a
  have k:(rows.map Row4.v)[r]? =some rows[r].v:=by rw[List.getElem?_map,yG a];rfl
  obtain⟨g,e,t,d,j⟩:=h.own.cell (i:=r) (by rw[List.length_map];exact a)
  refine⟨g,0,e,d,?_,?_,?_,?_,?_⟩
  ·rw[Nat.zero_add,j,k]
   simp only[yG a,Option.bind_some,Option.map_some,Option.getD_some]
   rfl
  all_goals (simp only[yG a,Option.bind_some,Option.map_some,Option.getD_some];assumption)
 ·have a:r<rows.length:=by omega
  simp only[yG a,Option.map_some,Option.getD_some]
  exact(h.pay.at_ r a).2.2.2.2
end
attribute [local irreducible] wpList Code.wp
theorem aPa (x y:ByteArray)(cd:Int)(b:cd≠0)(w:World):Calls Tryz.prog 180 #[.agg #[.string x,.string y],.int .i64 cd] w fun e w'=>e= .panicked [haltE cd]∧Below w.heap.size w w':=by
 have a:=yH (aBF cd)
 have c:(cd==0)=false:=by simpa using b
 go_enter Tryz.func180,Tryz.ntmps180
 go_wp2_with(first
  |(go_at_call 178;(refine(a.out _).mono ?_);rintro e w1 ⟨rfl,rfl⟩)
  |fail)
 exact⟨rfl,rfl,((yB w.heap.size w).alloc (yR _) _).alloc (by simp) _⟩
theorem aNu (x y:ByteArray)(w:World):Calls Tryz.prog 180 #[.agg #[.string x,.string y],.int .i64 0] w fun e w'=>e= .returned (.agg #[.string x,.string y])∧Below w.heap.size w w':=by
 have a:=yH (aA4 0)
 go_enter Tryz.func180,Tryz.ntmps180
 go_wp2_with(first
  |(go_at_call 178;(refine(a.out _).mono ?_);rintro e w1 ⟨rfl,rfl⟩)
  |fail)
 refine bodyPost_ret (v:= .agg #[.string x,.string y]) (by exact results_cell_row Tryz.results180 _ _ (w.heap.size+1) 24 _ (0,0) _ rfl (heap_alloc2_new w _ _) Tryz.underlying24 rfl (by kernel_rfl)) rfl ?_
 exact⟨rfl,((yB w.heap.size w).alloc (yR _) _).alloc (by simp) _⟩
end Rm
end Go.Proofs.YteaikbodkgjkdaaGreat
