/-
  Texts beneath the proof.
-/
import Derived.Test.YtlelnfokffflnaaGreatQl32
set_option linter.unusedVariables false
set_option linter.unusedSimpArgs false
set_option maxRecDepth 100000
set_option maxHeartbeats 4000000
open Go.ChangeShapes Go.WideShapes Go.ChangeAt Go.RowKit
namespace Go.Proofs.YtlelnfokffflnaaGreat
namespace Ri
open Bytes8 Blk8 Own8 OwnE Rows2 Ob Ga Gb Ok7 Rc
open Kf Yc Yp Yd Ye Yg Yh Rh
open Re (aAw aAI)
abbrev ez:Array Value:=zL.toArray
theorem new_ne {B:Nat}{A:Option Addr}(h:NewIn B A){g:Nat}(a:g<B): ∀b off,A=some ⟨b,off,none⟩→b≠g:=fun b off e=>Nat.ne_of_gt (yL a (h b off e))
theorem new_mono {B C:Nat}{A:Option Addr}(h:NewIn B A)(a:C≤B):NewIn C A:=fun b off e=>Nat.le_trans a (h b off e)
attribute [local irreducible] wpList Code.wp
def ecode9 (h:HD)(l:List Int)(n a:Nat):Int:=if h.N 0≤(a:Int)∧a<n then entC0 l a else 2
theorem aNs {b:Nat}{h:HD}{A:Option Addr}{n c:Nat}{l:List Int}(a:Nat)(w:World)(v:ViewAt w b h A n c l)(g: ¬(h.N 0≤(a:Int)∧a<n)):
 Calls Tryz.prog 177 #[.pointer (some ⟨b,0,none⟩),.int .u64 (a:Int)] w fun e w'=>e= .panicked [haltE 2]∧Below w.heap.size w w':=by
 have d:=yH (aHH (a:Int) _ (v.below ((Below.refl _ _).alloc (yR _) (.cells ez 239))) (by omega))
 have f:=yH ((Below.refl w.heap.size w).alloc (yR _) (.cells ez 239))
 clear v g
 go_enter Tryz.func177,Tryz.ntmps177
 go_wp2_with(first
  |(go_at_call 182;(refine d.out.mono ?_);rintro e w1 ⟨rfl,rfl⟩)
  |fail)
 exact⟨rfl,rfl,f.out⟩
theorem aO9 {I:Nat}{h:HD}{A:Option Addr}{n c:Nat}{l:List Int}(a:Nat)(w:World)(v:ViewAt w I h A n c l)(G:c≤maxLen)(J:h.N 0≤(a:Int)∧a<n):
 Calls Tryz.prog 177 #[.pointer (some ⟨I,0,none⟩),.int .u64 (a:Int)] w fun e w'=>Below w.heap.size w w'∧
  ((entC0 l a≠0∧e= .panicked [haltE (entC0 l a)])∨(entC0 l a=0∧ ∃A' c',e= .returned (entV (eNum l a 0) (eNum l a 8) (eNum l a 16) (eK l a) (eNum l a 40) A' (eN l a) c')∧In2 w' A' (eN l a) (itA (bodyL l a)) (itH (bodyL l a))∧NewIn w.heap.size A')):=by
 have o:=v.below ((Below.refl _ _).alloc (yR _) (.cells ez 239))
 have L:=yH (aFF (a:Int) _ o J.1 (by omega))
 have z:=yH (aMy A l n c a _ o.by_ o.len o.big o.cap G (by have:=v.big;omega))
 have y:=yH ((Below.refl w.heap.size w).alloc (yR _) (.cells ez 239))
 have M:=yH (heap_alloc_new w (.cells ez 239))
 have E:=yH (show w.heap.size<(w.alloc (.cells ez 239)).heap.size by simp)
 unfold EntTold2 at z
 generalize eNum l a 0=r at*
 generalize eNum l a 8=q at*
 generalize eNum l a 16=f at*
 generalize eNum l a 40=d at*
 generalize eK l a=u at*
 generalize eN l a=s at*
 generalize itA (bodyL l a)=V at*
 generalize entC0 l a=cd at*
 generalize itH (bodyL l a)=fh at*
 clear v o J
 by_cases F:cd=0
 ·subst F
  go_enter Tryz.func177,Tryz.ntmps177
  go_wp2_with(first
   |(go_at_call 182;(refine L.out.mono ?_);rintro e w1 ⟨rfl,rfl⟩)
   |(go_at_call 222;(refine z.out.mono ?_);rintro e w2 ⟨k,m,rfl,g,i,j⟩;have t:=yH g;have D:=yH i;have p:=yH j;clear g i j)
   |(go_at_call 221;(refine(aNr (entL r q f u d k s m).toArray rfl (aBB _ _ _ _ _ _ _ _) w2).mono ?_);rintro e w3 ⟨rfl,b⟩;have x:=yH (t.out.trans (b.mono t.out.size));have C:=yH (D.out.keep b);have H:=yH ((x.out.block _ E.out).trans M.out);clear b)
   |((with_reducible apply aAa (.tmp 4) (.tmp 12));refine wpList_store_row rfl 239 (.tmp 4) (.tmp 12) rfl w.heap.size (entL r q f u d k s m).toArray rfl rfl 239 ez H.out (by kernel_rfl) rfl (by first|exact aBB _ _ _ _ _ _ _ _|exact aCt) ?_)
   |fail)
  refine bodyPost_ret (v:=entV r q f u d k s m) (by exact results_cell_row Tryz.results177 _ _ w.heap.size 239 _ (0,0) _ rfl (setRow_heap _ w.heap.size _ _ _ (0,0) H.out) Tryz.underlying239 rfl (by kernel_rfl)) rfl ?_
  have R:=below_setRow (B:=w.heap.size) (y.out.trans (x.out.mono y.out.size)) (yR _) (entL r q f u d k s m).toArray
  exact⟨R,.inr ⟨trivial,k,m,rfl,In2.setRow C.out (new_ne p.out E.out) _,new_mono p.out (Nat.le_of_lt E.out)⟩⟩
 ·go_enter Tryz.func177,Tryz.ntmps177
  go_wp2_with(first
   |(go_at_call 182;(refine L.out.mono ?_);rintro e w1 ⟨rfl,rfl⟩)
   |(go_at_call 222;(refine z.out.mono ?_);rintro e w2 ⟨k,m,rfl,g,i,j⟩;have t:=yH (y.out.trans (g.mono y.out.size));clear g i)
   |(go_at_call 221;(refine(aO8 (entL r q f u d k s m).toArray cd F w2).mono ?_);rintro e w3 ⟨rfl,b⟩;have x:=yH (t.out.trans (b.mono t.out.size));clear b)
   |fail)
  exact⟨rfl,x.out,.inl ⟨F,rfl⟩⟩
def ReadE (B:Nat)(l:List Int)(a:Nat)(cd:Int)(e:Ending)(w':World):Prop:=
 (cd≠0∧e= .panicked [haltE cd])∨(cd=0∧ ∃A' c',e= .returned (entV (eNum l a 0) (eNum l a 8) (eNum l a 16) (eK l a) (eNum l a 40) A' (eN l a) c')∧In2 w' A' (eN l a) (itA (bodyL l a)) (itH (bodyL l a))∧NewIn B A')
theorem aNt {f:Nat}{h:HD}{A:Option Addr}{n c:Nat}{l:List Int}(a:Nat)(w:World)(v:ViewAt w f h A n c l)(d:c≤maxLen):
 Calls Tryz.prog 177 #[.pointer (some ⟨f,0,none⟩),.int .u64 (a:Int)] w fun e w'=>Below w.heap.size w w'∧ReadE w.heap.size l a (ecode9 h l n a) e w':=by
 unfold ReadE ecode9
 by_cases b:h.N 0≤(a:Int)∧a<n
 ·rw[if_pos b]
  exact aO9 a w v d b
 ·rw[if_neg b]
  refine(aNs a w v b).mono ?_
  rintro e w' ⟨rfl,g⟩
  exact⟨g,.inl ⟨by decide,rfl⟩⟩
end Ri
namespace Rj
open Bytes8 Blk8 Own8 OwnE Rows2 Ga Gb Ok7 Np Sg Ra Rc
def keyB (ic:Int):Bool:=bits .and .u32 ic 4 !=0
theorem aEm {w:World}{c:Nat}{h:HD}{b v:Value}(d:Blk w c (viewC h b) 141){i:Nat}(a:(h.cells 21)[i]? =some v):w.cell? ⟨c,i,none⟩=some v:=by
 refine d.cell ?_
 unfold viewC
 rw[List.getElem?_append_left (List.getElem?_eq_some_iff.1 a).1]
 exact a
theorem aLl (h:HD):(h.cells 21)[1]? =some (.int .u32 h.ic):=by
 rw[h.get 21 1 (by decide)]
 rfl
theorem aLm {w:World}{a:Nat}{h:HD}{b:Value}(c:Blk w a (viewC h b) 141):w.rangeAt a 3 (idJ h.I):=fun j v hj=>by
 have d:j<16:=(List.getElem?_eq_some_iff.1 hj).1
 refine aEm c ((h.get_I 21 j (by omega)).trans ?_)
 rw[aC7 h.I j d]at hj
 exact hj
theorem I_ok {h:HD}(a:h.Ok 21):IdOk h.I:=fun i=>a.I i
attribute [local irreducible] HD.cells wpList Code.wp
theorem aLn {a:Nat}{h:HD}{A:Option Addr}{n c:Nat}{l:List Int}(k:Option Addr)(g:List Int)(d j:Nat)(w:World)(v:ViewAt w a h A n c l)(q:Bytes w k g)(r:g.length=d)(u:d≤800000)(y:d≤j)(o:j≤maxLen):
 Calls Tryz.prog 23 #[.pointer (some ⟨a,0,none⟩),.slice k d j] w fun e w'=>e= .returned (.int .u64 (ofS (keyB h.ic) (idL h.I) g))∧Below w.heap.size w w':=by
 have m:=yH fun(t:Bool)=>aQh t h.I k g d j w.drew (I_ok v.ok) q.drew r u y o
 have s:=aEm v.blk (aLl h)
 have z:=yH (show w.drew.cell? ⟨a,1,none⟩=some (.int .u32 h.ic)∧w.drew.rangeAt a 3 (idJ h.I)from⟨s,aLm v.blk⟩)
 have D:=yH (show Below w.heap.size w w.drew from(Below.refl w.heap.size w).drew)
 have f:=yH v.blk
 clear v s q r
 go_enter Tryz.func23,Tryz.ntmps23
 go_upto_region 1 with fail
 refine wp_region_noPanic ?_
 refine wp_region_held_drew (S:=fun W:World=>W.cell? ⟨a,1,none⟩=some (.int .u32 h.ic)∧W.rangeAt a 3 (idJ h.I)) (by kernel_rfl) (by exact z.out) (fun hHeld=>?_)
 refine tq 0 5 rfl (fun W hSw=>by go_simp;try (with_reducible rfl)) ?_
 try simp only[Act.put,sA,sZ,sS]
 refine tq 1 6 rfl (fun W hSw=>by go_simp;try (with_reducible rfl)) ?_
 try simp only[Act.put,sA,sZ,sS]
 refine tq 2 7 rfl (fun W hSw=>by go_simp;try (with_reducible rfl)) ?_
 try simp only[Act.put,sA,sZ,sS]
 refine tq 3 8 rfl (fun W hSw=>by go_simp;try (with_reducible rfl)) ?_
 try simp only[Act.put,sA,sZ,sS]
 refine tq 4 9 rfl (fun W hSw=>by have B:=hSw.1;go_simp;try (with_reducible rfl)) ?_
 try simp only[Act.put,sA,sZ,sS]
 refine tq 5 10 rfl (fun W hSw=>by go_simp;try (with_reducible rfl)) ?_
 try simp only[Act.put,sA,sZ,sS]
 refine tq 6 11 rfl (fun W hSw=>by go_simp;try (with_reducible rfl)) ?_
 try simp only[Act.put,sA,sZ,sS]
 refine tq 7 12 rfl (fun W hSw=>by go_simp;try (with_reducible rfl)) ?_
 try simp only[Act.put,sA,sZ,sS]
 refine tq 8 13 rfl (fun W hSw=>by go_simp;try (with_reducible rfl)) ?_
 try simp only[Act.put,sA,sZ,sS]
 refine tq 9 14 rfl (fun W hSw=>by go_simp;try (with_reducible rfl)) ?_
 try simp only[Act.put,sA,sZ,sS]
 refine tq 10 15 rfl (fun W hSw=>by go_simp;try (with_reducible rfl)) ?_
 try simp only[Act.put,sA,sZ,sS]
 refine tk (i:=11) (oi:=⟨some 16,_,_,_,_,_⟩) rfl (yieldsIf_load_mid (by rfl) _ _ rfl _ _ rfl _ _ (fun _ h=>h.2) Tryz.underlying37 rfl (aBl _)) ?_
 try simp only[Act.put,sA,sZ,sS]
 refine tq 12 17 rfl (fun W hSw=>by go_simp;try (with_reducible rfl)) ?_
 try simp only[Act.put,sA,sZ,sS]
 refine rd 13 rfl (fun K hK=>?_)
 go_simp
 ((refine(m.out _).mono ?_);rintro e w2 ⟨rfl,b⟩;have p:=yH (D.out.trans b);have x:=yH (show w2.cell? ⟨a,1,none⟩=some (.int .u32 h.ic)∧w2.rangeAt a 3 (idJ h.I)from⟨aEm (f.out.below p.out f.out.lt) (aLl h),aLm (f.out.below p.out f.out.lt)⟩);clear b)
 try go_wp2_with fail
 refine hK.out _ _ (by exact x.out) (fun hHeld=>?_)
 clear hK K
 try simp only[Act.put,sA,sZ,sS]
 refine tq 14 4 rfl (fun W hSw=>by go_simp;try (with_reducible rfl)) ?_
 try simp only[Act.put,sA,sZ,sS]
 refine wpAnyH_done (by kernel_rfl) ?_ _
 refine NoPanic.normal ?_
 go_wp2
 go_ret
 exact⟨rfl,p.out⟩
end Rj
namespace Rk
open Bytes8 Blk8 Own8 OwnE Rows2 Ob Ga Gb Oj Ok7 Np Sg Rc Rd Re Rj
def hcode9 (h:HD)(l:List Int)(n a:Nat):Int:=if dcode h l n a≠0 then dcode h l n a else if bnum l a 1 6 0=ofS (keyB h.ic) (idL h.I) (bpay l a 1 6)then 0 else 9
theorem aFH (l:List Int)(a:Nat)(k:Int)(n:Nat):(bpay l a k n).length≤l.length:=by
 unfold bpay
 split
 ·rw[List.length_drop]
  unfold bodyL
  rw[List.length_take,List.length_drop]
  omega
 ·exact Nat.zero_le _
attribute [local irreducible] wpList Code.wp ofS bnum bpay bcode
theorem aJJ {gv:Nat}{h:HD}{A:Option Addr}{n c:Nat}{l:List Int}(a:Nat)(w:World)(v:ViewAt w gv h A n c l)(ad:c≤maxLen)(h8:n≤800000):
 Calls Tryz.prog 206 #[.pointer (some ⟨gv,0,none⟩),.int .u64 (a:Int)] w fun e w'=>Below w.heap.size w w'∧ReadD w.heap.size l a (hcode9 h l n a) e w':=by
 have R:=yH ((Below.refl w.heap.size w).alloc (yR _) (.cells dz 283))
 have v1:=v.below R.out
 have HV:=yH (aLk a _ v1 ad)
 have HH:=yH fun(o:Option Addr) (m c2:Nat) (B:Nat) (W:World) (hW:Below w.heap.size w W) (hb:Bytes W o (bpay l a 1 6)) (hL:(bpay l a 1 6).length=m) (hcp:Cap B o m c2)=>aLn o (bpay l a 1 6) m c2 W (v.below hW) hb hL (by have h1:=aFH l a 1 6;have h2:=v.len;omega) hcp.2.1 hcp.2.2.1
 have Z1:=yH (heap_alloc_new w (.cells dz 283))
 have s1:=yH (show w.heap.size<(w.alloc (.cells dz 283)).heap.size by simp)
 unfold ReadD at HV⊢
 unfold hcode9
 generalize ofS (keyB h.ic) (idL h.I) (bpay l a 1 6)=y0 at*
 generalize bnum l a 1 6 0=f at*
 generalize bnum l a 1 6 1=k at*
 generalize bnum l a 1 6 2=q at*
 generalize bnum l a 1 6 3=x at*
 generalize bnum l a 1 6 4=s at*
 generalize bnum l a 1 6 5=u at*
 generalize dcode h l n a=cd at*
 generalize bpay l a 1 6=pl at*
 clear v v1
 by_cases hz:cd=0
 ·subst hz
  rw[if_neg (by decide)]
  obtain⟨cc,g⟩: ∃c:Int,c=if f=y0 then 0 else 9:=⟨_,rfl⟩
  rw[←g]
  have N:=yH g
  clear g
  go_enter Tryz.func206,Tryz.ntmps206
  go_upto_region 2 with(first
   |(go_at_call 212;(refine HV.out.mono ?_);rintro e w2 ⟨t,⟨ac,_⟩|⟨_,o,m,b,rfl,M,H,z⟩⟩;(exact absurd rfl ac);have B2:=yH (R.out.trans (t.mono R.out.size));have L:=yH M;have Z2:=yH ((t.block _ s1.out).trans Z1.out);have D:=yH (show w.heap.size<w2.heap.size from yL s1.out t.size);clear t M)
   |((with_reducible apply aAa (.tmp 5) (.tmp 8));refine wpList_store_row rfl 283 (.tmp 5) (.tmp 8) rfl w2.heap.size #[.int .u64 f,.int .u64 k,.int .u64 q,.int .u64 x,.int .u64 s,.int .u64 u,.slice o m b] rfl rfl 283 dz (heap_alloc_new w2 _) (by kernel_rfl) rfl (by simp[Value.oneCell']) ?_)
   |fail)
  have F:=yH (show Blk ((w2.alloc (.cells dz 283)).setRow w2.heap.size #[.int .u64 f,.int .u64 k,.int .u64 q,.int .u64 x,.int .u64 s,.int .u64 u,.slice o m b]) w2.heap.size [.int .u64 f,.int .u64 k,.int .u64 q,.int .u64 x,.int .u64 s,.int .u64 u,.slice o m b] 283 from setRow_heap _ _ _ _ _ (0,0) (heap_alloc_new w2 _))
  have p:=yH (show Below w2.heap.size w2 ((w2.alloc (.cells dz 283)).setRow w2.heap.size #[.int .u64 f,.int .u64 k,.int .u64 q,.int .u64 x,.int .u64 s,.int .u64 u,.slice o m b])from below_setRow ((Below.refl _ _).alloc (yR _) _) (yR _) _)
  generalize (w2.alloc (.cells dz 283)).setRow w2.heap.size #[.int .u64 f,.int .u64 k,.int .u64 q,.int .u64 x,.int .u64 s,.int .u64 u,.slice o m b]=w3 at*
  have y:=yH (B2.out.trans (p.out.mono B2.out.size))
  have C:=yH (L.out.below p.out (yR _))
  have Z3:=yH ((p.out.block _ D.out).trans Z2.out)
  have X:=yH (show w.heap.size<w3.drew.heap.size from yL D.out p.out.size)
  have HS:=yH (HH.out o m b _ w3.drew y.out.drew C.out.drew H z)
  have Sd:=yH (show w3.drew.cell? ⟨w2.heap.size,0,none⟩=some (.int .u64 f)∧w3.drew.cell? ⟨w2.heap.size,6,none⟩=some (.slice o m b)from⟨F.out.drew.cell (i:=0) rfl,F.out.drew.cell (i:=6) rfl⟩)
  have aa:=yH (z.mono (Nat.le_of_lt s1.out))
  generalize w2.heap.size=r at*
  clear HV HH z B2 L Z2 D p
  by_cases E:f=y0
  ·have g:=N.out
   rw[if_pos E]at g
   have ab:=yH g
   clear g
   have d:(f==y0)=true:=by simpa using E
   refine wp_region_held_drew (S:=fun W:World=>W.cell? ⟨r,0,none⟩=some (.int .u64 f)∧W.cell? ⟨r,6,none⟩=some (.slice o m b)) (by kernel_rfl) (by exact Sd.out) (fun hHeld=>?_)
   refine tq 0 9 rfl (fun W hSw=>by obtain⟨f,k⟩:=hSw;go_simp;try (with_reducible rfl)) ?_
   try simp only[Act.put,sA,sZ,sS]
   refine tq 1 10 rfl (fun W hSw=>by obtain⟨f,k⟩:=hSw;go_simp;try (with_reducible rfl)) ?_
   try simp only[Act.put,sA,sZ,sS]
   refine tq 2 11 rfl (fun W hSw=>by obtain⟨f,k⟩:=hSw;go_simp;try (with_reducible rfl)) ?_
   try simp only[Act.put,sA,sZ,sS]
   refine tq 3 12 rfl (fun W hSw=>by obtain⟨f,k⟩:=hSw;go_simp;try (with_reducible rfl)) ?_
   try simp only[Act.put,sA,sZ,sS]
   refine tq 4 13 rfl (fun W hSw=>by obtain⟨f,k⟩:=hSw;go_simp;try (with_reducible rfl)) ?_
   try simp only[Act.put,sA,sZ,sS]
   refine rd 5 rfl (fun K hK=>?_)
   go_simp
   ((refine HS.out.mono ?_);rintro e w4 ⟨rfl,j⟩;have B4:=yH (y.out.drew.trans (j.mono y.out.size));have G:=yH (F.out.drew.below j F.out.lt);have J:=yH (C.out.drew.below j (yR _));have Z:=yH (show w4.cell? ⟨r,0,none⟩=some (.int .u64 f)∧w4.cell? ⟨r,6,none⟩=some (.slice o m b)from⟨G.out.cell (i:=0) rfl,G.out.cell (i:=6) rfl⟩);have Z4:=yH ((j.block _ X.out).trans Z3.out);clear j)
   try go_wp2_with fail
   refine hK.out _ _ (by exact Z.out) (fun hHeld=>?_)
   clear hK K
   try simp only[Act.put,sA,sZ,sS]
   refine tq 6 15 rfl (fun W hSw=>by obtain⟨f,k⟩:=hSw;go_simp;try (with_reducible rfl)) ?_
   try simp only[Act.put,sA,sZ,sS]
   refine rd 7 rfl (fun K hK=>?_)
   go_simp
   ((refine(aA4 9 _).mono ?_);rintro e w5 ⟨rfl,rfl⟩)
   try go_wp2_with fail
   refine hK.out _ _ (by exact Z.out) (fun hHeld=>?_)
   clear hK K
   try simp only[Act.put,sA,sZ,sS]
   refine wpAnyH_done (by kernel_rfl) ?_ _
   go_wp2_with(first
    |((with_reducible apply aAb 17);refine wpList_load_row rfl 283 (.tmp 5) rfl r rfl 283 #[.int .u64 f,.int .u64 k,.int .u64 q,.int .u64 x,.int .u64 s,.int .u64 u,.slice o m b] (0,0) _ G.out Tryz.underlying283 rfl (by kernel_rfl) ?_)
    |((with_reducible apply aAa (.tmp 4) (.tmp 17));refine wpList_store_row rfl 283 (.tmp 4) (.tmp 17) rfl w.heap.size #[.int .u64 f,.int .u64 k,.int .u64 q,.int .u64 x,.int .u64 s,.int .u64 u,.slice o m b] rfl rfl 283 dz Z4.out (by kernel_rfl) rfl (by simp[Value.oneCell']) ?_)
    |fail)
   refine bodyPost_ret (v:=dataV f k q x s u o m b) (by exact results_cell_row Tryz.results206 _ _ w.heap.size 283 _ (0,0) _ rfl (setRow_heap _ w.heap.size _ _ _ (0,0) Z4.out) Tryz.underlying283 rfl (by kernel_rfl)) rfl ?_
   have b5:=below_setRow (B:=w.heap.size) B4.out (yR _) #[.int .u64 f,.int .u64 k,.int .u64 q,.int .u64 x,.int .u64 s,.int .u64 u,.slice o m b]
   exact⟨b5,.inr ⟨ab.out,o,m,b,rfl,aEl J.out Z4.out _,H,aa.out⟩⟩
  ·have g:=N.out
   rw[if_neg E]at g
   have V:=yH g
   clear g
   have d:(f==y0)=false:=by simpa using E
   refine wp_region_held_drew (S:=fun W:World=>W.cell? ⟨r,0,none⟩=some (.int .u64 f)∧W.cell? ⟨r,6,none⟩=some (.slice o m b)) (by kernel_rfl) (by exact Sd.out) (fun hHeld=>?_)
   refine tq 0 9 rfl (fun W hSw=>by obtain⟨f,k⟩:=hSw;go_simp;try (with_reducible rfl)) ?_
   try simp only[Act.put,sA,sZ,sS]
   refine tq 1 10 rfl (fun W hSw=>by obtain⟨f,k⟩:=hSw;go_simp;try (with_reducible rfl)) ?_
   try simp only[Act.put,sA,sZ,sS]
   refine tq 2 11 rfl (fun W hSw=>by obtain⟨f,k⟩:=hSw;go_simp;try (with_reducible rfl)) ?_
   try simp only[Act.put,sA,sZ,sS]
   refine tq 3 12 rfl (fun W hSw=>by obtain⟨f,k⟩:=hSw;go_simp;try (with_reducible rfl)) ?_
   try simp only[Act.put,sA,sZ,sS]
   refine tq 4 13 rfl (fun W hSw=>by obtain⟨f,k⟩:=hSw;go_simp;try (with_reducible rfl)) ?_
   try simp only[Act.put,sA,sZ,sS]
   refine rd 5 rfl (fun K hK=>?_)
   go_simp
   ((refine HS.out.mono ?_);rintro e w4 ⟨rfl,j⟩;have B4:=yH (y.out.drew.trans (j.mono y.out.size));have G:=yH (F.out.drew.below j F.out.lt);have J:=yH (C.out.drew.below j (yR _));have Z:=yH (show w4.cell? ⟨r,0,none⟩=some (.int .u64 f)∧w4.cell? ⟨r,6,none⟩=some (.slice o m b)from⟨G.out.cell (i:=0) rfl,G.out.cell (i:=6) rfl⟩);have Z4:=yH ((j.block _ X.out).trans Z3.out);clear j)
   try go_wp2_with fail
   refine hK.out _ _ (by exact Z.out) (fun hHeld=>?_)
   clear hK K
   try simp only[Act.put,sA,sZ,sS]
   refine tq 6 15 rfl (fun W hSw=>by obtain⟨f,k⟩:=hSw;go_simp;try (with_reducible rfl)) ?_
   try simp only[Act.put,sA,sZ,sS]
   refine rd 7 rfl (fun K hK=>?_)
   go_simp
   ((refine(aBF 9 _).mono ?_);rintro e w5 ⟨rfl,rfl⟩;exact⟨rfl,B4.out,.inl ⟨by rw[V.out];decide,by rw[V.out]⟩⟩)
 ·rw[if_pos hz]
  go_enter Tryz.func206,Tryz.ntmps206
  go_wp2_with(first
   |(go_at_call 212;(refine HV.out.mono ?_);rintro e w3 ⟨Y,⟨_,rfl⟩|⟨E,_⟩⟩;rotate_left;(exact absurd E hz);have y:=yH (R.out.trans (Y.mono R.out.size));clear Y)
   |fail)
  exact⟨rfl,y.out,.inl ⟨hz,rfl⟩⟩
end Rk
namespace Rl
open Rd (dz)
open Re (aAI ReadD)
attribute [local irreducible] wpList Code.wp
end Rl
end Go.Proofs.YtlelnfokffflnaaGreat
