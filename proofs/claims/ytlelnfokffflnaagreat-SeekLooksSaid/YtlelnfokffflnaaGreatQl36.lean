/-
  Texts beneath the proof.
-/
import Derived.Test.YtlelnfokffflnaaGreatQl35
set_option linter.unusedVariables false
set_option linter.unusedSimpArgs false
set_option maxRecDepth 100000
set_option maxHeartbeats 4000000
open Go.ChangeShapes Go.WideShapes Go.ChangeAt Go.RowKit
namespace Go.Proofs.YtlelnfokffflnaaGreat
namespace Vb
open Bytes8 Blk8 Own8 OwnE Rows2 Ob Ga Gb Ok7 Np Sg Pr8 Rc Rj Rk Rm Rr Va
open Rd (dcode dz)
theorem aDe {w:World}{c:Nat}{h:HD}{d:Int}{b v:Value}(g:Blk w c (h.cells 20++ [.int .u64 d,b]) 101){i:Nat}(f:(h.cells 20)[i]? =some v):w.cell? ⟨c,i,none⟩=some v:=by
 refine g.cell ?_
 rw[List.getElem?_append_left (List.getElem?_eq_some_iff.1 f).1]
 exact f
theorem aIM (h:HD):(h.cells 20)[1]? =some (.int .u32 h.ic):=by
 rw[h.get 20 1 (by decide)]
 rfl
theorem aIN {w:World}{c:Nat}{h:HD}{d:Int}{b:Value}(g:Blk w c (h.cells 20++ [.int .u64 d,b]) 101):w.rangeAt c 3 (idJ h.I):=fun j v hj=>by
 have f:j<16:=(List.getElem?_eq_some_iff.1 hj).1
 refine aDe g ((h.get_I 20 j (by omega)).trans ?_)
 rw[aC7 h.I j f]at hj
 exact hj
theorem aLt {h:HD}{l:List Int}{n a:Nat}(b:dcode h l n a=0):rng h n a:=by
 by_cases c:rng h n a
 ·exact c
 ·rw[show dcode h l n a=2 from if_neg c]at b;cases b
def hH (h:HD)(l:List Int)(n a:Nat):Int:=if hcode9 h l n a=0 then bnum l a 1 6 0 else 0
def TellH (B:Nat)(h:HD)(l:List Int)(n a:Nat)(w:World)(e:Ending)(w':World):Prop:=Below w.heap.size w w'∧ ∃A' m c,e= .returned (.tuple #[.slice A' m c,.int .u64 (hH h l n a),.int .i64 (hcode9 h l n a)])∧Bytes w' A' (payT h l n a)∧(payT h l n a).length=m∧Cap B A' m c
attribute [local irreducible] HD.cells wpList Code.wp
theorem aJK {b:Nat}{h:HD}{d:Int}{A:Option Addr}{n c:Nat}{l:List Int}(o:Option Addr)(j:List Int)(g m:Nat)(w:World)(v:ViewR w b h d A n c l)(u:Bytes w o j)(r:j.length=g)(x:g≤800000)(E:g≤m)(y:m≤maxLen):
 Calls Tryz.prog 95 #[.pointer (some ⟨b,0,none⟩),.slice o g m] w fun e w'=>e= .returned (.int .u64 (ofS (keyB h.ic) (idL h.I) j))∧Below w.heap.size w w':=by
 have p:=yH fun(t:Bool)=>aFO t h.I o j g m w.drew (I_ok v.ok) u.drew r x
 have s:=aDe v.blk (aIM h)
 have C:=yH (show w.drew.cell? ⟨b,1,none⟩=some (.int .u32 h.ic)∧w.drew.rangeAt b 3 (idJ h.I)from⟨s,aIN v.blk⟩)
 have D:=yH (show Below w.heap.size w w.drew from(Below.refl w.heap.size w).drew)
 have k:=yH v.blk
 clear v s u r
 go_enter Tryz.func95,Tryz.ntmps95
 go_upto_region 1 with fail
 refine wp_region_noPanic ?_
 refine wp_region_held_drew (S:=fun W:World=>W.cell? ⟨b,1,none⟩=some (.int .u32 h.ic)∧W.rangeAt b 3 (idJ h.I)) (by kernel_rfl) (by exact C.out) (fun hHeld=>?_)
 refine tq 0 5 rfl (fun W hSw=>by go_simp;try (with_reducible rfl)) ?_
 try simp only[Act.put,sA,sZ,sS]
 refine tq 1 6 rfl (fun W hSw=>by go_simp;try (with_reducible rfl)) ?_
 try simp only[Act.put,sA,sZ,sS]
 refine tq 2 7 rfl (fun W hSw=>by go_simp;try (with_reducible rfl)) ?_
 try simp only[Act.put,sA,sZ,sS]
 refine tq 3 8 rfl (fun W hSw=>by go_simp;try (with_reducible rfl)) ?_
 try simp only[Act.put,sA,sZ,sS]
 refine tq 4 9 rfl (fun W hSw=>by have z:=hSw.1;go_simp;try (with_reducible rfl)) ?_
 try simp only[Act.put,sA,sZ,sS]
 refine tq 5 10 rfl (fun W hSw=>by go_simp;try (with_reducible rfl)) ?_
 try simp only[Act.put,sA,sZ,sS]
 refine tq 6 11 rfl (fun W hSw=>by go_simp;try (with_reducible rfl)) ?_
 try simp only[Act.put,sA,sZ,sS]
 refine tq 7 12 rfl (fun W hSw=>by go_simp;try (with_reducible rfl)) ?_
 try simp only[Act.put,sA,sZ,sS]
 refine tq 8 13 rfl (fun W hSw=>by go_simp;try (with_reducible rfl)) ?_
 try simp only[Act.put,sA,sZ,sS]
 refine tq 9 14 rfl (fun W hSw=>by go_simp;try (with_reducible rfl)) ?_
 try simp only[Act.put,sA,sZ,sS]
 refine tq 10 15 rfl (fun W hSw=>by go_simp;try (with_reducible rfl)) ?_
 try simp only[Act.put,sA,sZ,sS]
 refine tk (i:=11) (oi:=⟨some 16,_,_,_,_,_⟩) rfl (yieldsIf_load_mid (by rfl) _ _ rfl _ _ rfl _ _ (fun _ h=>h.2) Tryz.underlying37 rfl (aBl _)) ?_
 try simp only[Act.put,sA,sZ,sS]
 refine tq 12 17 rfl (fun W hSw=>by go_simp;try (with_reducible rfl)) ?_
 try simp only[Act.put,sA,sZ,sS]
 refine rd 13 rfl (fun K hK=>?_)
 go_simp
 ((refine(p.out _).mono ?_);rintro e w2 ⟨rfl,f⟩;have q:=yH (D.out.trans f);have B:=yH (show w2.cell? ⟨b,1,none⟩=some (.int .u32 h.ic)∧w2.rangeAt b 3 (idJ h.I)from⟨aDe (k.out.below q.out k.out.lt) (aIM h),aIN (k.out.below q.out k.out.lt)⟩);clear f)
 try go_wp2_with fail
 refine hK.out _ _ (by exact B.out) (fun hHeld=>?_)
 clear hK K
 try simp only[Act.put,sA,sZ,sS]
 refine tq 14 4 rfl (fun W hSw=>by go_simp;try (with_reducible rfl)) ?_
 try simp only[Act.put,sA,sZ,sS]
 refine wpAnyH_done (by kernel_rfl) ?_ _
 refine NoPanic.normal ?_
 go_wp2
 go_ret
 exact⟨rfl,q.out⟩
attribute [local irreducible] ofS bnum bpay bcode
theorem aNy {gv:Nat}{h:HD}{d:Int}{A:Option Addr}{n c:Nat}{l:List Int}(a:Nat)(w:World)(v:ViewR w gv h d A n c l):
 Calls Tryz.prog 154 #[.pointer (some ⟨gv,0,none⟩),.int .u64 (a:Int)] w (TellH w.heap.size h l n a w):=by
 have HV:=yH (aLs a w v)
 have HH:=yH fun(hr:rng h n a) (j:Option Addr) (k c2:Nat) (B:Nat) (W:World) (hW:Below w.heap.size w W) (hb:Bytes W j (bpay l a 1 6)) (hL:(bpay l a 1 6).length=k) (hcp:Cap B j k c2)=>aJK j (bpay l a 1 6) k c2 W (v.below hW) hb hL (by have h1:=aFH l a 1 6;have h2:=v.len;have h3:=v.big;omega) hcp.2.1 hcp.2.2.1
 unfold TellD at HV
 unfold TellH
 by_cases Y:dcode h l n a=0
 ·have hr:=aLt Y
  have F:hcode9 h l n a=if bnum l a 1 6 0=ofS (keyB h.ic) (idL h.I) (bpay l a 1 6)then 0 else 9:=by unfold hcode9;rw[if_neg (by omega)]
  have eP:dP h l n a=bpay l a 1 6:=if_pos hr
  have M: ∀i,dN h l n a i=bnum l a 1 6 i:=fun i=>if_pos hr
  rw[Y,eP,M 0,M 1,M 2,M 3,M 4,M 5]at HV
  have ac:=yH (HH.out hr)
  have eH: ∀E,hcode9 h l n a=E→hH h l n a=(if E=0 then bnum l a 1 6 0 else 0)∧payT h l n a=(if E=0 then bpay l a 1 6 else []):=fun E e=>by subst e;exact⟨rfl,rfl⟩
  obtain⟨E,m⟩: ∃z,hcode9 h l n a=z:=⟨_,rfl⟩
  obtain⟨e2,e3⟩:=eH E m
  rw[m,e2,e3]
  rw[m]at F
  clear eH e2 e3 m eP M HH hr v
  generalize ofS (keyB h.ic) (idL h.I) (bpay l a 1 6)=yy at*
  generalize bnum l a 1 6 0=p at*
  generalize bnum l a 1 6 1=r at*
  generalize bnum l a 1 6 2=u at*
  generalize bnum l a 1 6 3=C at*
  generalize bnum l a 1 6 4=y at*
  generalize bnum l a 1 6 5=s at*
  generalize bpay l a 1 6=pl at*
  have aa:=yH F
  clear F
  obtain⟨xr,N⟩: ∃z,z=(if E=0 then p else 0):=⟨_,rfl⟩
  obtain⟨pr,J⟩: ∃z,z=(if E=0 then pl else []):=⟨_,rfl⟩
  rw[←N,←J]
  have af:=yH N
  have ag:=yH J
  clear N J
  go_enter Tryz.func154,Tryz.ntmps154
  go_upto_region 2 with(first
   |(go_at_call 46;(refine HV.out.mono ?_);rintro e w2 ⟨q,j,k,b,rfl,x,H,t⟩;have X:=yH q;have ae:=yH x;have ad:=yH t;clear q x t)
   |((with_reducible apply aAa (.tmp 7) (.tmp 13));refine wpList_store_row rfl 110 (.tmp 7) (.tmp 13) rfl w2.heap.size #[.int .u64 p,.int .u64 r,.int .u64 u,.int .u64 C,.int .u64 y,.int .u64 s,.slice j k b] rfl rfl 110 dz (heap_alloc_new w2 _) (by kernel_rfl) rfl (by simp[Value.oneCell']) ?_)
   |fail)
  have Z:=yH (show Blk ((w2.alloc (.cells dz 110)).setRow w2.heap.size #[.int .u64 p,.int .u64 r,.int .u64 u,.int .u64 C,.int .u64 y,.int .u64 s,.slice j k b]) w2.heap.size [.int .u64 p,.int .u64 r,.int .u64 u,.int .u64 C,.int .u64 y,.int .u64 s,.slice j k b] 110 from setRow_heap _ _ _ _ _ (0,0) (heap_alloc_new w2 _))
  have L:=yH (show Below w2.heap.size w2 ((w2.alloc (.cells dz 110)).setRow w2.heap.size #[.int .u64 p,.int .u64 r,.int .u64 u,.int .u64 C,.int .u64 y,.int .u64 s,.slice j k b])from below_setRow ((Below.refl _ _).alloc (yR _) _) (yR _) _)
  generalize (w2.alloc (.cells dz 110)).setRow w2.heap.size #[.int .u64 p,.int .u64 r,.int .u64 u,.int .u64 C,.int .u64 y,.int .u64 s,.slice j k b]=w3 at*
  have R:=yH (X.out.trans (L.out.mono X.out.size))
  have G:=yH (ae.out.below L.out (yR _))
  have HS:=yH (ac.out j k b _ w3.drew R.out.drew G.out.drew H ad.out)
  have Sd:=yH (show w3.drew.cell? ⟨w2.heap.size,0,none⟩=some (.int .u64 p)∧w3.drew.cell? ⟨w2.heap.size,6,none⟩=some (.slice j k b)from⟨Z.out.drew.cell (i:=0) rfl,Z.out.drew.cell (i:=6) rfl⟩)
  generalize w2.heap.size=D at*
  clear HV ac X ae L
  go_upto_region 4 with fail
  by_cases he:p=yy
  ·have m:=aa.out
   rw[if_pos he]at m
   subst m
   have hx:=af.out
   have hp:=ag.out
   rw[if_pos rfl]at hx hp
   subst hx
   subst hp
   have d1:(xr !=yy)=false:=by simp[he]
   refine wp_region_held_drew (S:=fun W:World=>W.cell? ⟨D,0,none⟩=some (.int .u64 xr)∧W.cell? ⟨D,6,none⟩=some (.slice j k b)) (by kernel_rfl) (by exact Sd.out) (fun hHeld=>?_)
   refine tq 0 18 rfl (fun W hSw=>by obtain⟨f,g⟩:=hSw;go_simp;try (with_reducible rfl)) ?_
   try simp only[Act.put,sA,sZ,sS]
   refine tq 1 19 rfl (fun W hSw=>by obtain⟨f,g⟩:=hSw;go_simp;try (with_reducible rfl)) ?_
   try simp only[Act.put,sA,sZ,sS]
   refine tq 2 20 rfl (fun W hSw=>by obtain⟨f,g⟩:=hSw;go_simp;try (with_reducible rfl)) ?_
   try simp only[Act.put,sA,sZ,sS]
   refine tq 3 21 rfl (fun W hSw=>by obtain⟨f,g⟩:=hSw;go_simp;try (with_reducible rfl)) ?_
   try simp only[Act.put,sA,sZ,sS]
   refine tq 4 22 rfl (fun W hSw=>by obtain⟨f,g⟩:=hSw;go_simp;try (with_reducible rfl)) ?_
   try simp only[Act.put,sA,sZ,sS]
   refine rd 5 rfl (fun K hK=>?_)
   go_simp
   ((refine HS.out.mono ?_);rintro e w4 ⟨rfl,o⟩;have B4:=yH (R.out.drew.trans (o.mono R.out.size));have V:=yH (Z.out.drew.below o Z.out.lt);have ab:=yH (G.out.drew.below o (yR _));have S4:=yH (show w4.cell? ⟨D,0,none⟩=some (.int .u64 xr)∧w4.cell? ⟨D,6,none⟩=some (.slice j k b)from⟨V.out.cell (i:=0) rfl,V.out.cell (i:=6) rfl⟩);clear o)
   try go_wp2_with fail
   refine hK.out _ _ (by exact S4.out) (fun hHeld=>?_)
   clear hK K
   try simp only[Act.put,sA,sZ,sS]
   refine tq 6 24 rfl (fun W hSw=>by obtain⟨f,g⟩:=hSw;go_simp;try (with_reducible rfl)) ?_
   try simp only[Act.put,sA,sZ,sS]
   refine wpAnyH_done (by kernel_rfl) ?_ _
   have t0:=V.out.drew.cell (i:=0) rfl
   have t6:=V.out.drew.cell (i:=6) rfl
   go_upto_region 6 with fail
   go_region
   all_goals
    go_wp2
    refine bodyPost_ret (v:= .tuple #[.slice j k b,.int .u64 xr,.int .i64 0]) (by simp[results,Tryz.results154,go_sem,he]) rfl ?_
    exact⟨B4.out.drew,j,k,b,rfl,ab.out.drew,H,ad.out⟩
  ·have m:=aa.out
   rw[if_neg he]at m
   subst m
   have hx:=af.out
   have hp:=ag.out
   rw[if_neg (by decide)]at hx hp
   subst hx
   subst hp
   have d1:(p !=yy)=true:=by simpa using he
   refine wp_region_held_drew (S:=fun W:World=>W.cell? ⟨D,0,none⟩=some (.int .u64 p)∧W.cell? ⟨D,6,none⟩=some (.slice j k b)) (by kernel_rfl) (by exact Sd.out) (fun hHeld=>?_)
   refine tq 0 18 rfl (fun W hSw=>by obtain⟨f,g⟩:=hSw;go_simp;try (with_reducible rfl)) ?_
   try simp only[Act.put,sA,sZ,sS]
   refine tq 1 19 rfl (fun W hSw=>by obtain⟨f,g⟩:=hSw;go_simp;try (with_reducible rfl)) ?_
   try simp only[Act.put,sA,sZ,sS]
   refine tq 2 20 rfl (fun W hSw=>by obtain⟨f,g⟩:=hSw;go_simp;try (with_reducible rfl)) ?_
   try simp only[Act.put,sA,sZ,sS]
   refine tq 3 21 rfl (fun W hSw=>by obtain⟨f,g⟩:=hSw;go_simp;try (with_reducible rfl)) ?_
   try simp only[Act.put,sA,sZ,sS]
   refine tq 4 22 rfl (fun W hSw=>by obtain⟨f,g⟩:=hSw;go_simp;try (with_reducible rfl)) ?_
   try simp only[Act.put,sA,sZ,sS]
   refine rd 5 rfl (fun K hK=>?_)
   go_simp
   ((refine HS.out.mono ?_);rintro e w4 ⟨rfl,o⟩;have B4:=yH (R.out.drew.trans (o.mono R.out.size));have V:=yH (Z.out.drew.below o Z.out.lt);have ab:=yH (G.out.drew.below o (yR _));have S4:=yH (show w4.cell? ⟨D,0,none⟩=some (.int .u64 p)∧w4.cell? ⟨D,6,none⟩=some (.slice j k b)from⟨V.out.cell (i:=0) rfl,V.out.cell (i:=6) rfl⟩);clear o)
   try go_wp2_with fail
   refine hK.out _ _ (by exact S4.out) (fun hHeld=>?_)
   clear hK K
   try simp only[Act.put,sA,sZ,sS]
   refine tq 6 24 rfl (fun W hSw=>by obtain⟨f,g⟩:=hSw;go_simp;try (with_reducible rfl)) ?_
   try simp only[Act.put,sA,sZ,sS]
   refine wpAnyH_done (by kernel_rfl) ?_ _
   go_wp2
   refine bodyPost_ret (v:= .tuple #[.slice none 0 0,.int .u64 0,.int .i64 9]) (by simp[results,Tryz.results154,go_sem]) rfl ?_
   exact⟨B4.out,none,0,0,rfl,Bytes.nil _ _,rfl,aFK _⟩
 ·have F:hcode9 h l n a=dcode h l n a:=by unfold hcode9;rw[if_pos Y]
  have e2:hH h l n a=0:=by unfold hH;rw[F,if_neg Y]
  have e3:payT h l n a=[]:=by unfold payT;rw[F,if_neg Y]
  rw[F,e2,e3]
  clear F e2 e3 HH v
  generalize dcode h l n a=cd at*
  generalize dN h l n a 0=p at*
  generalize dN h l n a 1=r at*
  generalize dN h l n a 2=u at*
  generalize dN h l n a 3=C at*
  generalize dN h l n a 4=y at*
  generalize dN h l n a 5=s at*
  generalize dP h l n a=pl at*
  have d1:(cd !=0)=true:=by simpa using Y
  go_enter Tryz.func154,Tryz.ntmps154
  go_upto_region 2 with(first
   |(go_at_call 46;(refine HV.out.mono ?_);rintro e w2 ⟨q,j,k,b,rfl,x,H,t⟩;have X:=yH q;clear q x t)
   |((with_reducible apply aAa (.tmp 7) (.tmp 13));refine wpList_store_row rfl 110 (.tmp 7) (.tmp 13) rfl w2.heap.size #[.int .u64 p,.int .u64 r,.int .u64 u,.int .u64 C,.int .u64 y,.int .u64 s,.slice j k b] rfl rfl 110 dz (heap_alloc_new w2 _) (by kernel_rfl) rfl (by simp[Value.oneCell']) ?_)
   |fail)
  have R:=yH (show Below w.heap.size w ((w2.alloc (.cells dz 110)).setRow w2.heap.size #[.int .u64 p,.int .u64 r,.int .u64 u,.int .u64 C,.int .u64 y,.int .u64 s,.slice j k b])from X.out.trans ((below_setRow ((Below.refl _ _).alloc (yR _) _) (yR _) _).mono X.out.size))
  generalize (w2.alloc (.cells dz 110)).setRow w2.heap.size #[.int .u64 p,.int .u64 r,.int .u64 u,.int .u64 C,.int .u64 y,.int .u64 s,.slice j k b]=w3 at*
  go_wp2
  refine bodyPost_ret (v:= .tuple #[.slice none 0 0,.int .u64 0,.int .i64 cd]) (by simp[results,Tryz.results154,go_sem]) rfl ?_
  exact⟨R.out,none,0,0,rfl,Bytes.nil _ _,rfl,aFK _⟩
end Vb
namespace Wa
open Bytes8 Own8 OwnE Ob Ga Gb Ok7 Rc Va Dc
open Yp Ye Yh
open Rg (arcode)
open Ym (aBC)
def nothB (n:Nat)(x:Int):Bool:=decide (x=0)||decide ((n:Int)≤x)
def lastI (out:List Int):Int:=out.getLastD 0
def inA (K:List Int→List Int×Int)(E:Nat)(n ni:Int)(g:Nat→Int):Nat→Nat→List Int→List Int×Int
 |0,_,out=>K out
 |m+1,i,out=>if(out.length:Int)=n then(out,0)else if nothB E (g i)=true then(out,ni)else if g i≤lastI out then(out,13)else inA K E n ni g m (i+1) (out++ [g i])
def chase (h:HD)(l:List Int)(E:Nat)(n na ni:Int):Nat→List Int→Nat→Nat→List Int×Int
 |0,out,_,_=>(out,0)
 |f+1,out,a,last=>if(out.length:Int)=n then(out,0)else if nothB E a=true then(out,na)else if a≤last then(out,12)else if arcode h l E a≠0 then(out,arcode h l E a)else inA (fun o=>chase h l E n na ni f o (aX9 h l E a).toNat a) E n ni (arF (bodyL l a)) (aC9 h l E a) 0 out
theorem aFL (K:List Int→List Int×Int)(E:Nat)(n ni:Int)(g:Nat→Int)(m i:Nat)(out:List Int)(h:(out.length:Int)=n)(b:K out=(out,0)):inA K E n ni g m i out=(out,0):=by
 cases m with
 |zero=>exact b
 |succ m=>exact if_pos h
theorem aAN (h:HD)(l:List Int)(E:Nat)(n na ni:Int)(f:Nat)(out:List Int)(a b:Nat)(c:(out.length:Int)=n):chase h l E n na ni f out a b=(out,0):=by
 cases f with
 |zero=>rfl
 |succ f=>exact if_pos c
theorem aOj {h:HD}{l:List Int}{E a:Nat}(d:AllB l):aX9 h l E a=((aX9 h l E a).toNat:Int)∧(aX9 h l E a).toNat≤18446744073709551615:=by
 have c:AllB (bodyL l a):=fun x hx=>d x (List.mem_of_mem_drop (List.mem_of_mem_take hx))
 have b:=aCE c 0
 have f:0≤aX9 h l E a∧aX9 h l E a≤18446744073709551615:=by
  unfold aX9 arX
  split
  ·split
   ·exact b
   ·omega
  ·omega
 omega
theorem aIO {l:List Int}{a:Nat}(b:AllB l)(i:Nat):0≤arF (bodyL l a) i∧arF (bodyL l a) i≤18446744073709551615:=aCE (fun x hx=>b x (List.mem_of_mem_drop (List.mem_of_mem_take hx))) _
theorem aP5 {h:HD}{l:List Int}{n a:Nat}(b:l.length≤1000000):aC9 h l n a≤1000000:=by
 have c:(bodyL l a).length≤l.length:=by unfold bodyL;rw[List.length_take,List.length_drop];omega
 unfold aC9
 split
 ·unfold arM arN
  split<;>omega
 ·omega
theorem aDf (out:List Int)(x:Int):lastI (out++ [x])=x:=by simp[lastI]
def Up (E:Nat)(out:List Int):Prop:=(out.length:Int)≤lastI out∧lastI out≤(E:Int)
theorem Up.nil (E:Nat):Up E []:=⟨by simp[lastI],by simp[lastI]⟩
theorem Up.snoc {E:Nat}{out:List Int}{x:Int}(h:Up E out)(c:lastI out<x)(b:nothB E x=false):Up E (out++ [x]):=by
 have d: ¬(E:Int)≤x:=by simp[nothB]at b;omega
 refine⟨?_,?_⟩
 ·rw[aDf,List.length_append,List.length_singleton];have:=h.1;omega
 ·rw[aDf];omega
theorem aCP (out:List Int)(m:Nat)(h:out.length=m+1):(out.map (Value.int .u64))[m]? =some (.int .u64 (lastI out)):=by
 rw[List.getElem?_map]
 have:out[m]? =some (lastI out):=by
  rw[show m=out.length-1 by omega,←List.getLast?_eq_getElem?]
  cases out with
  |nil=>simp at h
  |cons x t=>simp[lastI,List.getLastD_cons,List.getLast?_cons]
 rw[this];rfl
attribute [local irreducible] HD.cells wpList Code.wp
theorem aLu {g:Nat}{h:HD}{d:Int}{A:Option Addr}{n c:Nat}{l:List Int}(x:Int)(w:World)(v:ViewR w g h d A n c l):Calls Tryz.prog 101 #[.pointer (some ⟨g,0,none⟩),.int .u64 x] w fun e w'=>e= .returned (.bool (nothB n x))∧w=w':=by
 have i:=yH (aEq w v)
 clear v
 unfold nothB
 by_cases b:x=0
 ·subst b
  go_enter Tryz.func101,Tryz.ntmps101
  go_wp2_with(first
   |(go_at_call 92;(refine i.out.mono ?_);rintro e w1 ⟨rfl,rfl⟩)
   |fail)
  go_ret
  exact⟨rfl,rfl⟩
 ·have j:(x==0)=false:=by simpa using b
  have f:decide (x=0)=false:=by simpa using b
  rw[f,Bool.false_or]
  go_enter Tryz.func101,Tryz.ntmps101
  go_wp2_with(first
   |(go_at_call 92;(refine i.out.mono ?_);rintro e w1 ⟨rfl,rfl⟩)
   |fail)
  go_ret
  exact⟨rfl,rfl⟩
theorem aIP {f:Nat}{h:HD}{A:Option Addr}{n c:Nat}{l:List Int}(x:Int)(w:World)(v:ViewAt w f h A n c l):Calls Tryz.prog 193 #[.pointer (some ⟨f,0,none⟩),.int .u64 x] w fun e w'=>e= .returned (.bool (nothB n x))∧w=w':=by
 have g:=yH (aFE w v)
 clear v
 unfold nothB
 by_cases b:x=0
 ·subst b
  go_enter Tryz.func193,Tryz.ntmps193
  go_wp2_with(first
   |(go_at_call 84;(refine g.out.mono ?_);rintro e w1 ⟨rfl,rfl⟩)
   |fail)
  go_ret
  exact⟨rfl,rfl⟩
 ·have i:(x==0)=false:=by simpa using b
  have d:decide (x=0)=false:=by simpa using b
  rw[d,Bool.false_or]
  go_enter Tryz.func193,Tryz.ntmps193
  go_wp2_with(first
   |(go_at_call 84;(refine g.out.mono ?_);rintro e w1 ⟨rfl,rfl⟩)
   |fail)
  go_ret
  exact⟨rfl,rfl⟩
def TellL (R:List Int×Int)(w:World)(e:Ending)(w':World):Prop:=Below w.heap.size w w'∧ ∃A m c,e= .returned (.tuple #[.slice A m c,.int .i64 R.2])∧OwnE 27 1 w' w.heap.size A m c (R.1.map (Value.int .u64))∧R.1.length=m
end Wa
namespace Vd
open Bytes8 Blk8 Own8 OwnM OwnE Rows2 Ob Od Ga Gb Gf Gj Gq Gt Ok7 Ns Ra Rc Va
open Go1 (hcode rhd aBK HTold magicB)
theorem aP6 {w:World}{g:Nat}{T:TypeId}{h:HD}{m:Nat}(b:Blk w g (h.cells m) T):w.rangeAt g 0 (h.cells m):=fun j v hj=>by rw[Nat.zero_add];exact b.cell hj
theorem aHK (h:HD)(d:Int)(b:Value)(A:Option Addr)(n c:Nat)(e:b= .slice A n c):Tryz.prog.built 101 [(0,.agg (h.cells 20).toArray),(1,.int .u64 d),(2,b)]=some (h.cells 20++([.int .u64 d,b]:List Value)).toArray:=by subst e;kernel_rfl
def bldRV (parts:Array (Nat×Value)):Sem Value:=Instr.build 101 parts
theorem aJL (b:Array (Nat×Value)):Instr.build 101 b=bldRV b:=rfl
theorem aHL (h:HD)(d:Int)(A:Option Addr)(n c:Nat)(w:World):(bldRV #[(0,.agg (h.cells 20).toArray),(1,.int .u64 d),(2,.slice A n c)]).run Tryz.prog w= .ok (.agg (h.cells 20++([.int .u64 d,.slice A n c]:List Value)).toArray) w:=by
 unfold bldRV
 exact run_build w _ _ _ (aHK h d _ A n c rfl)
def OpenedR (l:List Int)(E:Nat)(w:World)(e:Ending)(w':World):Prop:= ∃(gv:Nat) (A2:Option Addr) (c2:Nat),e= .returned (.tuple #[.pointer (some ⟨gv,0,none⟩),.int .i64 0])∧w.heap.size≤gv∧ViewR w' gv (hdOf l) (Ob.u8 l 248) A2 E c2 (l.take E)∧Below w.heap.size w w'
attribute [local irreducible] HD.cells wpList Code.wp
attribute [local go_sem ↓] aJL
theorem aJM (l:List Int)(A:Option Addr)(n c:Nat)(w:World)(C:Bytes w A l)(F:l.length=n)(hn:n≤800000)(D:n≤c)(x:hcode l n=0)(E:Nat)(X:endV (hdOf l)=(E:Int))(j:endB (hdOf l)=true)(ab:E≤n)(p:(hdOf l).Ok 21):
 Calls Tryz.prog 40 #[.slice A n c] w (OpenedR l E w):=by
 have B:=yH (aFa A l n c w C F (by omega) D)
 rw[if_pos x,if_pos x,x]at B
 unfold RTold at B
 have N:=yH fun(W:World)=>aI3 (hdOf l) (aDk C.1 20) W
 rw[X,j]at N
 have Y:=yH C
 unfold OpenedR
 have r:=yH F
 have I:=yH p
 have m:(l.take E).length=E:=by rw[List.length_take];omega
 generalize hdOf l=H at*
 generalize Ob.u8 l 248=dp at*
 clear p C F x X j
 go_enter Tryz.func40,Tryz.ntmps40
 go_upto_region 4 with(first
  |(go_at_call 90;((refine B.out.mono ?_);rintro e w1 ⟨rfl,q⟩;have y:=yH q;clear q))
  |((with_reducible apply aAa (.tmp 4) (.tmp 12));refine wpList_store_row rfl 99 (.tmp 4) (.tmp 12) rfl w1.heap.size (H.cells 20).toArray rfl rfl 99 Tryz.zeroCells99 (heap_alloc_new w1 _) (aAc _) aAk (HD.one _ 20) ?_)
  |fail)
 have t:=yH (show Blk ((w1.alloc (.cells Tryz.zeroCells99 99)).setRow w1.heap.size (H.cells 20).toArray) w1.heap.size (H.cells 20) 99 from setRow_heap _ _ _ _ _ (0,0) (heap_alloc_new w1 _))
 have L:=yH (show Below w.heap.size w ((w1.alloc (.cells Tryz.zeroCells99 99)).setRow w1.heap.size (H.cells 20).toArray)from below_setRow (y.out.alloc y.out.size _) y.out.size _)
 generalize (w1.alloc (.cells Tryz.zeroCells99 99)).setRow w1.heap.size (H.cells 20).toArray=w2 at*
 generalize w1.heap.size=G at*
 clear B y
 go_upto_region 5 with(first
  |((with_reducible apply aAb 19);refine wpList_load_row rfl 99 (.tmp 4) rfl G rfl 99 (H.cells 20).toArray (0,0) _ t.out Tryz.underlying99 rfl (aAc _) ?_)
  |(go_at_call 91;((refine(N.out _).mono ?_);rintro e w4 ⟨rfl,f⟩;have z:=yH (L.out.trans (f.mono L.out.size));have Z:=yH (t.out.below f t.out.lt);clear f))
  |fail)
 have V:=yH (show Below w4.heap.size w4 w4.drew from(Below.refl w4.heap.size w4).drew)
 have u:=yH fun(W:World) (hW:Below w4.heap.size w4 W)=>show(fun W:World=>W.rangeAt G 0 (H.cells 20)) W from aP6 (Z.out.below hW Z.out.lt)
 have hcut:=fun W:World=>aOg A n c E (by omega) (by omega) W
 have M:=yH (show Below w4.heap.size w4 (w4.drew.alloc (.cells #[] 5))from V.out.alloc V.out.size _)
 have R:=yH (Own.made w4.drew w4.heap.size (yR _))
 have J:=yH (show Bytes (w4.drew.alloc (.cells #[] 5)) (cutA A c 0) (l.take E)from by
  have k:=Bytes.cut ((Y.out.below z.out (yR _)).below M.out (yR _)) c 0 E (by rw[r.out];exact D)
  rw[List.drop_zero]at k
  exact k)
 have aa:=fun(A':Option Addr) (c':Nat) (W:World)=>aHL H dp A' E c' W
 clear N t L Y r D
 refine wp_region_noPanic ?_
 refine wp_region_held_drew (S:=fun W:World=>W.rangeAt G 0 (H.cells 20)) (by kernel_rfl) (by exact(u.out _ V.out)) (fun hHeld=>?_)
 refine tk (i:=0) (oi:=⟨some 23,_,_,_,_,_⟩) rfl (yieldsIf_load_mid (by rfl) _ _ rfl _ _ rfl _ _ (fun _ h=>h) Tryz.underlying99 rfl (aBu _)) ?_
 try simp only[Act.put,sA,sZ,sS]
 refine tq 1 24 rfl (fun W hSw=>by go_simp;try (with_reducible rfl)) ?_
 try simp only[Act.put,sA,sZ,sS]
 refine tq 3 26 rfl (fun W hSw=>by go_simp;try (with_reducible rfl)) ?_
 try simp only[Act.put,sA,sZ,sS]
 refine tq 4 27 rfl (fun W hSw=>by go_simp;try (with_reducible rfl)) ?_
 try simp only[Act.put,sA,sZ,sS]
 refine tq 5 28 rfl (fun W hSw=>by go_simp;try (with_reducible rfl)) ?_
 try simp only[Act.put,sA,sZ,sS]
 refine rd 2 rfl (fun K hK=>?_)
 go_simp
 skip
 try go_wp2_with fail
 refine hK.out _ _ (by exact(u.out _ M.out)) (fun hHeld=>?_)
 clear hK K
 try simp only[Act.put,sA,sZ,sS]
 refine rd 6 rfl (fun K hK=>?_)
 refine aAg (o:=⟨some 29,_,_,_,_,_⟩) rfl (.tmp 25) (.tmp 28) rfl w4.heap.size _ 0 0 [] rfl R.out (cutA A c 0) E c (l.take E) rfl J.out m (by omega) ?_
 intro A5 c5 w5 d s
 rw[Nat.zero_add,List.nil_append]at d
 have b:=yH d
 have g:=yH (M.out.trans s)
 clear d s
 refine hK.out _ _ (by exact(u.out _ g.out)) (fun hHeld=>?_)
 clear hK K
 try simp only[Act.put,sA,sZ,sS]
 refine tq 7 30 rfl (fun W hSw=>by go_simp;try (with_reducible rfl)) ?_
 try simp only[Act.put,sA,sZ,sS]
 refine rd 8 rfl (fun K hK=>?_)
 go_simp
 skip
 try go_wp2_with fail
 refine hK.out _ _ (by exact(u.out _ (g.out.alloc g.out.size _))) (fun hHeld=>?_)
 clear hK K
 try simp only[Act.put,sA,sZ,sS]
 refine tq 9 2 rfl (fun W hSw=>by go_simp;try (with_reducible rfl)) ?_
 try simp only[Act.put,sA,sZ,sS]
 refine tq 10 3 rfl (fun W hSw=>by go_simp;try (with_reducible rfl)) ?_
 try simp only[Act.put,sA,sZ,sS]
 refine wpAnyH_done (by kernel_rfl) ?_ _
 refine NoPanic.normal ?_
 go_wp2
 go_ret2
 exact⟨_,A5,c5,rfl,Nat.le_trans z.out.size g.out.size,⟨Blk.new w5 _ _,b.out.bytes.below ((Below.refl _ _).alloc (yR _) _) (yR _),m,(aBs b.out).1,(aBs b.out).2,by omega,I.out⟩,z.out.trans ((g.out.alloc g.out.size _).mono z.out.size)⟩
end Vd
end Go.Proofs.YtlelnfokffflnaaGreat
