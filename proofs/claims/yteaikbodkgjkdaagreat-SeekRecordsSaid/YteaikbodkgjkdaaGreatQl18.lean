/-
  Texts beneath.
-/
import Derived.Test.YteaikbodkgjkdaaGreatQl17
set_option linter.unusedVariables false
set_option linter.unusedSimpArgs false
set_option maxRecDepth 100000
set_option maxHeartbeats 2000000
open Go.ChangeShapes Go.WideShapes Go.ChangeAt Go.RowKit
namespace Go.Proofs.YteaikbodkgjkdaaGreat
namespace Nc
open Bytes8 Ob Ga Ma Mb Mc Mf Mg Yd Na Nb
theorem aAE (k:Nat):4≤roomN k∧roomN k≤256:=by
 unfold roomN
 by_cases h:k>6
 ·rw[if_pos h];decide
 ·rw[if_neg h]
  have:1≤2^k:=Nat.one_le_two_pow
  omega
theorem aJd:rooms 0=0:=rfl
theorem aIl (k:Nat):rooms k≤256*k:=by
 induction k with
 |zero=>rw[aJd];omega
 |succ k ih=>rw[aAv];have:=(aAE k).2;omega
theorem aFl (k:Nat):4*k≤rooms k:=by
 induction k with
 |zero=>omega
 |succ k ih=>rw[aAv];have:=(aAE k).1;omega
theorem rooms_mono {a b:Nat}(h:a≤b):rooms a≤rooms b:=by
 induction h with
 |refl=>exact yR _
 |step _ ih=>rw[aAv];omega
def aobj (k:Nat):List Int:=objB 6 (arrB 0 (List.replicate (roomN k) 0))
theorem aCy (k:Nat):(aobj k).length=24+8*roomN k:=by
 unfold aobj arrB
 rw[aBj,yA,nums_len,nums_len,List.length_replicate]
 have e:padN (8* [(0:Int)].length+8*roomN k)=0:=by unfold padN;simp only[List.length_cons,List.length_nil];omega
 rw[e]
 simp only[List.length_cons,List.length_nil]
 omega
def Mk.linkNew (m:Mk)(arr:List Nat)(fr item:Nat):Mk:=
 {m.object (aobj arr.length)with
  h:=setN (m.object (aobj arr.length)).h 18 (m.h.N 18+1)
  b:=put8 (put8 (m.b++aobj arr.length) (if arr=[]then fr else arr.getLastD 0+16) m.b.length) (m.b.length+24) item}
def Mk.linkOld (m:Mk)(arr:List Nat)(n item:Nat):Mk:={m with b:=put8 m.b (arr.getLastD 0+24+8*(n-rooms (arr.length-1))) item}
def Mk.link (m:Mk)(arr:List Nat)(n fr item:Nat):Mk×List Nat×Nat:=
 if n=rooms arr.length then(Mk.linkNew m arr fr item,arr++ [m.b.length],1)else(Mk.linkOld m arr n item,arr,n-rooms (arr.length-1)+1)
theorem aDn {arr:List Nat}(h:arr≠ []):arr.getLastD 0=arr[arr.length-1]'(by have:=List.length_pos_iff.2 h;omega):=by
 rw[List.getLastD_eq_getLast?,List.getLast?_eq_getElem?,yG (by have:=List.length_pos_iff.2 h;omega)]
 rfl
theorem aA6 {L:Nat}{arr:List Nat}{n:Nat}(h:Chain L arr n)(a:arr≠ []):arr.getLastD 0+24+8*roomN (arr.length-1)≤L:=by
 rw[aDn a];exact h.fits _ _
theorem aFm {L:Nat}{arr:List Nat}{n:Nat}(h:Chain L arr n)(a:n≠rooms arr.length):arr≠ []:=by
 intro e
 subst e
 have:=h.le
 exact a (by rw[show rooms ([]:List Nat).length=0 from rfl]at this⊢;omega)
theorem aD2 {L:Nat}{arr:List Nat}{n:Nat}(h:Chain L arr n)(c:n≠rooms arr.length):rooms (arr.length-1)≤n∧n-rooms (arr.length-1)<roomN (arr.length-1):=by
 have a:=List.length_pos_iff.2 (aFm h c)
 have e:=h.ge a
 have d:=h.le
 have b:=aAv (arr.length-1)
 rw[show arr.length-1+1=arr.length by omega]at b
 omega
theorem aD3 {m:Mk}{arr:List Nat}{n fr item:Nat}(h:Chain m.b.length arr n)(d:fr+8≤m.b.length):(Mk.linkNew m arr fr item).b.length=m.b.length+(24+8*roomN arr.length):=by
 have a:=aCy arr.length
 have e:=aAE arr.length
 show(put8 (put8 (m.b++aobj arr.length) _ _) _ _).length=_
 have c:(if arr=[]then fr else arr.getLastD 0+16)+8≤(m.b++aobj arr.length).length:=by
  rw[yA,a]
  split
  ·omega
  ·next hne=>have:=aA6 h hne;omega
 rw[aAp _ _ _ (by rw[aAp _ _ _ c,yA,a];omega),aAp _ _ _ c,yA,a]
theorem aD4 {m:Mk}{arr:List Nat}{n item:Nat}(h:Chain m.b.length arr n)(a:n≠rooms arr.length):(Mk.linkOld m arr n item).b.length=m.b.length:=by
 have d:=aA6 h (aFm h a)
 have c:=aD2 h a
 exact aAp _ _ _ (by omega)
theorem aKs {L b at_:Nat}{arr:List Nat}{n:Nat}(h:Chain L arr n)(e:L≤b)(f:n=rooms arr.length)(c:at_+24+8*roomN arr.length≤b):Chain b (arr++ [at_]) (n+1):=by
 have d:=aAE arr.length
 refine⟨?_,fun _=>?_,fun i hi=>?_⟩
 ·rw[yA,List.length_singleton,aAv];omega
 ·rw[yA,List.length_singleton,Nat.add_sub_cancel];omega
 ·rw[yA,List.length_singleton]at hi
  rcases Nat.lt_or_ge i arr.length with a|a
  ·rw[List.getElem_append_left a]
   have:=h.fits i a
   omega
  ·rw[List.getElem_append_right a]
   obtain rfl:i=arr.length:=by omega
   simpa using c
theorem aJe {L:Nat}{arr:List Nat}{n:Nat}(h:Chain L arr n)(a:n≠rooms arr.length):Chain L arr (n+1):=
 ⟨by have:=h.le;omega,fun hp=>by have:=h.ge hp;omega,h.fits⟩
theorem aIm {m m':Mk}(h:Inv m)(j:m'.C=m.C)(g:m.b.length≤m'.b.length)(r:m'.b.length%8=0)(p:m'.datas=m.datas)(q:m'.fields=m.fields)(t:m'.main=m.main)(l:m'.depth=m.depth)
 (f: ∀i,i=2∨i=4∨i=8∨i=15∨i=16∨i=19→m'.h.N i=m.h.N i)(v:0≤m'.h.N 7∧m'.h.N 7≤m'.b.length)(o:0≤m'.h.N 18∧m'.h.N 18≤m'.b.length):Inv m':=
 {F:=by rw[j];exact h.F
  ds:=by rw[j];exact h.ds
  fs:=by rw[j];exact h.fs
  n2:=by rw[f 2 (by simp)];exact h.n2
  n4:=by rw[f 4 (by simp),show Mk.tf m'=Mk.tf m by unfold Mk.tf;rw[j]];exact h.n4
  len:=by rw[j];exact Nat.le_trans h.len g
  l8:=r
  dat:=fun k hk=>by
   rw[p]at hk
   obtain⟨a,b,c,d,e⟩:=h.dat k hk
   exact⟨by omega,b,c,d.mono g,by omega⟩
  fld:=fun k hk=>by
   rw[q]at hk
   obtain⟨a,b⟩:=h.fld k hk
   exact⟨by omega,b⟩
  mn:=by
   obtain⟨n,u,s,w⟩:=h.mn
   exact⟨n,by rw[f 8 (by simp),u],by rw[t];exact s.mono g,by omega⟩
  n7:=v
  n15:=by rw[f 15 (by simp)];have:=h.n15;omega
  n16:=by rw[f 16 (by simp)];have:=h.n16;omega
  n18:=o
  n19:=by rw[f 19 (by simp)];have:=h.n19;omega
  dep:=by rw[l];exact Nat.le_trans h.dep g
  dn:=by rw[p];exact Nat.le_trans h.dn g
  fn:=by rw[q];exact Nat.le_trans h.fn g}
theorem aA7 {m:Mk}(h:Inv m)(l:List Int)(a:l.length%8=0)(b:0<l.length):Inv (m.object l):=by
 have e:=aAM m l
 have:=h.l8
 refine aIm h rfl (by omega) (by omega) rfl rfl rfl rfl ?_ ?_ ?_
 ·rintro i (rfl|rfl|rfl|rfl|rfl|rfl)<;>rfl
 ·have:=h.n7
  show 0≤m.h.N 7+1∧m.h.N 7+1≤_
  omega
 ·have:=h.n18
  show 0≤m.h.N 18∧m.h.N 18≤_
  omega
theorem aDD {m:Mk}(h:Inv m){arr:List Nat}{n fr:Nat}(item:Nat)(a:Chain m.b.length arr n)(g:fr+8≤m.b.length):
 Inv (Mk.link m arr n fr item).1∧Chain (Mk.link m arr n fr item).1.b.length (Mk.link m arr n fr item).2.1 (n+1)∧m.b.length≤(Mk.link m arr n fr item).1.b.length∧(Mk.link m arr n fr item).1.b.length≤m.b.length+2100∧
 (Mk.link m arr n fr item).1.datas=m.datas∧(Mk.link m arr n fr item).1.fields=m.fields∧(Mk.link m arr n fr item).1.main=m.main∧(Mk.link m arr n fr item).1.C=m.C∧(Mk.link m arr n fr item).1.depth=m.depth∧(∀i,i≠6→i≠7→i≠18→(Mk.link m arr n fr item).1.h.N i=m.h.N i)∧(Mk.link m arr n fr item).1.h.st=m.h.st∧(Mk.link m arr n fr item).2.2≤256:=by
 unfold Mk.link
 by_cases e:n=rooms arr.length
 ·simp only[if_pos e]
  have f:=aD3 (item:=item) a g
  have j:=aAE arr.length
  have p:=aA7 h (aobj arr.length) (by rw[aCy];omega) (by rw[aCy];omega)
  have c:=aAM m (aobj arr.length)
  rw[aCy]at c
  refine⟨?_,?_,by omega,by omega,rfl,rfl,rfl,rfl,rfl,?_,rfl,by decide⟩
  ·have:=h.l8
   refine aIm h rfl (by omega) (by omega) rfl rfl rfl rfl ?_ ?_ ?_
   ·rintro i (rfl|rfl|rfl|rfl|rfl|rfl)<;>rfl
   ·have:=h.n7
    show 0≤m.h.N 7+1∧m.h.N 7+1≤_
    omega
   ·have:=h.n18
    show 0≤m.h.N 18+1∧m.h.N 18+1≤_
    omega
  ·exact aKs a (by omega) e (by omega)
  ·intro i k l d
   show(setN (setN (setN m.h 6 _) 7 _) 18 _).N i=_
   rw[aA1 _ _ _ _ d,aA1 _ _ _ _ l,aA1 _ _ _ _ k]
 ·simp only[if_neg e]
  have f:=aD4 (item:=item) a e
  have o:=aD2 a e
  have j:=aAE (arr.length-1)
  exact⟨aD0 h f,by rw[f];exact aJe a e,by omega,by omega,rfl,rfl,rfl,rfl,rfl,fun _ _ _ _=>rfl,rfl,by omega⟩
end Nc
namespace Mh
open Bytes8 Blk8 Own8 OwnM OwnE Od Ga Ma Kf Mb Mc Md Mf Gb Ge
open Gq (aAc aBu aAk)
open Gp (aAO)
theorem aJf {w:World}{g:Nat}{T:TypeId}{m:Mk}{S:Sl}(b:Blk w g (Mk.cells m S) T):w.rangeAt g 52 (m.h.cells 20):=fun j v hj=>by
 have c:j<90:=by
  have:=(List.getElem?_eq_some_iff.1 hj).1
  rw[HD.len]at this
  omega
 have a:=b.cell (Mk.get m S (52+j) (by omega))
 unfold Mk.at_ at a
 rw[if_pos (by omega),if_neg (by omega),show 52+j-52=j by omega]at a
 rw[m.h.get 20 j (by omega)]at hj
 injection hj with hj
 subst hj
 exact a
theorem aPJ (h:HD)(m:Nat)(v:Int):(h.cells m).set 2 (.int .i64 v)=({h with st:=v}:HD).cells m:=by
 refine aAO _ _ m _ _ (by omega) ?_ (fun i hi hne=>?_)
 ·unfold HD.at_
  rfl
 ·unfold HD.at_
  repeat' split
  all_goals first|rfl|(exfalso;omega)
theorem aPK (h:HD)(v:Int):(h.cells 20).set 68 (.int .u64 v)=(setN h 1 v).cells 20:=by
 refine aAO _ _ 20 _ _ (by omega) rfl (fun i hi hne=>?_)
 unfold HD.at_
 simp only[setN]
 repeat' split
 all_goals first|rfl|(exfalso;omega)
attribute [local irreducible] Mk.cells HD.cells wpList Code.wp
theorem aDE (B g a cb:Nat)(S:Sl)(m:Mk)(w:World)(h:MkB w B g a cb S m):
 Calls Tryz.prog 26 #[.pointer (some ⟨g,0,none⟩)] w fun e w'=>e= .returned (.int .u64 (m.h.N 9))∧w=w':=by
 have c:=h.st.cell (Mk.get_Nk _ _ 9 128 (by decide) rfl)
 go_enter Tryz.func26,Tryz.ntmps26
 go_wp2
 go_ret
 exact⟨rfl,rfl⟩
def Mk.head (m:Mk)(st:Int):HD:=setN {m.h with st:=st} 1 ((m.b.length:Int)-272)
theorem aD5 (B g a cb:Nat)(S:Sl)(m:Mk)(st:Int)(w:World)(h:MkB w B g a cb S m)(Z:272≤m.b.length∧m.b.length≤1000000)(ok:(Mk.head m st).Ok 20)(V:m.depth≤1000000):
 Calls Tryz.prog 22 #[.pointer (some ⟨g,0,none⟩),.int .i64 st] w (Owned ((HD.plus (Mk.head m st) (m.depth:Int)).bytes 21++m.b.drop 272) m.b.length w):=by
 obtain⟨z,ab⟩:=Z
 have ac:=h.st.lt
 have HR:=yH (aJf h.st)
 have r:=(aBs h.own).1
 have t:=yH h
 generalize J:m.b.length=n at*
 have k:=yH J
 clear J
 have x:=yH fun(W:World) (hW:Below w.heap.size w W) (hR:Blk W w.heap.size ((Mk.head m st).cells 20) 123)=>show W.rangeAt w.heap.size 0 ((Mk.head m st).cells 20)∧W.cell? ⟨g,142,none⟩=some (.int .u64 (m.depth:Int))∧W.cell? ⟨g,143,none⟩=some (.slice (some ⟨a,0,none⟩) n cb)from
  ⟨fun j v hj=>by rw[Nat.zero_add];exact hR.cell hj,(MkB.below t.out hW).st.cell (Mk.get_depth _ _),k.out▸(MkB.below t.out hW).st.cell (Mk.get_b _ _)⟩
 have C:=yH fun(W:World) (hW:Below w.heap.size w W)=>show Bytes W (cutA (some ⟨a,0,none⟩) cb 272) (m.b.drop 272)from by
  have:=Bytes.cut (MkB.below t.out hW).own.bytes cb 272 (n-272) (by rw[k.out];exact r)
  rw[List.take_of_length_le (by rw[List.length_drop,k.out];exact yR _)]at this
  exact this
 have hcut: ∀W:World,(Instr.slice 26 (.slice (some ⟨a,0,none⟩) n cb) (some (.int .i64 272)) none none).run Tryz.prog W= .ok (.slice (cutA (some ⟨a,0,none⟩) cb 272) (n-272) (cb-272)) W:=fun W=>aJA (some ⟨a,0,none⟩) n cb 272 z W
 have X:=yH ((yB w.heap.size w).alloc (yR _) (.cells Tryz.zeroCells123 123))
 have G:=yH (heap_alloc_new w (.cells Tryz.zeroCells123 123))
 have B1:=yH (below_setRow X.out (yR _) (m.h.cells 20).toArray)
 have A:=yH (show Blk ((w.alloc (.cells Tryz.zeroCells123 123)).setRow w.heap.size (m.h.cells 20).toArray) w.heap.size (m.h.cells 20) 123 from setRow_heap _ w.heap.size _ _ 123 (0,0) G.out)
 clear h
 go_enter Tryz.func22,Tryz.ntmps22
 go_upto_region 2 with(first
  |((with_reducible apply aAb 9);refine wpList_load_mid rfl 123 (.tmp 8) rfl g 52 rfl (m.h.cells 20) _ HR.out Tryz.underlying123 rfl (aBu _) ?_)
  |((with_reducible apply aAa (.tmp 5) (.tmp 9));refine wpList_store_row rfl 123 (.tmp 5) (.tmp 9) rfl w.heap.size (m.h.cells 20).toArray rfl rfl 123 Tryz.zeroCells123 G.out (aAc _) aAk (HD.one _ 20) ?_)
  |fail)
 generalize (w.alloc (.cells Tryz.zeroCells123 123)).setRow w.heap.size (m.h.cells 20).toArray=w1 at*
 have r2:=A.out.cell (m.h.get 20 2 (by decide))
 have z2:=A.out.frozen 2
 have u:=yH (A.out.set_ 2 (.int .i64 st))
 have aa:=u.out.cell (i:=68) ((List.getElem?_set_ne (by decide)).trans (m.h.get_N 20 1 (by decide)))
 have Y:=u.out.frozen 68
 have N:=yH (B1.out.setCell (p:=⟨w.heap.size,2,none⟩) (yR _) (.int .i64 st))
 have I:(w1.setCell ⟨w.heap.size,2,none⟩ (.int .i64 st)).cell? ⟨g,143,none⟩=some (.slice (some ⟨a,0,none⟩) n cb):=k.out▸(MkB.below t.out N.out).st.cell (Mk.get_b _ _)
 go_upto_region 4 with fail
 have c:=u.out.set_ 68 (.int .u64 ((n:Int)-272))
 rw[aPJ,aPK]at c
 have s:=yH (N.out.setCell (p:=⟨w.heap.size,68,none⟩) (yR _) (.int .u64 ((n:Int)-272)))
 have c:=yH (show Blk _ w.heap.size ((Mk.head m st).cells 20) 123 from by unfold Mk.head;rw[k.out];exact c)
 generalize (w1.setCell ⟨w.heap.size,2,none⟩ (.int .i64 st)).setCell ⟨w.heap.size,68,none⟩ (.int .u64 ((n:Int)-272))=w3 at*
 have R:0≤(m.depth:Int)∧(m.depth:Int)≤18446744073709551615:=⟨by omega,by omega⟩
 refine wp_region_noPanic ?_
 refine wp_region_held_drew (S:=fun W:World=>W.rangeAt w.heap.size 0 ((Mk.head m st).cells 20)∧W.cell? ⟨g,142,none⟩=some (.int .u64 (m.depth:Int))∧W.cell? ⟨g,143,none⟩=some (.slice (some ⟨a,0,none⟩) n cb)) (by kernel_rfl) (by exact x.out _ s.out.drew c.out) (fun hHeld=>?_)
 refine tk (i:=0) (oi:=⟨some 21,_,_,_,_,_⟩) rfl (yieldsIf_load_mid (by rfl) _ _ rfl _ _ rfl _ _ (fun _ h=>h.1) Tryz.underlying123 rfl (aBu _)) ?_
 try simp only[Act.put,sA,sZ,sS]
 refine tq 1 22 rfl (fun W hSw=>by go_simp;try (with_reducible rfl)) ?_
 try simp only[Act.put,sA,sZ,sS]
 refine tq 2 23 rfl (fun W hSw=>by go_simp;try (with_reducible rfl)) ?_
 try simp only[Act.put,sA,sZ,sS]
 refine tq 3 24 rfl (fun W hSw=>by go_simp;try (with_reducible rfl)) ?_
 try simp only[Act.put,sA,sZ,sS]
 refine tq 4 25 rfl (fun W hSw=>by have y:=hSw.2.1;go_simp;try (with_reducible rfl)) ?_
 try simp only[Act.put,sA,sZ,sS]
 refine tq 6 27 rfl (fun W hSw=>by go_simp;try (with_reducible rfl)) ?_
 try simp only[Act.put,sA,sZ,sS]
 refine tq 7 28 rfl (fun W hSw=>by go_simp;try (with_reducible rfl)) ?_
 try simp only[Act.put,sA,sZ,sS]
 refine tq 8 29 rfl (fun W hSw=>by go_simp;try (with_reducible rfl)) ?_
 try simp only[Act.put,sA,sZ,sS]
 refine tq 9 30 rfl (fun W hSw=>by have y:=hSw.2.2;go_simp;try (with_reducible rfl)) ?_
 try simp only[Act.put,sA,sZ,sS]
 refine tq 10 31 rfl (fun W hSw=>by go_simp;try (with_reducible rfl)) ?_
 try simp only[Act.put,sA,sZ,sS]
 refine rd 5 rfl (fun K hK=>?_)
 go_simp
 (refine(aI8 (Mk.head m st) ok (m.depth:Int) R _).mono ?_);rintro e w4 ⟨A4,c4,rfl,q,f⟩;have D:=yH q;have F:=yH (s.out.trans (((yB w3.heap.size w3).drew.trans f).mono s.out.size));have M:=yH (c.out.below ((yB w3.heap.size w3).drew.trans f) c.out.lt);clear q f
 try go_wp2_with fail
 refine hK.out _ _ (by exact x.out _ F.out M.out) (fun hHeld=>?_)
 clear hK K
 try simp only[Act.put,sA,sZ,sS]
 refine rd 11 rfl (fun K hK=>?_)
 refine aAg (o:=⟨some 32,_,_,_,_,_⟩) rfl (.tmp 26) (.tmp 31) rfl w3.heap.size A4 272 c4 _ rfl D.out (cutA (some ⟨a,0,none⟩) cb 272) (n-272) (cb-272) (m.b.drop 272) rfl (C.out _ F.out) (by rw[List.length_drop,k.out]) (by omega) ?_
 intro A5 c5 w5 l d
 have E:=yH l
 have L:=yH (F.out.trans (d.mono s.out.size))
 have R5:=yH (M.out.below d c.out.lt)
 clear l d
 refine hK.out _ _ (by exact x.out _ L.out R5.out) (fun hHeld=>?_)
 clear hK K
 try simp only[Act.put,sA,sZ,sS]
 refine tq 12 4 rfl (fun W hSw=>by go_simp;try (with_reducible rfl)) ?_
 try simp only[Act.put,sA,sZ,sS]
 refine wpAnyH_done (by kernel_rfl) ?_ _
 refine NoPanic.normal ?_
 go_wp2
 go_ret
 have e9:272+(n-272)=n:=by omega
 have H:=E.out
 rw[e9]at H
 exact⟨A5,c5,rfl,Own.base H s.out.size,L.out⟩
end Mh
namespace Nd
open Bytes8 Blk8 Own8 OwnA OwnE Od Ga Ma Kf Mb Mc Md Mf Mg Fa Fb Dc Na Nc
structure Path (g:Nat)(p:Pl)(w:World)(p':Pl)(w':World):Prop where
 foot: ∀k,p'.foot g k→p.foot g k∨w.heap.size≤k
 kept:KeptF (p.foot g) w w'
theorem Path.refl (g:Nat)(p:Pl)(w:World):Path g p w p w:=⟨fun _ h=> .inl h,KeptF.refl _ _⟩
theorem Path.trans {g:Nat}{p a b:Pl}{w w1 w2:World}(h:Path g p w a w1)(k:Path g a w1 b w2):Path g p w b w2:=
 ⟨fun i hi=>(k.foot i hi).elim (h.foot i) (fun h1=> .inr (Nat.le_trans h.kept.size h1)),h.kept.trans k.kept fun i hi hF=>(h.foot i hF).elim id (fun h1=>absurd hi (by omega))⟩
theorem Path.below {g:Nat}{p a:Pl}{w w1 w2:World}(h:Path g p w a w1)(b:Below w1.heap.size w1 w2):Path g p w a w2:=⟨h.foot,h.kept.trans (KeptF.of_below (F:=None') b) fun _ _ h=>h.elim⟩
theorem Path.of_below {g:Nat}{p:Pl}{w w2:World}(a:Below w.heap.size w w2):Path g p w p w2:=(Path.refl g p w).below a
theorem Path.base {g B:Nat}{p p':Pl}{w w':World}(h:Path g p w p' w')(b:B≤w.heap.size)(a: ∀k,p.foot g k→B≤k):Below B w w':=h.kept.below b a
theorem Path.set {g:Nat}{p a:Pl}{w w1:World}(h:Path g p w a w1)(i:Nat)(v:Value):Path g p w a (w1.setCell ⟨g,i,none⟩ v):=⟨h.foot,h.kept.setCell (p:=⟨g,i,none⟩) (fun _=>Or.inl rfl) v⟩
theorem Path.drew {g:Nat}{p a:Pl}{w w1:World}(h:Path g p w a w1):Path g p w a w1.drew:=⟨h.foot,h.kept.drew⟩
theorem Path.put8 {g:Nat}{p:Pl}{w w1:World}(h:Put8 p.bb w w1):Path g p w p w1:=⟨fun _ h=> .inl h,h.kept.mono fun i hi=> .inr (.inl hi)⟩
variable {w w' : World} {B g : Nat} {p p' : Pl} {m m' : Mk}
theorem At.drew (h:At w B g p m):At w.drew B g p m:=h.below (yB _ _).drew
theorem At.cb (h:At w B g p m):w.cell? ⟨g,143,none⟩=some (.slice (some ⟨p.bb,0,none⟩) m.b.length p.cb):=h.st.st.cell (Mk.get_b _ _)
theorem At.cd (h:At w B g p m):w.cell? ⟨g,144,none⟩=some (.slice p.D p.nd p.cd):=h.st.st.cell (Mk.get_d _ _)
theorem At.cf (h:At w B g p m):w.cell? ⟨g,145,none⟩=some (.slice p.F p.nf p.cf):=h.st.st.cell (Mk.get_f _ _)
theorem At.cm (h:At w B g p m):w.cell? ⟨g,146,none⟩=some p.M:=h.st.st.cell (Mk.get_m _ _)
theorem At.cN (h:At w B g p m)(i k:Nat)(b:i<20)(a:k=119+i):w.cell? ⟨g,k,none⟩=some (.int .u64 (m.h.N i)):=h.st.st.cell (Mk.get_Nk _ _ i k b a)
theorem At.fz (h:At w B g p m)(i:Nat):w.frozen? ⟨g,i,none⟩=false:=h.st.st.frozen i
theorem At.struct {S':Nat}{v:Value}(h:At w B g p m)(i:Nat)(v:Value)(st:MkB (w.setCell ⟨g,i,none⟩ v) B g p.bb p.cb p.S m')(a:m.datas=m'.datas)(c:m.fields=m'.fields)(b:m.main=m'.main):At (w.setCell ⟨g,i,none⟩ v) B g p m':=
 h.turn ((KeptF.refl _ w).setCell (p:=⟨g,i,none⟩) (fun _=>Or.inl rfl) v) (fun _ h=> .inl h) st
  (OwnE.keptF h.dr (KeptF.set1 w g i v) fun j hj e=>(h.dg j hj).1 e) (OwnE.keptF h.fr (KeptF.set1 w g i v) fun j hj e=>(h.fg j hj).1 e)
  (h.dm.trans a) (h.fm.trans c) (fun q hq=> .inl hq) (.inl ⟨rfl,b.symm⟩) h.dg h.fg h.df (fun q hq=> .inl hq)
theorem At.setN (h:At w B g p m)(i k:Nat)(b:i<20)(a:k=119+i)(v:Int):At (w.setCell ⟨g,k,none⟩ (.int .u64 v)) B g p {m with h:=Ma.setN m.h i v}:=
 At.struct (S':=0) (v:= .bool true) h k _ (MkB.setN h.st i k b a v) rfl rfl rfl
theorem At.same (h:At w B g p m)(e:m.C=m'.C)(c:m.h=m'.h)(j:m.depth=m'.depth)(d:m.b=m'.b)(i:m.datas=m'.datas)(a:m.fields=m'.fields)(f:m.main=m'.main):At w B g p m':=
 {st:=MkB.same h.st e c j d,dr:=h.dr,fr:=h.fr,dm:=h.dm.trans i,fm:=h.fm.trans a,da:=h.da,ma:=f▸h.ma,dg:=h.dg,fg:=h.fg,df:=h.df,gB:=h.gB,fo:=h.fo}
theorem At.put8 (h:At w B g p m){l:List Int}(d:l.length=m.b.length)(c:Own w' B (some ⟨p.bb,0,none⟩) m.b.length p.cb l)(a:Put8 p.bb w w'):At w' B g p {m with b:=l}:=
 h.turn (a.kept.mono fun i hi=> .inr (.inl hi)) (fun _ h=> .inl h) (h.st.put d c a) (OwnE.keptF h.dr a.kept fun j hj e=>(h.dg j hj).2 e) (OwnE.keptF h.fr a.kept fun j hj e=>(h.fg j hj).2 e) h.dm h.fm (fun q hq=> .inl hq) (.inl ⟨rfl,rfl⟩) h.dg h.fg h.df (fun q hq=> .inl hq)
theorem aAW (a:Nat)(z:Int)(f:z=(a:Int))(v:Int)(w:World)(h:At w B g p m)(c:a+8≤m.b.length)(d:m.b.length≤4000000):
 Calls Tryz.prog 72 #[.pointer (some ⟨g,0,none⟩),.int .u64 z,.int .u64 v] w fun e w'=>e= .returned (.tuple #[])∧At w' B g p {m with b:=Ma.put8 m.b a v}∧Path g p w p w':=
 (aF1 g p.bb p.cb m.b.length a z f _ _ m.b v B w h.st.st (Mk.get_b _ _) h.st.own h.st.ne c d).mono fun e w' ⟨h1,h2,h3⟩=>⟨h1,At.put8 h (aAp _ _ _ c) h2 h3,Path.put8 h3⟩
def Moved (B g:Nat)(p:Pl)(m:Mk)(w w':World):Prop:= ∃bb' cb',At w' B g {p with bb:=bb',cb:=cb'} m∧Path g p w {p with bb:=bb',cb:=cb'} w'
theorem aCc (n:Option Addr)(k o:Nat)(l:List Int)(w:World)(h:At w B g p m)(s:Bytes w n l)(c:l.length=k)(r:0<m.b.length)(u:m.b.length+k≤4000000)(v:0≤m.h.N 7∧m.h.N 7≤1000000):
 Calls Tryz.prog 68 #[.pointer (some ⟨g,0,none⟩),.slice n k o] w fun e w'=>e= .returned (.int .u64 (m.b.length:Nat))∧Moved B g p (m.object l) w w':=
 (aEJ B g p.bb p.cb p.S m n k o l w h.st s c r u v h.gB).mono fun e w' ⟨h1,b',c',h2,a,h4⟩=>by
   have f:KeptF (p.foot g) w w':=h4.mono fun i hi=>hi.elim Or.inl (fun e=> .inr (.inl e))
   have d: ∀k,Pl.foot {p with bb:=b',cb:=c'} g k→p.foot g k∨w.heap.size≤k:=by
    rintro k (e|e|e|e)
    ·exact .inl (.inl e)
    ·rcases a with a|a
     ·exact .inl (.inr (.inl (e.trans a)))
     ·exact .inr (by rw[show k=b' from e];exact a)
    ·exact .inl (.inr (.inr (.inl e)))
    ·exact .inl (.inr (.inr (.inr e)))
   have t: ∀k,ownB p.D=some k→k≠b':=fun k c e=>by
    rcases a with a|a
    ·exact(h.dg k c).2 (e.trans a)
    ·have:=(OwnE.ltB h.dr k c).2;omega
   have x: ∀k,ownB p.F=some k→k≠b':=fun k c e=>by
    rcases a with a|a
    ·exact(h.fg k c).2 (e.trans a)
    ·have:=(OwnE.ltB h.fr k c).2;omega
   exact⟨h1,b',c',h.turn f d h2 (OwnE.keptF h.dr h4 fun j hj e=>e.elim (h.dg j hj).1 (h.dg j hj).2) (OwnE.keptF h.fr h4 fun j hj e=>e.elim (h.fg j hj).1 (h.fg j hj).2) h.dm h.fm (fun q hq=> .inl hq) (.inl ⟨rfl,rfl⟩) (fun k c=>⟨(h.dg k c).1,t k c⟩) (fun k c=>⟨(h.fg k c).1,x k c⟩) h.df (fun q hq=> .inl hq),d,f⟩
def Stp (B g:Nat)(p:Pl)(m:Mk)(w w':World):Prop:= ∃p',At w' B g p' m∧Path g p w p' w'
def StpD (B g:Nat)(p:Pl)(m:Mk)(w w':World):Prop:= ∃p',At w' B g p' m∧Path g p w p' w'∧(∀x∈p'.dl,x∈p.dl∨(x.2= .slice none 0 0∧x.1.arrays=[]))∧p'.M=p.M
theorem aF8 {l:List (Kn×Value)}{a:List Kn}(e:l.map Prod.fst=a)(s:List Int):findK a s=(Mg.look l s).map Prod.fst:=by
 subst e
 unfold findK Mg.look
 rw[List.find?_map]
 rfl
theorem aJg (s:List Int)(w:World)(h:At w B g p m)(I:Inv m)(hs:AllB s)(H:s.length≤64)(L:m.b.length≤90000):
 Calls Tryz.prog 111 #[.pointer (some ⟨g,0,none⟩),.string (T s)] w fun e w'=>e= .returned (.int .u64 ((Mk.fieldOf m s).1:Nat))∧ ∃p',At w' B g p' (Mk.fieldOf m s).2∧Path g p w p' w'∧p'.dl=p.dl∧p'.M=p.M:=by
 have z:p.nf≤100000:=by
  have N:=aAy h.fr
  have G:=congrArg List.length h.fm
  rw[List.length_map]at G
  have:=I.fn
  omega
 have D:=I.len
 have r: ∀q∈p.fl,q.1∈m.fields:=fun q hq=>by rw[←h.fm];exact List.mem_map.2 ⟨q,hq,rfl⟩
 refine(aKq B g p.bb p.cb p.nf p.cf (Mk.tf m) p.S p.F p.fl m s w ⟨h.st,rfl,h.fr,h.fg,fun q hq=>(I.fld _ (r q hq)).2⟩ hs z I.F (by omega) ⟨by omega,by omega⟩ (by have:=I.n7;omega) h.gB (by have:=I.n16;omega) I.fs I.n4 (by unfold Mk.tf;omega) (fun q hq=>by have:=(I.fld _ (r q hq)).1;omega)).mono ?_
 rintro e w' (⟨k,f,rfl,rfl⟩|⟨y,rfl,d,n,x,t,C,l,u,E⟩)
 ·have e:=aF8 h.fm s
  rw[f]at e
  unfold Mk.fieldOf
  rw[e]
  exact⟨rfl,p,h,Path.refl _ _ _,rfl,rfl⟩
 ·have e:=aF8 h.fm s
  rw[y]at e
  unfold Mk.fieldOf
  rw[e]
  have v:KeptF (p.foot g) w w':=E.mono fun i hi=>hi.elim Or.inl (fun e=>e.elim (fun e=> .inr (.inl e)) (fun e=> .inr (.inr (.inr e))))
  have c: ∀k,Pl.foot {p with bb:=d,cb:=n,F:=x,nf:=p.nf+1,cf:=t,fl:=p.fl++ [(⟨s,m.b.length,Mk.fslot m s,0,[]⟩,.slice none 0 0)]} g k→p.foot g k∨w.heap.size≤k:=by
   rintro k (e|e|e|e)
   ·exact .inl (.inl e)
   ·rcases l with a|a
    ·exact .inl (.inr (.inl (e.trans a)))
    ·exact .inr (by rw[show k=d from e];exact a)
   ·exact .inl (.inr (.inr (.inl e)))
   ·rcases u with a|⟨j,a,J⟩
    ·exact .inl (.inr (.inr (.inr (a▸e))))
    ·have e:ownB x=some k:=e
     rw[a]at e
     injection e with e
     exact .inr (by omega)
  refine⟨rfl,{p with bb:=d,cb:=n,F:=x,nf:=p.nf+1,cf:=t,fl:=p.fl++ [(⟨s,m.b.length,Mk.fslot m s,0,[]⟩,.slice none 0 0)]},?_,⟨c,v⟩,rfl,rfl⟩
  have o:=C.st
  rw[h.fm]at o
  refine h.turn v c o (OwnE.keptF h.dr E ?_) C.row h.dm ?_ (fun q hq=> .inl hq) (.inl ⟨rfl,rfl⟩) ?_ C.off ?_ (fun q hq=>(List.mem_append.1 hq).elim Or.inl (fun h=> .inr (by rw[List.mem_singleton.1 h])))
  ·rintro j A (e|e|e)
   ·exact(h.dg j A).1 e
   ·exact(h.dg j A).2 e
   ·exact h.df j A e
  ·show(p.fl++_).map Prod.fst=m.fields++_
   rw[List.map_append,h.fm]
   rfl
  ·intro k f
   refine⟨(h.dg k f).1,fun e=>?_⟩
   rcases l with a|a
   ·exact(h.dg k f).2 (e.trans a)
   ·have:=(OwnE.ltB h.dr k f).2
    have e:k=d:=e
    omega
  ·intro k f e
   rcases u with a|⟨j,a,J⟩
   ·exact h.df k f (a▸e)
   ·have e:ownB x=some k:=e
    rw[a]at e
    injection e with e
    have:=(OwnE.ltB h.dr k f).2
    omega
theorem aCz (h:At w B g p m){o:Obj}{w9:World}(a:(w.alloc o).grownBy w9 (ownB p.D)):Blk w9 g (Mk.cells m {p.S with b:= .slice (some ⟨p.bb,0,none⟩) m.b.length p.cb}) 126:=
 (MkB.grown (At.below h ((yB _ _).alloc (yR _) o)).st a (fun e=>(h.dg _ e).1 rfl) (fun e=>(h.dg _ e).2 rfl)).st
theorem At.pushD {n:Nat}(h:At w B g p m)(w9:World)(o:Obj)(k:Kn)(x:Value)(f:Option Addr)(i:Nat)(L:n=p.nd+1)(J:OwnE 142 5 w9 B f n i (kf p.dl++knC k x))(r:(w.alloc o).grownBy w9 (ownB p.D))(s:ownB f=ownB p.D∨ownB f=some (w.alloc o).heap.size)(E:Arr w (p.away B g) x k.arrays):
 At (w9.setCell ⟨g,144,none⟩ (.slice f n i)) B g {p with D:=f,nd:=n,cd:=i,dl:=p.dl++ [(k,x)]} {m with datas:=m.datas++ [k]}∧Path g p w {p with D:=f,nd:=n,cd:=i,dl:=p.dl++ [(k,x)]} (w9.setCell ⟨g,144,none⟩ (.slice f n i)):=by
 subst L
 have z:Below w.heap.size w (w.alloc o):=(yB _ _).alloc (yR _) o
 have H:=At.below h z
 have M:(w.alloc o).heap.size=w.heap.size+1:=by simp
 have G:KeptF (p.foot g) w w9:=(KeptF.of_below (F:=p.foot g) z).grown r (fun k E _=> .inr (.inr (.inl E)))
 have t:=G.setCell (p:=⟨g,144,none⟩) (fun _=>Or.inl rfl) (.slice f (p.nd+1) i)
 have c: ∀A,Pl.foot {p with D:=f,nd:=p.nd+1,cd:=i,dl:=p.dl++ [(k,x)]} g A→p.foot g A∨w.heap.size≤A:=by
  rintro A (e|e|e|e)
  ·exact .inl (.inl e)
  ·exact .inl (.inr (.inl e))
  ·have e:ownB f=some A:=e
   rcases s with C|C
   ·exact .inl (.inr (.inr (.inl (C▸e))))
   ·rw[C]at e
    injection e with e
    exact .inr (by omega)
  ·exact .inl (.inr (.inr (.inr e)))
 have N:=h.st.st.lt
 have I:=(aEI h.st.own).2
 have y: ∀j,ownB f=some j→j≠g∧j≠p.bb:=fun j a=>by
  rcases s with v|v
  ·exact h.dg j (v▸a)
  ·rw[v]at a
   injection a with a
   omega
 have l:MkB w9 B g p.bb p.cb p.S m:=MkB.grown H.st r (fun e=>(h.dg _ e).1 rfl) (fun e=>(h.dg _ e).2 rfl)
 refine⟨?_,c,t⟩
 refine h.turn t c ?_ ?_ ?_ ?_ h.fm ?_ (.inl ⟨rfl,rfl⟩) y h.fg ?_ (fun q u=> .inl u)
 ·have:=l.st.set_ 144 (.slice f (p.nd+1) i)
  rw[Mk.set_d]at this
  have e:=MkB.same (B:=B) (cb:=p.cb) (m:=m) (m':={m with datas:=m.datas++ [k]}) (S:={p.S with d:= .slice f (p.nd+1) i}) ⟨this,aBD l.own l.ne _ _,l.ne⟩ rfl rfl rfl rfl
  exact e
 ·unfold OwnK
  rw[aKo]
  exact Mf.OwnE.keptF J (KeptF.set1 w9 g 144 _) (fun j a e=>(y j a).1 e)
 ·refine Mf.OwnE.keptF (OwnE.keptG H.fr r fun j a e=>h.df j e a) (KeptF.set1 w9 g 144 _) (fun j a e=>(h.fg j a).1 e)
 ·show(p.dl++_).map Prod.fst=m.datas++_
  rw[List.map_append,h.dm]
  rfl
 ·intro q u
  rcases List.mem_append.1 u with u|u
  ·exact .inl u
  ·rw[List.mem_singleton.1 u]
   right
   exact E.kept t (fun _ _ h h2=>h (.inl h2)) fun b hb hf h2=>h2.elim (fun h2=>(c b h2).elim (fun h=>hf (.inl h)) (fun C=>absurd hb (by omega))) (fun h=>hf (.inr h))
 ·intro j a e
  rcases s with v|v
  ·exact h.df j (v▸a) e
  ·have a:ownB f=some j:=a
   rw[v]at a
   injection a with a
   have:=(OwnE.ltB h.fr j e).2
   omega
theorem At.allF {n:Nat}(h:At w B g p m)(D:ownB p.F=none)(w9:World)(fl:List (Kn×Value))(fs:List Kn)(a:Option Addr)(i:Nat)(A:OwnE 142 5 w9 B a n i (kf fl))(l:w.grownBy w9 none)(u:ownB a=none∨ownB a=some w.heap.size)(y:fl.map Prod.fst=fs)(z: ∀q∈fl,q.2= .slice none 0 0):
 At (w9.setCell ⟨g,145,none⟩ (.slice a n i)) B g {p with F:=a,nf:=n,cf:=i,fl:=fl} {m with fields:=fs}∧Path g p w {p with F:=a,nf:=n,cf:=i,fl:=fl} (w9.setCell ⟨g,145,none⟩ (.slice a n i)):=by
 have v:KeptF (p.foot g) w w9:=(KeptF.refl (p.foot g) w).grown l (fun k r _=>by cases r)
 have o:=v.setCell (p:=⟨g,145,none⟩) (fun _=>Or.inl rfl) (.slice a n i)
 have E:=h.st.st.lt
 have t:=(aEI h.st.own).2
 have c: ∀j,ownB a=some j→w.heap.size≤j:=fun j hj=>by
  rcases u with x|x
  ·rw[x]at hj;cases hj
  ·rw[x]at hj
   injection hj with hj
   omega
 have b: ∀s,Pl.foot {p with F:=a,nf:=n,cf:=i,fl:=fl} g s→p.foot g s∨w.heap.size≤s:=by
  rintro s (e|e|e|e)
  ·exact .inl (.inl e)
  ·exact .inl (.inr (.inl e))
  ·exact .inl (.inr (.inr (.inl e)))
  ·exact .inr (c s e)
 have d:MkB w9 B g p.bb p.cb p.S m:=MkB.grown h.st l (fun e=>by cases e) (fun e=>by cases e)
 refine⟨?_,b,o⟩
 refine h.turn o b ?_ ?_ ?_ h.dm y (fun q hq=> .inl hq) (.inl ⟨rfl,rfl⟩) h.dg ?_ ?_ (fun q hq=> .inr (z q hq))
 ·have:=d.st.set_ 145 (.slice a n i)
  rw[Mk.set_f]at this
  have e:=MkB.same (B:=B) (cb:=p.cb) (m:=m) (m':={m with fields:=fs}) (S:={p.S with f:= .slice a n i}) ⟨this,aBD d.own d.ne _ _,d.ne⟩ rfl rfl rfl rfl
  exact e
 ·exact Mf.OwnE.keptF (OwnE.keptG h.dr l fun j hj e=>by cases e) (KeptF.set1 w9 g 145 _) (fun j hj e=>(h.dg j hj).1 e)
 ·exact Mf.OwnE.keptF A (KeptF.set1 w9 g 145 _) (fun j hj e=>by have:=c j hj;have e:j=g:=e;omega)
 ·intro k r
  have:=c k r
  have C:p.bb<w.heap.size:=t
  exact⟨by omega,by show k≠p.bb;omega⟩
 ·intro k r e
  have:=c k e
  have:=(OwnE.ltB h.dr k r).2
  omega
end Nd
end Go.Proofs.YteaikbodkgjkdaaGreat
