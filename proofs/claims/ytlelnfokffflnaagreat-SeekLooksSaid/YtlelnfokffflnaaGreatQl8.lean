/-
  Texts beneath the proof.
-/
import Derived.StillTailTactics
import Derived.Test.YtlelnfokffflnaaGreatQl6
set_option linter.unusedVariables false
set_option linter.unusedSimpArgs false
set_option maxRecDepth 100000
set_option maxHeartbeats 4000000
open Go.ChangeShapes Go.WideShapes Go.ChangeAt Go.RowKit
namespace Go.Proofs.YtlelnfokffflnaaGreat
namespace Ok7
open Bytes8 Blk8 Own8 OwnM OwnE Ob Oc Od Oi Oj
theorem number_any (A:Option Addr)(l:List Int)(n b i:Nat)(w:World)(d:Bytes w A l)(c:l.length=n)(f:n≤1000000)(j:8*i+8≤n):
 Calls Tryz.prog 241 #[.slice A n b,.int .i64 (i:Int)] w fun e w'=>e= .returned (.int .u64 (u8 l (8*i)))∧w=w':=by
 have g:=yH fun(z:Int) (hz:z=((8*i:Nat):Int))=>get8 A l n b (8*i) z w hz c f d (by omega)
 generalize u8 l (8*i)=x at*
 clear d c
 go_enter Tryz.func241,Tryz.ntmps241
 go_wp2_with(go_at_call 55;(with_reducible refine(g.out _ (by omega)).mono ?_);rintro e w' ⟨rfl,rfl⟩)
 go_ret
 exact⟨rfl,rfl⟩
theorem aAx {w:World}{A:Option Addr}{l:List Int}{g:Nat}(h:Bytes w A l)(k: ∀b c,A=some ⟨b,c,none⟩→b≠g)(i:Nat)(v:Value):Bytes (w.setCell ⟨g,i,none⟩ v) A l:=by
 refine⟨h.1,fun j hj=>?_⟩
 obtain⟨b,c,e,f,d⟩:=h.2 j hj
 refine⟨b,c,e,by simpa using f,?_⟩
 rw[World.cell?_of_block (Below.heap_setCell w ⟨g,i,none⟩ v b (k b c e))]
 exact d
def Cap (B:Nat)(A:Option Addr)(m c:Nat):Prop:=m≤1000000∧m≤c∧c≤maxLen∧ ∀b off,A=some ⟨b,off,none⟩→B≤b
theorem Cap.mono {B C:Nat}{A:Option Addr}{m c:Nat}(h:Cap B A m c)(d:C≤B):Cap C A m c:=⟨h.1,h.2.1,h.2.2.1,fun b off e=>Nat.le_trans d (h.2.2.2 b off e)⟩
theorem aG0 (A:Option Addr)(l:List Int)(len k:Nat)(w:World)(p:Bytes w A l)(o:l.length=len)(j:len≤1000000):
 Calls Tryz.prog 58 #[.slice A len k] w fun e w'=> ∃i q,e= .returned (.slice i len q)∧Bytes w' i l∧Below w.heap.size w w'∧Cap w.heap.size i len q:=by
 have s: ∀(w:World) (a:Option Addr) (n c n' c':Nat),(binOp .eql 24 (.slice a n c) (.slice none n' c')).run Tryz.prog w= .ok (.bool a.isNone) w:=fun w a n c n' c'=>Lib.run_eql_slice_nil w _ _ a n c n' c' Tryz.underlying24
 cases A with
 |none=>
  have y:l=[]:=by
   rcases l with _|⟨x,r⟩
   ·rfl
   ·obtain⟨b,m,e,_⟩:=p.2 0 (by simp)
    cases e
  subst y
  obtain rfl:len=0:=by simpa using o.symm
  clear p o
  go_enter Tryz.func58,Tryz.ntmps58
  go_wp2
  go_ret
  exact⟨none,0,rfl,Bytes.nil _ _,Below.refl _ _,by decide,by decide,by decide,fun b m h=>by cases h⟩
 |some a=>
  have u:=yH (p.below ((Below.refl w.heap.size w).alloc (yR _) (.cells #[] 5)) (yR _))
  have t:=yH o
  clear p o
  go_enter Tryz.func58,Tryz.ntmps58
  go_wp2_with(at_builtin;refine aAd rfl (.tmp 5) (.tmp 6) rfl w.heap.size _ 0 0 [] rfl (Own.made w _ (yR _)) (some a) len k l rfl u.out t.out (by omega) ?_;intro i q w2 g f;rw[Nat.zero_add,List.nil_append]at g;rw[Nat.zero_add];have d:=yH g;clear g)
  go_ret
  refine⟨i,q,rfl,d.out.bytes,((Below.refl _ _).alloc (yR _) _).trans f,j,(aBs d.out).1,(aBs d.out).2,fun b m h=>?_⟩
  subst h
  exact(d.out.lt b rfl).1
def DataTold2 (l:List Int)(a:Nat)(w:World)(e:Ending)(w':World):Prop:=
 ∃A m c,e= .returned (.tuple #[dataV (bnum l a 1 6 0) (bnum l a 1 6 1) (bnum l a 1 6 2) (bnum l a 1 6 3) (bnum l a 1 6 4) (bnum l a 1 6 5) A m c,.int .i64 (bcode l a 1 6)])∧Below w.heap.size w w'∧Bytes w' A (bpay l a 1 6)∧(bpay l a 1 6).length=m∧Cap w.heap.size A m c
theorem aJY (A:Option Addr)(l:List Int)(n u a:Nat)(w:World)(hb:Bytes w A l)(hL:l.length=n)(hn:n≤1000000)(hc:n≤u)(aj:u≤maxLen)(ha:a≤18446744073709551615):
 Calls Tryz.prog 237 #[.slice A n u,.int .u64 (a:Int)] w (DataTold2 l a w):=by
 have b0:=yH ((Below.refl w.heap.size w).alloc (yR _) (.cells #[.int .u64 0,.int .u64 0,.int .u64 0,.int .u64 0,.int .u64 0,.int .u64 0,.slice none 0 0] 283))
 have R0:=yH (Blk.new w [.int .u64 0,.int .u64 0,.int .u64 0,.int .u64 0,.int .u64 0,.int .u64 0,.slice none 0 0] 283)
 have y:=yH (aL1 A l n u a 6 1 6 (w.alloc (.cells #[.int .u64 0,.int .u64 0,.int .u64 0,.int .u64 0,.int .u64 0,.int .u64 0,.slice none 0 0] 283)) (hb.below b0.out (yR _)) hL hn hc aj ha (by decide) rfl)
 unfold Bodied at y
 have D: ∀i,bnum l a 1 6 i=if bcode l a 1 6=0 then u8 (bodyL l a) (8*i)else 0:=fun i=>rfl
 have p:bpay l a 1 6=if bcode l a 1 6=0 then(bodyL l a).drop (8*6)else []:=rfl
 unfold DataTold2
 by_cases h1:bcode l a 1 6≠0
 ·rw[if_neg h1]at p
  have f: ∀i,bnum l a 1 6 i=0:=fun i=>(D i).trans (if_neg h1)
  rw[p,f 0,f 1,f 2,f 3,f 4,f 5]
  clear p D f hb hL
  generalize bcode l a 1 6=cd at*
  generalize bodyL l a=bd at*
  go_enter Tryz.func237,Tryz.ntmps237
  go_wp2_with(go_at_call 240;(with_reducible refine y.out.mono ?_);rintro e w2 ⟨B,m,cb,rfl,d,_⟩;have c:=yH (R0.out.below d R0.out.lt);have Y:=c.out.cell (i:=0) rfl;have ae:=c.out.cell (i:=1) rfl;have V:=c.out.cell (i:=2) rfl;have R:=c.out.cell (i:=3) rfl;have L:=c.out.cell (i:=4) rfl;have J:=c.out.cell (i:=5) rfl;have M:=c.out.cell (i:=6) rfl;have ag:=c.out.frozen 0;have aa:=c.out.frozen 1;have ab:=c.out.frozen 2;have ad:=c.out.frozen 3;have ac:=c.out.frozen 4;have I:=c.out.frozen 5;have N:=c.out.frozen 6;have s:=yH (b0.out.trans (d.mono b0.out.size));clear d)
  refine bodyPost_ret (v:= .tuple #[dataV 0 0 0 0 0 0 none 0 0,.int .i64 cd]) (by simp[results_cell_tmp Tryz.results237,go_sem,Y,ag,ae,aa,V,ab,R,ad,L,ac,J,I,M,N,Result.andThen]) rfl ⟨none,0,0,rfl,?_,Bytes.nil _ _,rfl,by decide,by decide,by decide,fun b off h=>by cases h⟩
  (repeat (first|(with_reducible exact s.out)|refine Below.setCell ?_ (by simp) _|refine Below.alloc ?_ (by simp) _|refine Below.drew ?_|refine below_drewN ?_ _))
 ·have h0:bcode l a 1 6=0:=by omega
  rw[if_pos h0]at p
  have f: ∀i,bnum l a 1 6 i=u8 (bodyL l a) (8*i):=fun i=>(D i).trans (if_pos h0)
  rw[h0]at y⊢
  rw[p]
  have o:=yH fun(i:Nat) (z:Int) (B:Option Addr) (m cb:Nat) (W:World) (hB:Bytes W B (bodyL l a)) (hm:(bodyL l a).length=m) (hm2:m≤1000000) (hz:z=(i:Int)) (hi:8*i+8≤m)=>hz▸(f i).symm▸number_any B (bodyL l a) m cb i W hB hm hm2 hi
  have an:=yH fun(m:Nat) (hm:(bodyL l a).length=m)=>show((bodyL l a).drop (8*6)).length=m-48 by rw[List.length_drop,hm]
  clear p D f hb hL h1 h0
  go_enter Tryz.func237,Tryz.ntmps237
  go_upto_region 4 with(go_at_call 240;(with_reducible refine y.out.mono ?_);rintro e w2 ⟨B,m,cb,rfl,d,Z⟩)
  have c:=yH (R0.out.below d R0.out.lt)
  have Y:=c.out.cell (i:=0) rfl
  have ae:=c.out.cell (i:=1) rfl
  have V:=c.out.cell (i:=2) rfl
  have R:=c.out.cell (i:=3) rfl
  have L:=c.out.cell (i:=4) rfl
  have J:=c.out.cell (i:=5) rfl
  have M:=c.out.cell (i:=6) rfl
  have ag:=c.out.frozen 0
  have aa:=c.out.frozen 1
  have ab:=c.out.frozen 2
  have ad:=c.out.frozen 3
  have ac:=c.out.frozen 4
  have I:=c.out.frozen 5
  have N:=c.out.frozen 6
  have s:=yH (b0.out.trans (d.mono b0.out.size))
  obtain⟨d1,d2,d3,d4,d5,d6⟩:=Z (by first|rfl|trivial)
  have F:=yH d1
  have t:=yH d2
  clear d1 d2 d Z
  have aE:48<m:=by omega
  have aC:48≤m:=by omega
  have hcut: ∀W:World,(Instr.slice 24 (.slice B m cb) (some (.int .i64 48)) none none).run Tryz.prog W= .ok (.slice (cutA B cb 48) (m-48) (cb-48)) W:=fun W:World=>aJC B m cb 48 (by omega) W
  have HC:=yH (Bytes.cut F.out cb 48 (m-48) (by rw[t.out];omega))
  rw[List.take_of_length_le (Nat.le_of_eq (by rw[List.length_drop,t.out]))]at HC
  generalize cutA B cb 48=C at*
  go_region_held3 (fun w'=>True) (first|(with_reducible exact trivial)) (first
   |(go_at_call 241;(first|(with_reducible refine(o.out 0 0 _ _ _ _ F.out.drew t.out (by omega) rfl (by omega)).mono ?_)|(with_reducible refine(o.out 1 1 _ _ _ _ F.out.drew t.out (by omega) rfl (by omega)).mono ?_)|(with_reducible refine(o.out 2 2 _ _ _ _ F.out.drew t.out (by omega) rfl (by omega)).mono ?_)|(with_reducible refine(o.out 3 3 _ _ _ _ F.out.drew t.out (by omega) rfl (by omega)).mono ?_)|(with_reducible refine(o.out 4 4 _ _ _ _ F.out.drew t.out (by omega) rfl (by omega)).mono ?_)|(with_reducible refine(o.out 5 5 _ _ _ _ F.out.drew t.out (by omega) rfl (by omega)).mono ?_));rintro e w' ⟨rfl,rfl⟩)
   |(go_at_call 58;(with_reducible refine(aG0 C _ (m-48) (cb-48) _ HC.out.drew (by rw[List.length_drop,t.out]) (by omega)).mono ?_);rintro e w3 ⟨H,c3,rfl,X,g,q⟩;have ah:=q.2.2.2;have af:=yH (q.mono s.out.size);have al:=yH X;have k:=yH (show ∀b off,H=some ⟨b,off,none⟩→b≠w.heap.size from fun b off e hh=>by have h1:=ah b off e;have h2:=c.out.lt;have h3:w2.drew.heap.size=w2.heap.size:=rfl;omega);have E:=yH (s.out.drew.trans (g.mono s.out.size));have j:=yH (c.out.drew.below g c.out.lt);have aB:=j.out.cell (i:=0) rfl;have ay:=j.out.cell (i:=1) rfl;have au:=j.out.cell (i:=2) rfl;have am:=j.out.cell (i:=3) rfl;have av:=j.out.cell (i:=4) rfl;have ar:=j.out.cell (i:=5) rfl;have aA:=j.out.cell (i:=6) rfl;have aw:=j.out.frozen 0;have ax:=j.out.frozen 1;have az:=j.out.frozen 2;have ao:=j.out.frozen 3;have aq:=j.out.frozen 4;have ap:=j.out.frozen 5;have aD:=j.out.frozen 6;clear q X g))
  obtain⟨W4,r⟩: ∃x,x=(((((((w3.setCell ⟨w.heap.size,0,none⟩ (.int .u64 (bnum l a 1 6 0))).setCell ⟨w.heap.size,1,none⟩ (.int .u64 (bnum l a 1 6 1))).setCell ⟨w.heap.size,2,none⟩ (.int .u64 (bnum l a 1 6 2))).setCell ⟨w.heap.size,3,none⟩ (.int .u64 (bnum l a 1 6 3))).setCell ⟨w.heap.size,4,none⟩ (.int .u64 (bnum l a 1 6 4))).setCell ⟨w.heap.size,5,none⟩ (.int .u64 (bnum l a 1 6 5))).setCell ⟨w.heap.size,6,none⟩ (.slice H (m-48) c3)):=⟨_,rfl⟩
  have G:Hid (Blk W4 w.heap.size [.int .u64 (bnum l a 1 6 0),.int .u64 (bnum l a 1 6 1),.int .u64 (bnum l a 1 6 2),.int .u64 (bnum l a 1 6 3),.int .u64 (bnum l a 1 6 4),.int .u64 (bnum l a 1 6 5),.slice H (m-48) c3] 283):=yH (r▸(((((((j.out.set_ 0 _).set_ 1 _).set_ 2 _).set_ 3 _).set_ 4 _).set_ 5 _).set_ 6 _))
  have ak:Hid (Below w.heap.size w W4):=yH (r▸(Below.setCell (Below.setCell (Below.setCell (Below.setCell (Below.setCell (Below.setCell (Below.setCell E.out (yR _) _) (yR _) _) (yR _) _) (yR _) _) (yR _) _) (yR _) _) (yR _) _))
  have ai:Hid (Bytes W4 H _):=yH (r▸(aAx (aAx (aAx (aAx (aAx (aAx (aAx al.out k.out _ _) k.out _ _) k.out _ _) k.out _ _) k.out _ _) k.out _ _) k.out _ _))
  rw[←r]
  have e0:=G.out.cell (i:=0) rfl;have e1:=G.out.cell (i:=1) rfl;have e2:=G.out.cell (i:=2) rfl;have e3:=G.out.cell (i:=3) rfl;have e4:=G.out.cell (i:=4) rfl;have e5:=G.out.cell (i:=5) rfl;have e6:=G.out.cell (i:=6) rfl
  clear r
  go_wp2
  refine bodyPost_ret (v:= .tuple #[dataV (bnum l a 1 6 0) (bnum l a 1 6 1) (bnum l a 1 6 2) (bnum l a 1 6 3) (bnum l a 1 6 4) (bnum l a 1 6 5) H (m-48) c3,.int .i64 0]) (by simp[results_cell_tmp Tryz.results237,go_sem,e0,e1,e2,e3,e4,e5,e6,Result.andThen]) rfl ⟨H,m-48,c3,rfl,ak.out,ai.out,by rw[List.length_drop,t.out],af.out⟩
end Ok7
namespace Ol7
open Bytes8 Blk8 Own8 OwnE Ob Oc Od Oi Oj Ok7
theorem aG1 {B:Option Addr}{cb g base:Nat}(h: ∀x,B=some x→base≤x.block∧x.spot=none){b c:Nat}(e:cutA B cb g=some ⟨b,c,none⟩):base≤b:=by
 unfold cutA at e
 split at e
 ·exact(h _ e).1
 ·cases B with
  |none=>cases e
  |some x=>
   obtain⟨f,d⟩:=h x rfl
   obtain⟨j,i,xs⟩:=x
   simp at d
   subst d
   rw[Option.map_some,aAV]at e
   injection e with e
   injection e with e1 e2
   subst e1
   exact f
theorem aH4 (A:Option Addr)(l:List Int)(n t a:Nat)(w:World)(hb:Bytes w A l)(hL:l.length=n)(hn:n≤1000000)(hc:n≤t)(al:t≤maxLen)(ha:a≤18446744073709551615):
 Calls Tryz.prog 103 #[.slice A n t,.int .u64 (a:Int)] w (DataTold2 l a w):=by
 have b0:=yH ((Below.refl w.heap.size w).alloc (yR _) (.cells #[.int .u64 0,.int .u64 0,.int .u64 0,.int .u64 0,.int .u64 0,.int .u64 0,.slice none 0 0] 110))
 have R0:=yH (Blk.new w [.int .u64 0,.int .u64 0,.int .u64 0,.int .u64 0,.int .u64 0,.int .u64 0,.slice none 0 0] 110)
 have p:=yH (aGY A l n t a 1 (w.alloc (.cells #[.int .u64 0,.int .u64 0,.int .u64 0,.int .u64 0,.int .u64 0,.int .u64 0,.slice none 0 0] 110)) (hb.below b0.out (yR _)) hL hn hc al ha)
 unfold RBodyNew at p
 have g:bcode l a 1 6=if code l a≠0 then code l a else if kindL l a≠1 then 4 else if(bodyL l a).length≤8*6 then 5 else 0:=rfl
 have s: ∀i,bnum l a 1 6 i=if bcode l a 1 6=0 then u8 (bodyL l a) (8*i)else 0:=fun i=>rfl
 have o:bpay l a 1 6=if bcode l a 1 6=0 then(bodyL l a).drop (8*6)else []:=rfl
 unfold DataTold2
 by_cases h1:(if code l a≠0 then code l a else if kindL l a≠1 then 4 else 0:Int)≠0
 ·have ab:bcode l a 1 6=(if code l a≠0 then code l a else if kindL l a≠1 then 4 else 0):=by
   rw[g]
   by_cases q:code l a≠0
   ·rw[if_pos q,if_pos q]
   ·rw[if_neg q]at h1
    by_cases h3:kindL l a≠1
    ·rw[if_neg q,if_neg q,if_pos h3,if_pos h3]
    ·rw[if_neg h3]at h1;exact absurd rfl h1
  rw[←ab]at p h1
  rw[if_neg h1]at o
  have d: ∀i,bnum l a 1 6 i=0:=fun i=>(s i).trans (if_neg h1)
  rw[o,d 0,d 1,d 2,d 3,d 4,d 5]
  clear o s d hb hL g ab
  generalize bcode l a 1 6=cd at*
  generalize bodyL l a=bd at*
  go_enter Tryz.func103,Tryz.ntmps103
  go_wp2_with(go_at_call 153;(with_reducible refine p.out.mono ?_);rintro e w2 ⟨B,m,cb,rfl,f,ai⟩;have c:=yH (R0.out.below f R0.out.lt);have L:=c.out.cell (i:=0) rfl;have Z:=c.out.cell (i:=1) rfl;have J:=c.out.cell (i:=2) rfl;have I:=c.out.cell (i:=3) rfl;have F:=c.out.cell (i:=4) rfl;have E:=c.out.cell (i:=5) rfl;have G:=c.out.cell (i:=6) rfl;have aa:=c.out.frozen 0;have M:=c.out.frozen 1;have R:=c.out.frozen 2;have Y:=c.out.frozen 3;have V:=c.out.frozen 4;have D:=c.out.frozen 5;have H:=c.out.frozen 6;have y:=yH (b0.out.trans (f.mono b0.out.size));have ar:=yH ai;clear ai f)
  refine bodyPost_ret (v:= .tuple #[dataV 0 0 0 0 0 0 none 0 0,.int .i64 cd]) (by simp[results_cell_tmp Tryz.results103,go_sem,L,aa,Z,M,J,R,I,Y,F,V,E,D,G,H,Result.andThen]) rfl ⟨none,0,0,rfl,?_,Bytes.nil _ _,rfl,by decide,by decide,by decide,fun b off h=>by cases h⟩
  (repeat (first|(with_reducible exact y.out)|refine Below.setCell ?_ (by simp) _|refine Below.alloc ?_ (by simp) _|refine Below.drew ?_|refine below_drewN ?_ _))
 ·have an:code l a=0:=by
   by_cases q:code l a≠0
   ·rw[if_pos q]at h1;exact absurd q h1
   ·omega
  have aq:kindL l a=1:=by
   rw[if_neg (by omega)]at h1
   by_cases q:kindL l a≠1
   ·rw[if_pos q]at h1;exact absurd (by decide) h1
   ·omega
  have af:(if code l a≠0 then code l a else if kindL l a≠1 then 4 else 0:Int)=0:=by omega
  rw[af]at p
  rw[if_neg (by omega),if_neg (by omega)]at g
  have ac:Hid (Calls Tryz.prog 153 #[.slice A n t,.int .u64 (a:Int),.int .i64 1] (w.alloc (.cells #[.int .u64 0,.int .u64 0,.int .u64 0,.int .u64 0,.int .u64 0,.int .u64 0,.slice none 0 0] 110)) fun e w'=> ∃m:Nat,(bodyL l a).length=m∧ ∃B cb,e= .returned (.tuple #[.slice B m cb,.int .i64 0])∧Below (w.alloc (.cells #[.int .u64 0,.int .u64 0,.int .u64 0,.int .u64 0,.int .u64 0,.int .u64 0,.slice none 0 0] 110)).heap.size (w.alloc (.cells #[.int .u64 0,.int .u64 0,.int .u64 0,.int .u64 0,.int .u64 0,.int .u64 0,.slice none 0 0] 110)) w'∧Bytes w' B (bodyL l a)∧m≤cb∧cb≤maxLen∧m≤1000000∧ ∀x,B=some x→(w.alloc (.cells #[.int .u64 0,.int .u64 0,.int .u64 0,.int .u64 0,.int .u64 0,.int .u64 0,.slice none 0 0] 110)).heap.size≤x.block∧x.spot=none):=yH (p.out.mono fun e w' ⟨B,m,cb,h1,q,h3⟩=>by
   obtain⟨q1,q2,q3,q4,q5,q6⟩:=h3 an aq
   exact⟨m,q2,B,cb,h1,q,q1,q3,q4,q5,q6⟩)
  by_cases h5:(bodyL l a).length≤8*6
  ·rw[if_pos h5]at g
   have ae: ¬bcode l a 1 6=0:=by rw[g];decide
   rw[if_neg ae]at o
   have d: ∀i,bnum l a 1 6 i=0:=fun i=>(s i).trans (if_neg ae)
   rw[o,g,d 0,d 1,d 2,d 3,d 4,d 5]
   clear o s d hb hL h1 ae af g p
   generalize bodyL l a=bd at*
   go_enter Tryz.func103,Tryz.ntmps103
   go_wp2_with(go_at_call 153;(with_reducible refine ac.out.mono ?_);rintro e w2 ⟨m,hm,B,cb,rfl,f,X,ap,ad,ao,r⟩;have c:=yH (R0.out.below f R0.out.lt);have L:=c.out.cell (i:=0) rfl;have Z:=c.out.cell (i:=1) rfl;have J:=c.out.cell (i:=2) rfl;have I:=c.out.cell (i:=3) rfl;have F:=c.out.cell (i:=4) rfl;have E:=c.out.cell (i:=5) rfl;have G:=c.out.cell (i:=6) rfl;have aa:=c.out.frozen 0;have M:=c.out.frozen 1;have R:=c.out.frozen 2;have Y:=c.out.frozen 3;have V:=c.out.frozen 4;have D:=c.out.frozen 5;have H:=c.out.frozen 6;have y:=yH (b0.out.trans (f.mono b0.out.size));have ah:m≤48:=Nat.le_trans (Nat.le_of_eq hm.symm) h5;clear f X r)
   refine bodyPost_ret (v:= .tuple #[dataV 0 0 0 0 0 0 none 0 0,.int .i64 5]) (by simp[results_cell_tmp Tryz.results103,go_sem,L,aa,Z,M,J,R,I,Y,F,V,E,D,G,H,Result.andThen]) rfl ⟨none,0,0,rfl,?_,Bytes.nil _ _,rfl,by decide,by decide,by decide,fun b off h=>by cases h⟩
   (repeat (first|(with_reducible exact y.out)|refine Below.setCell ?_ (by simp) _|refine Below.alloc ?_ (by simp) _|refine Below.drew ?_|refine below_drewN ?_ _))
  ·rw[if_neg h5]at g
   rw[if_pos g]at o
   have d: ∀i,bnum l a 1 6 i=u8 (bodyL l a) (8*i):=fun i=>(s i).trans (if_pos g)
   rw[o,g]
   have HU:=yH fun(i:Nat) (z:Int) (B:Option Addr) (m cb:Nat) (W:World) (hB:Bytes W B (bodyL l a)) (hm:(bodyL l a).length=m) (ad:m≤1000000) (hz:z=((8*i:Nat):Int)) (hi:8*i+8≤m)=>hz▸(d i).symm▸aIJ B (bodyL l a) m cb (8*i) W hB hm ad hi
   have H5:=yH h5
   clear o s d hb hL h1 af g p h5
   go_enter Tryz.func103,Tryz.ntmps103
   go_upto_region 6 with(go_at_call 153;(with_reducible refine ac.out.mono ?_);rintro e w2 ⟨m,hm,B,cb,rfl,f,X,ap,ad,ao,r⟩;have c:=yH (R0.out.below f R0.out.lt);have L:=c.out.cell (i:=0) rfl;have Z:=c.out.cell (i:=1) rfl;have J:=c.out.cell (i:=2) rfl;have I:=c.out.cell (i:=3) rfl;have F:=c.out.cell (i:=4) rfl;have E:=c.out.cell (i:=5) rfl;have G:=c.out.cell (i:=6) rfl;have aa:=c.out.frozen 0;have M:=c.out.frozen 1;have R:=c.out.frozen 2;have Y:=c.out.frozen 3;have V:=c.out.frozen 4;have D:=c.out.frozen 5;have H:=c.out.frozen 6;have y:=yH (b0.out.trans (f.mono b0.out.size));have D1:=yH X;have N:=yH hm;have ah: ¬m≤48:=fun h=>H5.out (by rw[hm];omega);have k:=yH r;clear f X r hm)
   have au:48≤m:=by omega
   have hcut: ∀W:World,(Instr.slice 24 (.slice B m cb) (some (.int .i64 48)) none none).run Tryz.prog W= .ok (.slice (cutA B cb 48) (m-48) (cb-48)) W:=fun W:World=>aJC B m cb 48 (by omega) W
   have HC:=yH (Bytes.cut D1.out cb 48 (m-48) (by rw[N.out];omega))
   rw[List.take_of_length_le (Nat.le_of_eq (by rw[List.length_drop,N.out]))]at HC
   have aj:=yH (show ∀b off,cutA B cb 48=some ⟨b,off,none⟩→b≠w.heap.size from fun b off e hh=>by have h1:=aG1 k.out e;have q:=R0.out.lt;omega)
   have ag:=yH (show Cap w.heap.size (cutA B cb 48) (m-48) (cb-48)from⟨by omega,by omega,by omega,fun b off e=>by have h1:=aG1 k.out e;have q:=R0.out.lt;omega⟩)
   clear k
   have k:=aj
   clear aj
   generalize cutA B cb 48=C at*
   have a0:=yH (show ∀j,j<7→w2.drew.frozen? ⟨w.heap.size,j,none⟩=false from fun j _=>c.out.frozen j)
   go_region_held3 (fun w'=>True) (first|(with_reducible exact trivial)) (first
    |(go_at_call 94;(first|(with_reducible refine(HU.out 0 0 _ _ _ _ D1.out.drew N.out (by omega) rfl (by omega)).mono ?_)|(with_reducible refine(HU.out 1 8 _ _ _ _ D1.out.drew N.out (by omega) rfl (by omega)).mono ?_)|(with_reducible refine(HU.out 2 16 _ _ _ _ D1.out.drew N.out (by omega) rfl (by omega)).mono ?_)|(with_reducible refine(HU.out 3 24 _ _ _ _ D1.out.drew N.out (by omega) rfl (by omega)).mono ?_)|(with_reducible refine(HU.out 4 32 _ _ _ _ D1.out.drew N.out (by omega) rfl (by omega)).mono ?_)|(with_reducible refine(HU.out 5 40 _ _ _ _ D1.out.drew N.out (by omega) rfl (by omega)).mono ?_));rintro e w' ⟨rfl,rfl⟩))
   obtain⟨W4,u⟩: ∃x,x=((((((((w2.setCell ⟨w.heap.size,0,none⟩ (.int .u64 (bnum l a 1 6 0))).setCell ⟨w.heap.size,1,none⟩ (.int .u64 (bnum l a 1 6 1))).setCell ⟨w.heap.size,2,none⟩ (.int .u64 (bnum l a 1 6 2))).setCell ⟨w.heap.size,3,none⟩ (.int .u64 (bnum l a 1 6 3))).setCell ⟨w.heap.size,4,none⟩ (.int .u64 (bnum l a 1 6 4))).setCell ⟨w.heap.size,5,none⟩ (.int .u64 (bnum l a 1 6 5))).setCell ⟨w.heap.size,6,none⟩ (.slice C (m-48) (cb-48)))).drew:=⟨_,rfl⟩
   have R4:Hid (Blk W4 w.heap.size [.int .u64 (bnum l a 1 6 0),.int .u64 (bnum l a 1 6 1),.int .u64 (bnum l a 1 6 2),.int .u64 (bnum l a 1 6 3),.int .u64 (bnum l a 1 6 4),.int .u64 (bnum l a 1 6 5),.slice C (m-48) (cb-48)] 110):=yH (u▸(Blk.drew (((((((c.out.set_ 0 _).set_ 1 _).set_ 2 _).set_ 3 _).set_ 4 _).set_ 5 _).set_ 6 _)))
   have am:Hid (Below w.heap.size w W4):=yH (u▸(Below.drew (Below.setCell (Below.setCell (Below.setCell (Below.setCell (Below.setCell (Below.setCell (Below.setCell y.out (yR _) _) (yR _) _) (yR _) _) (yR _) _) (yR _) _) (yR _) _) (yR _) _)))
   have ak:Hid (Bytes W4 C _):=yH (u▸(Bytes.drew (aAx (aAx (aAx (aAx (aAx (aAx (aAx HC.out k.out _ _) k.out _ _) k.out _ _) k.out _ _) k.out _ _) k.out _ _) k.out _ _)))
   rw[←u]
   have e0:=R4.out.cell (i:=0) rfl;have e1:=R4.out.cell (i:=1) rfl;have e2:=R4.out.cell (i:=2) rfl;have e3:=R4.out.cell (i:=3) rfl;have e4:=R4.out.cell (i:=4) rfl;have e5:=R4.out.cell (i:=5) rfl;have e6:=R4.out.cell (i:=6) rfl
   clear u
   go_wp2
   refine bodyPost_ret (v:= .tuple #[dataV (bnum l a 1 6 0) (bnum l a 1 6 1) (bnum l a 1 6 2) (bnum l a 1 6 3) (bnum l a 1 6 4) (bnum l a 1 6 5) C (m-48) (cb-48),.int .i64 0]) (by simp[results_cell_tmp Tryz.results103,go_sem,e0,e1,e2,e3,e4,e5,e6,Result.andThen]) rfl ⟨C,m-48,(cb-48),rfl,am.out,ak.out,by rw[List.length_drop,N.out],ag.out⟩
end Ol7
namespace Gc
open Bytes8 Blk8 Own8 Ob Ga Gb
abbrev idsV (g:Nat):Value:= .agg #[.pointer (some ⟨g,3,none⟩),.pointer (some ⟨g,19,none⟩),.pointer (some ⟨g,35,none⟩),.pointer (some ⟨g,51,none⟩)]
abbrev numsV (g:Nat):Value:= .agg #[.pointer (some ⟨g,67,none⟩),.pointer (some ⟨g,68,none⟩),.pointer (some ⟨g,69,none⟩),.pointer (some ⟨g,70,none⟩),.pointer (some ⟨g,71,none⟩),.pointer (some ⟨g,72,none⟩),.pointer (some ⟨g,73,none⟩),.pointer (some ⟨g,74,none⟩),.pointer (some ⟨g,75,none⟩),.pointer (some ⟨g,76,none⟩),.pointer (some ⟨g,77,none⟩),.pointer (some ⟨g,78,none⟩),.pointer (some ⟨g,79,none⟩),.pointer (some ⟨g,80,none⟩),.pointer (some ⟨g,81,none⟩),.pointer (some ⟨g,82,none⟩),.pointer (some ⟨g,83,none⟩),.pointer (some ⟨g,84,none⟩),.pointer (some ⟨g,85,none⟩),.pointer (some ⟨g,86,none⟩),.pointer (some ⟨g,87,none⟩)]
theorem nums_one (g:Nat):(#[.pointer (some ⟨g,67,none⟩),.pointer (some ⟨g,68,none⟩),.pointer (some ⟨g,69,none⟩),.pointer (some ⟨g,70,none⟩),.pointer (some ⟨g,71,none⟩),.pointer (some ⟨g,72,none⟩),.pointer (some ⟨g,73,none⟩),.pointer (some ⟨g,74,none⟩),.pointer (some ⟨g,75,none⟩),.pointer (some ⟨g,76,none⟩),.pointer (some ⟨g,77,none⟩),.pointer (some ⟨g,78,none⟩),.pointer (some ⟨g,79,none⟩),.pointer (some ⟨g,80,none⟩),.pointer (some ⟨g,81,none⟩),.pointer (some ⟨g,82,none⟩),.pointer (some ⟨g,83,none⟩),.pointer (some ⟨g,84,none⟩),.pointer (some ⟨g,85,none⟩),.pointer (some ⟨g,86,none⟩),.pointer (some ⟨g,87,none⟩)]:Array Value).all (·.oneCell')=true:=by simp[Value.oneCell']
theorem aQi:(Tryz.prog.info? 130).map (·.size)=some 4:=by kernel_rfl
theorem aL6:(Tryz.prog.info? 134).map (·.size)=some 21:=by kernel_rfl
theorem aPu (g:Nat)(w:World):
 Calls Tryz.prog 53 #[.pointer (some ⟨g,0,none⟩)] w fun e w'=>e= .returned (idsV g)∧Below w.heap.size w w':=by
 go_enter Tryz.func53,Tryz.ntmps53
 go_wp2
 go_region
 all_goals
  go_wp2
  refine bodyPost_ret (v:=idsV g) (by exact results_cell_row Tryz.results53 _ _ w.heap.size 130 _ (0,0) _ rfl (heap_alloc_new w _) Tryz.underlying130 rfl aQi) rfl ?_
  exact⟨rfl,((Below.refl w.heap.size w).alloc (yR _) _).drew⟩
theorem aL7 (g:Nat)(w:World):
 Calls Tryz.prog 54 #[.pointer (some ⟨g,0,none⟩)] w fun e w'=>e= .returned (numsV g)∧Below w.heap.size w w':=by
 go_enter Tryz.func54,Tryz.ntmps54
 go_wp2
 have b:=yH (heap_alloc_new w (.cells #[.pointer none,.pointer none,.pointer none,.pointer none,.pointer none,.pointer none,.pointer none,.pointer none,.pointer none,.pointer none,.pointer none,.pointer none,.pointer none,.pointer none,.pointer none,.pointer none,.pointer none,.pointer none,.pointer none,.pointer none,.pointer none] 134))
 have c:=yH ((Below.refl w.heap.size w).alloc (yR _) (.cells #[.pointer none,.pointer none,.pointer none,.pointer none,.pointer none,.pointer none,.pointer none,.pointer none,.pointer none,.pointer none,.pointer none,.pointer none,.pointer none,.pointer none,.pointer none,.pointer none,.pointer none,.pointer none,.pointer none,.pointer none,.pointer none] 134))
 generalize w.alloc (.cells #[.pointer none,.pointer none,.pointer none,.pointer none,.pointer none,.pointer none,.pointer none,.pointer none,.pointer none,.pointer none,.pointer none,.pointer none,.pointer none,.pointer none,.pointer none,.pointer none,.pointer none,.pointer none,.pointer none,.pointer none,.pointer none] 134)=w1 at*
 refine wp_region_still_tail 63 (by kernel_rfl) (by kernel_rfl) ?_
 simp only[List.append_eq,List.cons_append,List.nil_append,List.take_succ_cons,List.take_zero,List.drop_succ_cons,List.drop_zero]
 repeat still_step
 try refine wpStill_nil ?_
 change wpList _ _ _ _ _ w1.drew
 go_wp2_with(first
  |((with_reducible apply aAb 66);refine wpList_build_as rfl 134 _ rfl #[.pointer (some ⟨g,67,none⟩),.pointer (some ⟨g,68,none⟩),.pointer (some ⟨g,69,none⟩),.pointer (some ⟨g,70,none⟩),.pointer (some ⟨g,71,none⟩),.pointer (some ⟨g,72,none⟩),.pointer (some ⟨g,73,none⟩),.pointer (some ⟨g,74,none⟩),.pointer (some ⟨g,75,none⟩),.pointer (some ⟨g,76,none⟩),.pointer (some ⟨g,77,none⟩),.pointer (some ⟨g,78,none⟩),.pointer (some ⟨g,79,none⟩),.pointer (some ⟨g,80,none⟩),.pointer (some ⟨g,81,none⟩),.pointer (some ⟨g,82,none⟩),.pointer (some ⟨g,83,none⟩),.pointer (some ⟨g,84,none⟩),.pointer (some ⟨g,85,none⟩),.pointer (some ⟨g,86,none⟩),.pointer (some ⟨g,87,none⟩)] (by kernel_rfl) ?_)
  |((with_reducible apply aAa (.tmp 2) (.tmp 66));refine wpList_store_row rfl 134 (.tmp 2) (.tmp 66) rfl w.heap.size #[.pointer (some ⟨g,67,none⟩),.pointer (some ⟨g,68,none⟩),.pointer (some ⟨g,69,none⟩),.pointer (some ⟨g,70,none⟩),.pointer (some ⟨g,71,none⟩),.pointer (some ⟨g,72,none⟩),.pointer (some ⟨g,73,none⟩),.pointer (some ⟨g,74,none⟩),.pointer (some ⟨g,75,none⟩),.pointer (some ⟨g,76,none⟩),.pointer (some ⟨g,77,none⟩),.pointer (some ⟨g,78,none⟩),.pointer (some ⟨g,79,none⟩),.pointer (some ⟨g,80,none⟩),.pointer (some ⟨g,81,none⟩),.pointer (some ⟨g,82,none⟩),.pointer (some ⟨g,83,none⟩),.pointer (some ⟨g,84,none⟩),.pointer (some ⟨g,85,none⟩),.pointer (some ⟨g,86,none⟩),.pointer (some ⟨g,87,none⟩)] rfl rfl 134 #[.pointer none,.pointer none,.pointer none,.pointer none,.pointer none,.pointer none,.pointer none,.pointer none,.pointer none,.pointer none,.pointer none,.pointer none,.pointer none,.pointer none,.pointer none,.pointer none,.pointer none,.pointer none,.pointer none,.pointer none,.pointer none] b.out aL6 rfl (nums_one g) ?_))
 refine bodyPost_ret (v:=numsV g) (by exact results_cell_row Tryz.results54 _ _ w.heap.size 134 _ (0,0) _ rfl (setRow_heap _ w.heap.size _ _ _ (0,0) b.out) Tryz.underlying134 rfl aL6) rfl ?_
 exact⟨rfl,below_setRow c.out.drew (yR _) _⟩
end Gc
end Go.Proofs.YtlelnfokffflnaaGreat
