/-
  Texts beneath the proof.
-/
import Derived.StillTailTactics
import Derived.Test.YtlelnfokffflnaaGreatQl6
set_option linter.unusedVariables false
set_option linter.unusedSimpArgs false
set_option maxRecDepth 100000
set_option maxHeartbeats 4000000
open Go.ChangeShapes Go.WideShapes Go.ChangeAt Go.RowKit
namespace Go.Proofs.YtlelnfokffflnaaGreat
namespace Ok7
open Bytes8 Blk8 Own8 OwnM OwnE Ob Oc Od Oi Oj
theorem number_any (A:Option Addr)(l:List Int)(n a i:Nat)(w:World)(b:Bytes w A l)(c:l.length=n)(d:n≤1000000)(g:8*i+8≤n):
 Calls Tryz.prog 241 #[.slice A n a,.int .i64 (i:Int)] w fun e w'=>e= .returned (.int .u64 (u8 l (8*i)))∧w=w':=by
 have f:=yH fun(z:Int) (hz:z=((8*i:Nat):Int))=>get8 A l n a (8*i) z w hz c d b (by omega)
 generalize u8 l (8*i)=x at*
 clear b c
 go_enter Tryz.func241,Tryz.ntmps241
 go_wp2_with(go_at_call 55;(with_reducible refine(f.out _ (by omega)).mono ?_);rintro e w' ⟨rfl,rfl⟩)
 go_ret
 exact⟨rfl,rfl⟩
theorem aAx {w:World}{A:Option Addr}{l:List Int}{g:Nat}(h:Bytes w A l)(f: ∀b a,A=some ⟨b,a,none⟩→b≠g)(i:Nat)(v:Value):Bytes (w.setCell ⟨g,i,none⟩ v) A l:=by
 refine⟨h.1,fun j hj=>?_⟩
 obtain⟨b,a,e,d,c⟩:=h.2 j hj
 refine⟨b,a,e,by simpa using d,?_⟩
 rw[World.cell?_of_block (Below.heap_setCell w ⟨g,i,none⟩ v b (f b a e))]
 exact c
def Cap (B:Nat)(A:Option Addr)(m c:Nat):Prop:=m≤1000000∧m≤c∧c≤maxLen∧ ∀b off,A=some ⟨b,off,none⟩→B≤b
theorem Cap.mono {B C:Nat}{A:Option Addr}{m c:Nat}(h:Cap B A m c)(a:C≤B):Cap C A m c:=⟨h.1,h.2.1,h.2.2.1,fun b off e=>Nat.le_trans a (h.2.2.2 b off e)⟩
theorem aG0 (A:Option Addr)(l:List Int)(len i:Nat)(w:World)(o:Bytes w A l)(p:l.length=len)(m:len≤1000000):
 Calls Tryz.prog 58 #[.slice A len i] w fun e w'=> ∃j q,e= .returned (.slice j len q)∧Bytes w' j l∧Below w.heap.size w w'∧Cap w.heap.size j len q:=by
 have t: ∀(w:World) (a:Option Addr) (n c n' c':Nat),(binOp .eql 24 (.slice a n c) (.slice none n' c')).run Tryz.prog w= .ok (.bool a.isNone) w:=fun w a n c n' c'=>Lib.run_eql_slice_nil w _ _ a n c n' c' Tryz.underlying24
 cases A with
 |none=>
  have s:l=[]:=by
   rcases l with _|⟨x,r⟩
   ·rfl
   ·obtain⟨b,k,e,_⟩:=o.2 0 (by simp)
    cases e
  subst s
  obtain rfl:len=0:=by simpa using p.symm
  clear o p
  go_enter Tryz.func58,Tryz.ntmps58
  go_wp2
  go_ret
  exact⟨none,0,rfl,Bytes.nil _ _,Below.refl _ _,by decide,by decide,by decide,fun b k h=>by cases h⟩
 |some a=>
  have u:=yH (o.below ((Below.refl w.heap.size w).alloc (yR _) (.cells #[] 5)) (yR _))
  have v:=yH p
  clear o p
  go_enter Tryz.func58,Tryz.ntmps58
  go_wp2_with(at_builtin;refine aAd rfl (.tmp 5) (.tmp 6) rfl w.heap.size _ 0 0 [] rfl (Own.made w _ (yR _)) (some a) len i l rfl u.out v.out (by omega) ?_;intro j q w2 g f;rw[Nat.zero_add,List.nil_append]at g;rw[Nat.zero_add];have d:=yH g;clear g)
  go_ret
  refine⟨j,q,rfl,d.out.bytes,((Below.refl _ _).alloc (yR _) _).trans f,m,(aBs d.out).1,(aBs d.out).2,fun b k h=>?_⟩
  subst h
  exact(d.out.lt b rfl).1
def DataTold2 (l:List Int)(a:Nat)(w:World)(e:Ending)(w':World):Prop:=
 ∃A m c,e= .returned (.tuple #[dataV (bnum l a 1 6 0) (bnum l a 1 6 1) (bnum l a 1 6 2) (bnum l a 1 6 3) (bnum l a 1 6 4) (bnum l a 1 6 5) A m c,.int .i64 (bcode l a 1 6)])∧Below w.heap.size w w'∧Bytes w' A (bpay l a 1 6)∧(bpay l a 1 6).length=m∧Cap w.heap.size A m c
theorem aJY (A:Option Addr)(l:List Int)(n u a:Nat)(w:World)(hb:Bytes w A l)(hL:l.length=n)(hn:n≤1000000)(hc:n≤u)(aj:u≤maxLen)(ha:a≤18446744073709551615):
 Calls Tryz.prog 237 #[.slice A n u,.int .u64 (a:Int)] w (DataTold2 l a w):=by
 have b0:=yH ((Below.refl w.heap.size w).alloc (yR _) (.cells #[.int .u64 0,.int .u64 0,.int .u64 0,.int .u64 0,.int .u64 0,.int .u64 0,.slice none 0 0] 283))
 have R0:=yH (Blk.new w [.int .u64 0,.int .u64 0,.int .u64 0,.int .u64 0,.int .u64 0,.int .u64 0,.slice none 0 0] 283)
 have D:=yH (aL1 A l n u a 6 1 6 (w.alloc (.cells #[.int .u64 0,.int .u64 0,.int .u64 0,.int .u64 0,.int .u64 0,.int .u64 0,.slice none 0 0] 283)) (hb.below b0.out (yR _)) hL hn hc aj ha (by decide) rfl)
 unfold Bodied at D
 have y: ∀i,bnum l a 1 6 i=if bcode l a 1 6=0 then u8 (bodyL l a) (8*i)else 0:=fun i=>rfl
 have o:bpay l a 1 6=if bcode l a 1 6=0 then(bodyL l a).drop (8*6)else []:=rfl
 unfold DataTold2
 by_cases h1:bcode l a 1 6≠0
 ·rw[if_neg h1]at o
  have f: ∀i,bnum l a 1 6 i=0:=fun i=>(y i).trans (if_neg h1)
  rw[o,f 0,f 1,f 2,f 3,f 4,f 5]
  clear o y f hb hL
  generalize bcode l a 1 6=cd at*
  generalize bodyL l a=bd at*
  go_enter Tryz.func237,Tryz.ntmps237
  go_wp2_with(go_at_call 240;(with_reducible refine D.out.mono ?_);rintro e w2 ⟨B,m,cb,rfl,d,_⟩;have c:=yH (R0.out.below d R0.out.lt);have ab:=c.out.cell (i:=0) rfl;have Y:=c.out.cell (i:=1) rfl;have I:=c.out.cell (i:=2) rfl;have J:=c.out.cell (i:=3) rfl;have af:=c.out.cell (i:=4) rfl;have ag:=c.out.cell (i:=5) rfl;have ad:=c.out.cell (i:=6) rfl;have R:=c.out.frozen 0;have ac:=c.out.frozen 1;have N:=c.out.frozen 2;have L:=c.out.frozen 3;have Z:=c.out.frozen 4;have V:=c.out.frozen 5;have ae:=c.out.frozen 6;have s:=yH (b0.out.trans (d.mono b0.out.size));clear d)
  refine bodyPost_ret (v:= .tuple #[dataV 0 0 0 0 0 0 none 0 0,.int .i64 cd]) (by simp[results_cell_tmp Tryz.results237,go_sem,ab,R,Y,ac,I,N,J,L,af,Z,ag,V,ad,ae,Result.andThen]) rfl ⟨none,0,0,rfl,?_,Bytes.nil _ _,rfl,by decide,by decide,by decide,fun b off h=>by cases h⟩
  (repeat (first|(with_reducible exact s.out)|refine Below.setCell ?_ (by simp) _|refine Below.alloc ?_ (by simp) _|refine Below.drew ?_|refine below_drewN ?_ _))
 ·have h0:bcode l a 1 6=0:=by omega
  rw[if_pos h0]at o
  have f: ∀i,bnum l a 1 6 i=u8 (bodyL l a) (8*i):=fun i=>(y i).trans (if_pos h0)
  rw[h0]at D⊢
  rw[o]
  have p:=yH fun(i:Nat) (z:Int) (B:Option Addr) (m cb:Nat) (W:World) (hB:Bytes W B (bodyL l a)) (hm:(bodyL l a).length=m) (hm2:m≤1000000) (hz:z=(i:Int)) (hi:8*i+8≤m)=>hz▸(f i).symm▸number_any B (bodyL l a) m cb i W hB hm hm2 hi
  have ay:=yH fun(m:Nat) (hm:(bodyL l a).length=m)=>show((bodyL l a).drop (8*6)).length=m-48 by rw[List.length_drop,hm]
  clear o y f hb hL h1 h0
  go_enter Tryz.func237,Tryz.ntmps237
  go_upto_region 4 with(go_at_call 240;(with_reducible refine D.out.mono ?_);rintro e w2 ⟨B,m,cb,rfl,d,M⟩)
  have c:=yH (R0.out.below d R0.out.lt)
  have ab:=c.out.cell (i:=0) rfl
  have Y:=c.out.cell (i:=1) rfl
  have I:=c.out.cell (i:=2) rfl
  have J:=c.out.cell (i:=3) rfl
  have af:=c.out.cell (i:=4) rfl
  have ag:=c.out.cell (i:=5) rfl
  have ad:=c.out.cell (i:=6) rfl
  have R:=c.out.frozen 0
  have ac:=c.out.frozen 1
  have N:=c.out.frozen 2
  have L:=c.out.frozen 3
  have Z:=c.out.frozen 4
  have V:=c.out.frozen 5
  have ae:=c.out.frozen 6
  have s:=yH (b0.out.trans (d.mono b0.out.size))
  obtain⟨d1,d2,d3,d4,d5,d6⟩:=M (by first|rfl|trivial)
  have F:=yH d1
  have t:=yH d2
  clear d1 d2 d M
  have aB:48<m:=by omega
  have aC:48≤m:=by omega
  have hcut: ∀W:World,(Instr.slice 24 (.slice B m cb) (some (.int .i64 48)) none none).run Tryz.prog W= .ok (.slice (cutA B cb 48) (m-48) (cb-48)) W:=fun W:World=>aJC B m cb 48 (by omega) W
  have HC:=yH (Bytes.cut F.out cb 48 (m-48) (by rw[t.out];omega))
  rw[List.take_of_length_le (Nat.le_of_eq (by rw[List.length_drop,t.out]))]at HC
  generalize cutA B cb 48=C at*
  go_region_held3 (fun w'=>True) (first|(with_reducible exact trivial)) (first
   |(go_at_call 241;(first|(with_reducible refine(p.out 0 0 _ _ _ _ F.out.drew t.out (by omega) rfl (by omega)).mono ?_)|(with_reducible refine(p.out 1 1 _ _ _ _ F.out.drew t.out (by omega) rfl (by omega)).mono ?_)|(with_reducible refine(p.out 2 2 _ _ _ _ F.out.drew t.out (by omega) rfl (by omega)).mono ?_)|(with_reducible refine(p.out 3 3 _ _ _ _ F.out.drew t.out (by omega) rfl (by omega)).mono ?_)|(with_reducible refine(p.out 4 4 _ _ _ _ F.out.drew t.out (by omega) rfl (by omega)).mono ?_)|(with_reducible refine(p.out 5 5 _ _ _ _ F.out.drew t.out (by omega) rfl (by omega)).mono ?_));rintro e w' ⟨rfl,rfl⟩)
   |(go_at_call 58;(with_reducible refine(aG0 C _ (m-48) (cb-48) _ HC.out.drew (by rw[List.length_drop,t.out]) (by omega)).mono ?_);rintro e w3 ⟨H,c3,rfl,aa,k,r⟩;have ai:=r.2.2.2;have X:=yH (r.mono s.out.size);have ah:=yH aa;have g:=yH (show ∀b off,H=some ⟨b,off,none⟩→b≠w.heap.size from fun b off e hh=>by have h1:=ai b off e;have h2:=c.out.lt;have h3:w2.drew.heap.size=w2.heap.size:=rfl;omega);have E:=yH (s.out.drew.trans (k.mono s.out.size));have j:=yH (c.out.drew.below k c.out.lt);have az:=j.out.cell (i:=0) rfl;have ax:=j.out.cell (i:=1) rfl;have ap:=j.out.cell (i:=2) rfl;have aE:=j.out.cell (i:=3) rfl;have aq:=j.out.cell (i:=4) rfl;have ar:=j.out.cell (i:=5) rfl;have aD:=j.out.cell (i:=6) rfl;have aA:=j.out.frozen 0;have au:=j.out.frozen 1;have an:=j.out.frozen 2;have aw:=j.out.frozen 3;have ao:=j.out.frozen 4;have am:=j.out.frozen 5;have av:=j.out.frozen 6;clear r aa k))
  obtain⟨W4,q⟩: ∃x,x=(((((((w3.setCell ⟨w.heap.size,0,none⟩ (.int .u64 (bnum l a 1 6 0))).setCell ⟨w.heap.size,1,none⟩ (.int .u64 (bnum l a 1 6 1))).setCell ⟨w.heap.size,2,none⟩ (.int .u64 (bnum l a 1 6 2))).setCell ⟨w.heap.size,3,none⟩ (.int .u64 (bnum l a 1 6 3))).setCell ⟨w.heap.size,4,none⟩ (.int .u64 (bnum l a 1 6 4))).setCell ⟨w.heap.size,5,none⟩ (.int .u64 (bnum l a 1 6 5))).setCell ⟨w.heap.size,6,none⟩ (.slice H (m-48) c3)):=⟨_,rfl⟩
  have G:Hid (Blk W4 w.heap.size [.int .u64 (bnum l a 1 6 0),.int .u64 (bnum l a 1 6 1),.int .u64 (bnum l a 1 6 2),.int .u64 (bnum l a 1 6 3),.int .u64 (bnum l a 1 6 4),.int .u64 (bnum l a 1 6 5),.slice H (m-48) c3] 283):=yH (q▸(((((((j.out.set_ 0 _).set_ 1 _).set_ 2 _).set_ 3 _).set_ 4 _).set_ 5 _).set_ 6 _))
  have ak:Hid (Below w.heap.size w W4):=yH (q▸(Below.setCell (Below.setCell (Below.setCell (Below.setCell (Below.setCell (Below.setCell (Below.setCell E.out (yR _) _) (yR _) _) (yR _) _) (yR _) _) (yR _) _) (yR _) _) (yR _) _))
  have al:Hid (Bytes W4 H _):=yH (q▸(aAx (aAx (aAx (aAx (aAx (aAx (aAx ah.out g.out _ _) g.out _ _) g.out _ _) g.out _ _) g.out _ _) g.out _ _) g.out _ _))
  rw[←q]
  have e0:=G.out.cell (i:=0) rfl;have e1:=G.out.cell (i:=1) rfl;have e2:=G.out.cell (i:=2) rfl;have e3:=G.out.cell (i:=3) rfl;have e4:=G.out.cell (i:=4) rfl;have e5:=G.out.cell (i:=5) rfl;have e6:=G.out.cell (i:=6) rfl
  clear q
  go_wp2
  refine bodyPost_ret (v:= .tuple #[dataV (bnum l a 1 6 0) (bnum l a 1 6 1) (bnum l a 1 6 2) (bnum l a 1 6 3) (bnum l a 1 6 4) (bnum l a 1 6 5) H (m-48) c3,.int .i64 0]) (by simp[results_cell_tmp Tryz.results237,go_sem,e0,e1,e2,e3,e4,e5,e6,Result.andThen]) rfl ⟨H,m-48,c3,rfl,ak.out,al.out,by rw[List.length_drop,t.out],X.out⟩
end Ok7
namespace Ol7
open Bytes8 Blk8 Own8 OwnE Ob Oc Od Oi Oj Ok7
theorem aG1 {B:Option Addr}{cb d base:Nat}(h: ∀x,B=some x→base≤x.block∧x.spot=none){b a:Nat}(e:cutA B cb d=some ⟨b,a,none⟩):base≤b:=by
 unfold cutA at e
 split at e
 ·exact(h _ e).1
 ·cases B with
  |none=>cases e
  |some x=>
   obtain⟨f,c⟩:=h x rfl
   obtain⟨g,i,xs⟩:=x
   simp at c
   subst c
   rw[Option.map_some,aAV]at e
   injection e with e
   injection e with e1 e2
   subst e1
   exact f
theorem aH4 (A:Option Addr)(l:List Int)(n u a:Nat)(w:World)(hb:Bytes w A l)(hL:l.length=n)(hn:n≤1000000)(hc:n≤u)(an:u≤maxLen)(ha:a≤18446744073709551615):
 Calls Tryz.prog 103 #[.slice A n u,.int .u64 (a:Int)] w (DataTold2 l a w):=by
 have b0:=yH ((Below.refl w.heap.size w).alloc (yR _) (.cells #[.int .u64 0,.int .u64 0,.int .u64 0,.int .u64 0,.int .u64 0,.int .u64 0,.slice none 0 0] 110))
 have R0:=yH (Blk.new w [.int .u64 0,.int .u64 0,.int .u64 0,.int .u64 0,.int .u64 0,.int .u64 0,.slice none 0 0] 110)
 have p:=yH (aGY A l n u a 1 (w.alloc (.cells #[.int .u64 0,.int .u64 0,.int .u64 0,.int .u64 0,.int .u64 0,.int .u64 0,.slice none 0 0] 110)) (hb.below b0.out (yR _)) hL hn hc an ha)
 unfold RBodyNew at p
 have g:bcode l a 1 6=if code l a≠0 then code l a else if kindL l a≠1 then 4 else if(bodyL l a).length≤8*6 then 5 else 0:=rfl
 have s: ∀i,bnum l a 1 6 i=if bcode l a 1 6=0 then u8 (bodyL l a) (8*i)else 0:=fun i=>rfl
 have o:bpay l a 1 6=if bcode l a 1 6=0 then(bodyL l a).drop (8*6)else []:=rfl
 unfold DataTold2
 by_cases h1:(if code l a≠0 then code l a else if kindL l a≠1 then 4 else 0:Int)≠0
 ·have ab:bcode l a 1 6=(if code l a≠0 then code l a else if kindL l a≠1 then 4 else 0):=by
   rw[g]
   by_cases r:code l a≠0
   ·rw[if_pos r,if_pos r]
   ·rw[if_neg r]at h1
    by_cases h3:kindL l a≠1
    ·rw[if_neg r,if_neg r,if_pos h3,if_pos h3]
    ·rw[if_neg h3]at h1;exact absurd rfl h1
  rw[←ab]at p h1
  rw[if_neg h1]at o
  have d: ∀i,bnum l a 1 6 i=0:=fun i=>(s i).trans (if_neg h1)
  rw[o,d 0,d 1,d 2,d 3,d 4,d 5]
  clear o s d hb hL g ab
  generalize bcode l a 1 6=cd at*
  generalize bodyL l a=bd at*
  go_enter Tryz.func103,Tryz.ntmps103
  go_wp2_with(go_at_call 153;(with_reducible refine p.out.mono ?_);rintro e w2 ⟨B,m,cb,rfl,f,ag⟩;have c:=yH (R0.out.below f R0.out.lt);have R:=c.out.cell (i:=0) rfl;have L:=c.out.cell (i:=1) rfl;have D:=c.out.cell (i:=2) rfl;have E:=c.out.cell (i:=3) rfl;have Z:=c.out.cell (i:=4) rfl;have aa:=c.out.cell (i:=5) rfl;have X:=c.out.cell (i:=6) rfl;have I:=c.out.frozen 0;have V:=c.out.frozen 1;have H:=c.out.frozen 2;have F:=c.out.frozen 3;have N:=c.out.frozen 4;have J:=c.out.frozen 5;have Y:=c.out.frozen 6;have y:=yH (b0.out.trans (f.mono b0.out.size));have ar:=yH ag;clear ag f)
  refine bodyPost_ret (v:= .tuple #[dataV 0 0 0 0 0 0 none 0 0,.int .i64 cd]) (by simp[results_cell_tmp Tryz.results103,go_sem,R,I,L,V,D,H,E,F,Z,N,aa,J,X,Y,Result.andThen]) rfl ⟨none,0,0,rfl,?_,Bytes.nil _ _,rfl,by decide,by decide,by decide,fun b off h=>by cases h⟩
  (repeat (first|(with_reducible exact y.out)|refine Below.setCell ?_ (by simp) _|refine Below.alloc ?_ (by simp) _|refine Below.drew ?_|refine below_drewN ?_ _))
 ·have am:code l a=0:=by
   by_cases r:code l a≠0
   ·rw[if_pos r]at h1;exact absurd r h1
   ·omega
  have ak:kindL l a=1:=by
   rw[if_neg (by omega)]at h1
   by_cases r:kindL l a≠1
   ·rw[if_pos r]at h1;exact absurd (by decide) h1
   ·omega
  have ae:(if code l a≠0 then code l a else if kindL l a≠1 then 4 else 0:Int)=0:=by omega
  rw[ae]at p
  rw[if_neg (by omega),if_neg (by omega)]at g
  have ac:Hid (Calls Tryz.prog 153 #[.slice A n u,.int .u64 (a:Int),.int .i64 1] (w.alloc (.cells #[.int .u64 0,.int .u64 0,.int .u64 0,.int .u64 0,.int .u64 0,.int .u64 0,.slice none 0 0] 110)) fun e w'=> ∃m:Nat,(bodyL l a).length=m∧ ∃B cb,e= .returned (.tuple #[.slice B m cb,.int .i64 0])∧Below (w.alloc (.cells #[.int .u64 0,.int .u64 0,.int .u64 0,.int .u64 0,.int .u64 0,.int .u64 0,.slice none 0 0] 110)).heap.size (w.alloc (.cells #[.int .u64 0,.int .u64 0,.int .u64 0,.int .u64 0,.int .u64 0,.int .u64 0,.slice none 0 0] 110)) w'∧Bytes w' B (bodyL l a)∧m≤cb∧cb≤maxLen∧m≤1000000∧ ∀x,B=some x→(w.alloc (.cells #[.int .u64 0,.int .u64 0,.int .u64 0,.int .u64 0,.int .u64 0,.int .u64 0,.slice none 0 0] 110)).heap.size≤x.block∧x.spot=none):=yH (p.out.mono fun e w' ⟨B,m,cb,h1,r,h3⟩=>by
   obtain⟨q1,q2,q3,q4,q5,q6⟩:=h3 am ak
   exact⟨m,q2,B,cb,h1,r,q1,q3,q4,q5,q6⟩)
  by_cases h5:(bodyL l a).length≤8*6
  ·rw[if_pos h5]at g
   have af: ¬bcode l a 1 6=0:=by rw[g];decide
   rw[if_neg af]at o
   have d: ∀i,bnum l a 1 6 i=0:=fun i=>(s i).trans (if_neg af)
   rw[o,g,d 0,d 1,d 2,d 3,d 4,d 5]
   clear o s d hb hL h1 af ae g p
   generalize bodyL l a=bd at*
   go_enter Tryz.func103,Tryz.ntmps103
   go_wp2_with(go_at_call 153;(with_reducible refine ac.out.mono ?_);rintro e w2 ⟨m,hm,B,cb,rfl,f,M,ao,ad,al,q⟩;have c:=yH (R0.out.below f R0.out.lt);have R:=c.out.cell (i:=0) rfl;have L:=c.out.cell (i:=1) rfl;have D:=c.out.cell (i:=2) rfl;have E:=c.out.cell (i:=3) rfl;have Z:=c.out.cell (i:=4) rfl;have aa:=c.out.cell (i:=5) rfl;have X:=c.out.cell (i:=6) rfl;have I:=c.out.frozen 0;have V:=c.out.frozen 1;have H:=c.out.frozen 2;have F:=c.out.frozen 3;have N:=c.out.frozen 4;have J:=c.out.frozen 5;have Y:=c.out.frozen 6;have y:=yH (b0.out.trans (f.mono b0.out.size));have ai:m≤48:=Nat.le_trans (Nat.le_of_eq hm.symm) h5;clear f M q)
   refine bodyPost_ret (v:= .tuple #[dataV 0 0 0 0 0 0 none 0 0,.int .i64 5]) (by simp[results_cell_tmp Tryz.results103,go_sem,R,I,L,V,D,H,E,F,Z,N,aa,J,X,Y,Result.andThen]) rfl ⟨none,0,0,rfl,?_,Bytes.nil _ _,rfl,by decide,by decide,by decide,fun b off h=>by cases h⟩
   (repeat (first|(with_reducible exact y.out)|refine Below.setCell ?_ (by simp) _|refine Below.alloc ?_ (by simp) _|refine Below.drew ?_|refine below_drewN ?_ _))
  ·rw[if_neg h5]at g
   rw[if_pos g]at o
   have d: ∀i,bnum l a 1 6 i=u8 (bodyL l a) (8*i):=fun i=>(s i).trans (if_pos g)
   rw[o,g]
   have HU:=yH fun(i:Nat) (z:Int) (B:Option Addr) (m cb:Nat) (W:World) (hB:Bytes W B (bodyL l a)) (hm:(bodyL l a).length=m) (ad:m≤1000000) (hz:z=((8*i:Nat):Int)) (hi:8*i+8≤m)=>hz▸(d i).symm▸aIJ B (bodyL l a) m cb (8*i) W hB hm ad hi
   have H5:=yH h5
   clear o s d hb hL h1 ae g p h5
   go_enter Tryz.func103,Tryz.ntmps103
   go_upto_region 6 with(go_at_call 153;(with_reducible refine ac.out.mono ?_);rintro e w2 ⟨m,hm,B,cb,rfl,f,M,ao,ad,al,q⟩;have c:=yH (R0.out.below f R0.out.lt);have R:=c.out.cell (i:=0) rfl;have L:=c.out.cell (i:=1) rfl;have D:=c.out.cell (i:=2) rfl;have E:=c.out.cell (i:=3) rfl;have Z:=c.out.cell (i:=4) rfl;have aa:=c.out.cell (i:=5) rfl;have X:=c.out.cell (i:=6) rfl;have I:=c.out.frozen 0;have V:=c.out.frozen 1;have H:=c.out.frozen 2;have F:=c.out.frozen 3;have N:=c.out.frozen 4;have J:=c.out.frozen 5;have Y:=c.out.frozen 6;have y:=yH (b0.out.trans (f.mono b0.out.size));have D1:=yH M;have G:=yH hm;have ai: ¬m≤48:=fun h=>H5.out (by rw[hm];omega);have k:=yH q;clear f M q hm)
   have au:48≤m:=by omega
   have hcut: ∀W:World,(Instr.slice 24 (.slice B m cb) (some (.int .i64 48)) none none).run Tryz.prog W= .ok (.slice (cutA B cb 48) (m-48) (cb-48)) W:=fun W:World=>aJC B m cb 48 (by omega) W
   have HC:=yH (Bytes.cut D1.out cb 48 (m-48) (by rw[G.out];omega))
   rw[List.take_of_length_le (Nat.le_of_eq (by rw[List.length_drop,G.out]))]at HC
   have aj:=yH (show ∀b off,cutA B cb 48=some ⟨b,off,none⟩→b≠w.heap.size from fun b off e hh=>by have h1:=aG1 k.out e;have r:=R0.out.lt;omega)
   have ah:=yH (show Cap w.heap.size (cutA B cb 48) (m-48) (cb-48)from⟨by omega,by omega,by omega,fun b off e=>by have h1:=aG1 k.out e;have r:=R0.out.lt;omega⟩)
   clear k
   have k:=aj
   clear aj
   generalize cutA B cb 48=C at*
   have a0:=yH (show ∀j,j<7→w2.drew.frozen? ⟨w.heap.size,j,none⟩=false from fun j _=>c.out.frozen j)
   go_region_held3 (fun w'=>True) (first|(with_reducible exact trivial)) (first
    |(go_at_call 94;(first|(with_reducible refine(HU.out 0 0 _ _ _ _ D1.out.drew G.out (by omega) rfl (by omega)).mono ?_)|(with_reducible refine(HU.out 1 8 _ _ _ _ D1.out.drew G.out (by omega) rfl (by omega)).mono ?_)|(with_reducible refine(HU.out 2 16 _ _ _ _ D1.out.drew G.out (by omega) rfl (by omega)).mono ?_)|(with_reducible refine(HU.out 3 24 _ _ _ _ D1.out.drew G.out (by omega) rfl (by omega)).mono ?_)|(with_reducible refine(HU.out 4 32 _ _ _ _ D1.out.drew G.out (by omega) rfl (by omega)).mono ?_)|(with_reducible refine(HU.out 5 40 _ _ _ _ D1.out.drew G.out (by omega) rfl (by omega)).mono ?_));rintro e w' ⟨rfl,rfl⟩))
   obtain⟨W4,t⟩: ∃x,x=((((((((w2.setCell ⟨w.heap.size,0,none⟩ (.int .u64 (bnum l a 1 6 0))).setCell ⟨w.heap.size,1,none⟩ (.int .u64 (bnum l a 1 6 1))).setCell ⟨w.heap.size,2,none⟩ (.int .u64 (bnum l a 1 6 2))).setCell ⟨w.heap.size,3,none⟩ (.int .u64 (bnum l a 1 6 3))).setCell ⟨w.heap.size,4,none⟩ (.int .u64 (bnum l a 1 6 4))).setCell ⟨w.heap.size,5,none⟩ (.int .u64 (bnum l a 1 6 5))).setCell ⟨w.heap.size,6,none⟩ (.slice C (m-48) (cb-48)))).drew:=⟨_,rfl⟩
   have R4:Hid (Blk W4 w.heap.size [.int .u64 (bnum l a 1 6 0),.int .u64 (bnum l a 1 6 1),.int .u64 (bnum l a 1 6 2),.int .u64 (bnum l a 1 6 3),.int .u64 (bnum l a 1 6 4),.int .u64 (bnum l a 1 6 5),.slice C (m-48) (cb-48)] 110):=yH (t▸(Blk.drew (((((((c.out.set_ 0 _).set_ 1 _).set_ 2 _).set_ 3 _).set_ 4 _).set_ 5 _).set_ 6 _)))
   have ap:Hid (Below w.heap.size w W4):=yH (t▸(Below.drew (Below.setCell (Below.setCell (Below.setCell (Below.setCell (Below.setCell (Below.setCell (Below.setCell y.out (yR _) _) (yR _) _) (yR _) _) (yR _) _) (yR _) _) (yR _) _) (yR _) _)))
   have aq:Hid (Bytes W4 C _):=yH (t▸(Bytes.drew (aAx (aAx (aAx (aAx (aAx (aAx (aAx HC.out k.out _ _) k.out _ _) k.out _ _) k.out _ _) k.out _ _) k.out _ _) k.out _ _)))
   rw[←t]
   have e0:=R4.out.cell (i:=0) rfl;have e1:=R4.out.cell (i:=1) rfl;have e2:=R4.out.cell (i:=2) rfl;have e3:=R4.out.cell (i:=3) rfl;have e4:=R4.out.cell (i:=4) rfl;have e5:=R4.out.cell (i:=5) rfl;have e6:=R4.out.cell (i:=6) rfl
   clear t
   go_wp2
   refine bodyPost_ret (v:= .tuple #[dataV (bnum l a 1 6 0) (bnum l a 1 6 1) (bnum l a 1 6 2) (bnum l a 1 6 3) (bnum l a 1 6 4) (bnum l a 1 6 5) C (m-48) (cb-48),.int .i64 0]) (by simp[results_cell_tmp Tryz.results103,go_sem,e0,e1,e2,e3,e4,e5,e6,Result.andThen]) rfl ⟨C,m-48,(cb-48),rfl,ap.out,aq.out,by rw[List.length_drop,G.out],ah.out⟩
end Ol7
namespace Gc
open Bytes8 Blk8 Own8 Ob Ga Gb
abbrev idsV (g:Nat):Value:= .agg #[.pointer (some ⟨g,3,none⟩),.pointer (some ⟨g,19,none⟩),.pointer (some ⟨g,35,none⟩),.pointer (some ⟨g,51,none⟩)]
abbrev numsV (g:Nat):Value:= .agg #[.pointer (some ⟨g,67,none⟩),.pointer (some ⟨g,68,none⟩),.pointer (some ⟨g,69,none⟩),.pointer (some ⟨g,70,none⟩),.pointer (some ⟨g,71,none⟩),.pointer (some ⟨g,72,none⟩),.pointer (some ⟨g,73,none⟩),.pointer (some ⟨g,74,none⟩),.pointer (some ⟨g,75,none⟩),.pointer (some ⟨g,76,none⟩),.pointer (some ⟨g,77,none⟩),.pointer (some ⟨g,78,none⟩),.pointer (some ⟨g,79,none⟩),.pointer (some ⟨g,80,none⟩),.pointer (some ⟨g,81,none⟩),.pointer (some ⟨g,82,none⟩),.pointer (some ⟨g,83,none⟩),.pointer (some ⟨g,84,none⟩),.pointer (some ⟨g,85,none⟩),.pointer (some ⟨g,86,none⟩),.pointer (some ⟨g,87,none⟩)]
theorem nums_one (g:Nat):(#[.pointer (some ⟨g,67,none⟩),.pointer (some ⟨g,68,none⟩),.pointer (some ⟨g,69,none⟩),.pointer (some ⟨g,70,none⟩),.pointer (some ⟨g,71,none⟩),.pointer (some ⟨g,72,none⟩),.pointer (some ⟨g,73,none⟩),.pointer (some ⟨g,74,none⟩),.pointer (some ⟨g,75,none⟩),.pointer (some ⟨g,76,none⟩),.pointer (some ⟨g,77,none⟩),.pointer (some ⟨g,78,none⟩),.pointer (some ⟨g,79,none⟩),.pointer (some ⟨g,80,none⟩),.pointer (some ⟨g,81,none⟩),.pointer (some ⟨g,82,none⟩),.pointer (some ⟨g,83,none⟩),.pointer (some ⟨g,84,none⟩),.pointer (some ⟨g,85,none⟩),.pointer (some ⟨g,86,none⟩),.pointer (some ⟨g,87,none⟩)]:Array Value).all (·.oneCell')=true:=by simp[Value.oneCell']
theorem aQi:(Tryz.prog.info? 130).map (·.size)=some 4:=by kernel_rfl
theorem aL6:(Tryz.prog.info? 134).map (·.size)=some 21:=by kernel_rfl
theorem aPu (g:Nat)(w:World):
 Calls Tryz.prog 53 #[.pointer (some ⟨g,0,none⟩)] w fun e w'=>e= .returned (idsV g)∧Below w.heap.size w w':=by
 go_enter Tryz.func53,Tryz.ntmps53
 go_wp2
 go_region
 all_goals
  go_wp2
  refine bodyPost_ret (v:=idsV g) (by exact results_cell_row Tryz.results53 _ _ w.heap.size 130 _ (0,0) _ rfl (heap_alloc_new w _) Tryz.underlying130 rfl aQi) rfl ?_
  exact⟨rfl,((Below.refl w.heap.size w).alloc (yR _) _).drew⟩
theorem aL7 (g:Nat)(w:World):
 Calls Tryz.prog 54 #[.pointer (some ⟨g,0,none⟩)] w fun e w'=>e= .returned (numsV g)∧Below w.heap.size w w':=by
 go_enter Tryz.func54,Tryz.ntmps54
 go_wp2
 have a:=yH (heap_alloc_new w (.cells #[.pointer none,.pointer none,.pointer none,.pointer none,.pointer none,.pointer none,.pointer none,.pointer none,.pointer none,.pointer none,.pointer none,.pointer none,.pointer none,.pointer none,.pointer none,.pointer none,.pointer none,.pointer none,.pointer none,.pointer none,.pointer none] 134))
 have b:=yH ((Below.refl w.heap.size w).alloc (yR _) (.cells #[.pointer none,.pointer none,.pointer none,.pointer none,.pointer none,.pointer none,.pointer none,.pointer none,.pointer none,.pointer none,.pointer none,.pointer none,.pointer none,.pointer none,.pointer none,.pointer none,.pointer none,.pointer none,.pointer none,.pointer none,.pointer none] 134))
 generalize w.alloc (.cells #[.pointer none,.pointer none,.pointer none,.pointer none,.pointer none,.pointer none,.pointer none,.pointer none,.pointer none,.pointer none,.pointer none,.pointer none,.pointer none,.pointer none,.pointer none,.pointer none,.pointer none,.pointer none,.pointer none,.pointer none,.pointer none] 134)=w1 at*
 refine wp_region_still_tail 63 (by kernel_rfl) (by kernel_rfl) ?_
 simp only[List.append_eq,List.cons_append,List.nil_append,List.take_succ_cons,List.take_zero,List.drop_succ_cons,List.drop_zero]
 repeat still_step
 try refine wpStill_nil ?_
 change wpList _ _ _ _ _ w1.drew
 go_wp2_with(first
  |((with_reducible apply aAb 66);refine wpList_build_as rfl 134 _ rfl #[.pointer (some ⟨g,67,none⟩),.pointer (some ⟨g,68,none⟩),.pointer (some ⟨g,69,none⟩),.pointer (some ⟨g,70,none⟩),.pointer (some ⟨g,71,none⟩),.pointer (some ⟨g,72,none⟩),.pointer (some ⟨g,73,none⟩),.pointer (some ⟨g,74,none⟩),.pointer (some ⟨g,75,none⟩),.pointer (some ⟨g,76,none⟩),.pointer (some ⟨g,77,none⟩),.pointer (some ⟨g,78,none⟩),.pointer (some ⟨g,79,none⟩),.pointer (some ⟨g,80,none⟩),.pointer (some ⟨g,81,none⟩),.pointer (some ⟨g,82,none⟩),.pointer (some ⟨g,83,none⟩),.pointer (some ⟨g,84,none⟩),.pointer (some ⟨g,85,none⟩),.pointer (some ⟨g,86,none⟩),.pointer (some ⟨g,87,none⟩)] (by kernel_rfl) ?_)
  |((with_reducible apply aAa (.tmp 2) (.tmp 66));refine wpList_store_row rfl 134 (.tmp 2) (.tmp 66) rfl w.heap.size #[.pointer (some ⟨g,67,none⟩),.pointer (some ⟨g,68,none⟩),.pointer (some ⟨g,69,none⟩),.pointer (some ⟨g,70,none⟩),.pointer (some ⟨g,71,none⟩),.pointer (some ⟨g,72,none⟩),.pointer (some ⟨g,73,none⟩),.pointer (some ⟨g,74,none⟩),.pointer (some ⟨g,75,none⟩),.pointer (some ⟨g,76,none⟩),.pointer (some ⟨g,77,none⟩),.pointer (some ⟨g,78,none⟩),.pointer (some ⟨g,79,none⟩),.pointer (some ⟨g,80,none⟩),.pointer (some ⟨g,81,none⟩),.pointer (some ⟨g,82,none⟩),.pointer (some ⟨g,83,none⟩),.pointer (some ⟨g,84,none⟩),.pointer (some ⟨g,85,none⟩),.pointer (some ⟨g,86,none⟩),.pointer (some ⟨g,87,none⟩)] rfl rfl 134 #[.pointer none,.pointer none,.pointer none,.pointer none,.pointer none,.pointer none,.pointer none,.pointer none,.pointer none,.pointer none,.pointer none,.pointer none,.pointer none,.pointer none,.pointer none,.pointer none,.pointer none,.pointer none,.pointer none,.pointer none,.pointer none] a.out aL6 rfl (nums_one g) ?_))
 refine bodyPost_ret (v:=numsV g) (by exact results_cell_row Tryz.results54 _ _ w.heap.size 134 _ (0,0) _ rfl (setRow_heap _ w.heap.size _ _ _ (0,0) a.out) Tryz.underlying134 rfl aL6) rfl ?_
 exact⟨rfl,below_setRow b.out.drew (yR _) _⟩
end Gc
end Go.Proofs.YtlelnfokffflnaaGreat
