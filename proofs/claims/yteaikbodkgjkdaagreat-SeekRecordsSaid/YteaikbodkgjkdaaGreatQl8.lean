/-
  Texts beneath.
-/
import Derived.StillTailTactics
import Derived.Test.YteaikbodkgjkdaaGreatQl6
set_option linter.unusedVariables false
set_option linter.unusedSimpArgs false
set_option maxRecDepth 100000
set_option maxHeartbeats 4000000
open Go.ChangeShapes Go.WideShapes Go.ChangeAt Go.RowKit
namespace Go.Proofs.YteaikbodkgjkdaaGreat
namespace Ok7
open Bytes8 Blk8 Own8 OwnM OwnE Ob Oc Od Oi Oj
theorem number_any (A:Option Addr)(l:List Int)(n a i:Nat)(w:World)(b:Bytes w A l)(c:l.length=n)(f:n≤1000000)(g:8*i+8≤n):
 Calls Tryz.prog 219 #[.slice A n a,.int .i64 (i:Int)] w fun e w'=>e= .returned (.int .u64 (u8 l (8*i)))∧w=w':=by
 have d:=yH fun(z:Int) (hz:z=((8*i:Nat):Int))=>get8 A l n a (8*i) z w hz c f b (by omega)
 generalize u8 l (8*i)=x at*
 clear b c
 go_enter Tryz.func219,Tryz.ntmps219
 go_wp2_with(go_at_call 183;(with_reducible refine(d.out _ (by omega)).mono ?_);rintro e w' ⟨rfl,rfl⟩)
 go_ret
 exact⟨rfl,rfl⟩
theorem aAx {w:World}{A:Option Addr}{l:List Int}{g:Nat}(h:Bytes w A l)(f: ∀b a,A=some ⟨b,a,none⟩→b≠g)(i:Nat)(v:Value):Bytes (w.setCell ⟨g,i,none⟩ v) A l:=by
 refine⟨h.1,fun j hj=>?_⟩
 obtain⟨b,a,e,d,c⟩:=h.2 j hj
 refine⟨b,a,e,by simpa using d,?_⟩
 rw[World.cell?_of_block (Below.heap_setCell w ⟨g,i,none⟩ v b (f b a e))]
 exact c
def Cap (B:Nat)(A:Option Addr)(m c:Nat):Prop:=m≤1000000∧m≤c∧c≤maxLen∧ ∀b off,A=some ⟨b,off,none⟩→B≤b
theorem Cap.mono {B C:Nat}{A:Option Addr}{m c:Nat}(h:Cap B A m c)(a:C≤B):Cap C A m c:=⟨h.1,h.2.1,h.2.2.1,fun b off e=>Nat.le_trans a (h.2.2.2 b off e)⟩
theorem aGZ (A:Option Addr)(l:List Int)(len k:Nat)(w:World)(p:Bytes w A l)(q:l.length=len)(m:len≤1000000):
 Calls Tryz.prog 82 #[.slice A len k] w fun e w'=> ∃j o,e= .returned (.slice j len o)∧Bytes w' j l∧Below w.heap.size w w'∧Cap w.heap.size j len o:=by
 have v: ∀(w:World) (a:Option Addr) (n c n' c':Nat),(binOp .eql 26 (.slice a n c) (.slice none n' c')).run Tryz.prog w= .ok (.bool a.isNone) w:=fun w a n c n' c'=>Lib.run_eql_slice_nil w _ _ a n c n' c' Tryz.underlying26
 cases A with
 |none=>
  have s:l=[]:=by
   rcases l with _|⟨x,r⟩
   ·rfl
   ·obtain⟨b,i,e,_⟩:=p.2 0 (by simp)
    cases e
  subst s
  obtain rfl:len=0:=by simpa using q.symm
  clear p q
  go_enter Tryz.func82,Tryz.ntmps82
  go_wp2
  go_ret
  exact⟨none,0,rfl,Bytes.nil _ _,yB _ _,by decide,by decide,by decide,fun b i h=>by cases h⟩
 |some a=>
  have u:=yH (p.below ((yB w.heap.size w).alloc (yR _) (.cells #[] 5)) (yR _))
  have t:=yH q
  clear p q
  go_enter Tryz.func82,Tryz.ntmps82
  go_wp2_with(at_builtin;refine aAd rfl (.tmp 5) (.tmp 6) rfl w.heap.size _ 0 0 [] rfl (Own.made w _ (yR _)) (some a) len k l rfl u.out t.out (by omega) ?_;intro j o w2 g f;rw[Nat.zero_add,List.nil_append]at g;rw[Nat.zero_add];have d:=yH g;clear g)
  go_ret
  refine⟨j,o,rfl,d.out.bytes,((yB _ _).alloc (yR _) _).trans f,m,(aBs d.out).1,(aBs d.out).2,fun b i h=>?_⟩
  subst h
  exact(d.out.lt b rfl).1
def DataTold2 (l:List Int)(a:Nat)(w:World)(e:Ending)(w':World):Prop:=
 ∃A m c,e= .returned (.tuple #[dataV (bnum l a 1 6 0) (bnum l a 1 6 1) (bnum l a 1 6 2) (bnum l a 1 6 3) (bnum l a 1 6 4) (bnum l a 1 6 5) A m c,.int .i64 (bcode l a 1 6)])∧Below w.heap.size w w'∧Bytes w' A (bpay l a 1 6)∧(bpay l a 1 6).length=m∧Cap w.heap.size A m c
theorem aJW (A:Option Addr)(l:List Int)(n y a:Nat)(w:World)(hb:Bytes w A l)(hL:l.length=n)(hn:n≤1000000)(hc:n≤y)(ah:y≤maxLen)(ha:a≤18446744073709551615):
 Calls Tryz.prog 203 #[.slice A n y,.int .u64 (a:Int)] w (DataTold2 l a w):=by
 have b0:=yH ((yB w.heap.size w).alloc (yR _) (.cells #[.int .u64 0,.int .u64 0,.int .u64 0,.int .u64 0,.int .u64 0,.int .u64 0,.slice none 0 0] 238))
 have R0:=yH (Blk.new w [.int .u64 0,.int .u64 0,.int .u64 0,.int .u64 0,.int .u64 0,.int .u64 0,.slice none 0 0] 238)
 have u:=yH (aL0 A l n y a 6 1 6 (w.alloc (.cells #[.int .u64 0,.int .u64 0,.int .u64 0,.int .u64 0,.int .u64 0,.int .u64 0,.slice none 0 0] 238)) (hb.below b0.out (yR _)) hL hn hc ah ha (by decide) rfl)
 unfold Bodied at u
 have D: ∀i,bnum l a 1 6 i=if bcode l a 1 6=0 then u8 (bodyL l a) (8*i)else 0:=fun i=>rfl
 have p:bpay l a 1 6=if bcode l a 1 6=0 then(bodyL l a).drop (8*6)else []:=rfl
 unfold DataTold2
 by_cases h1:bcode l a 1 6≠0
 ·rw[if_neg h1]at p
  have f: ∀i,bnum l a 1 6 i=0:=fun i=>(D i).trans (if_neg h1)
  rw[p,f 0,f 1,f 2,f 3,f 4,f 5]
  clear p D f hb hL
  generalize bcode l a 1 6=cd at*
  generalize bodyL l a=bd at*
  go_enter Tryz.func203,Tryz.ntmps203
  go_wp2_with(go_at_call 218;(with_reducible refine u.out.mono ?_);rintro e w2 ⟨B,m,cb,rfl,d,_⟩;have c:=yH (R0.out.below d R0.out.lt);have Y:=c.out.cell (i:=0) rfl;have X:=c.out.cell (i:=1) rfl;have ae:=c.out.cell (i:=2) rfl;have V:=c.out.cell (i:=3) rfl;have L:=c.out.cell (i:=4) rfl;have N:=c.out.cell (i:=5) rfl;have J:=c.out.cell (i:=6) rfl;have I:=c.out.frozen 0;have aa:=c.out.frozen 1;have M:=c.out.frozen 2;have ad:=c.out.frozen 3;have ag:=c.out.frozen 4;have ab:=c.out.frozen 5;have ac:=c.out.frozen 6;have s:=yH (b0.out.trans (d.mono b0.out.size));clear d)
  refine bodyPost_ret (v:= .tuple #[dataV 0 0 0 0 0 0 none 0 0,.int .i64 cd]) (by simp[results_cell_tmp Tryz.results203,go_sem,Y,I,X,aa,ae,M,V,ad,L,ag,N,ab,J,ac,Result.andThen]) rfl ⟨none,0,0,rfl,?_,Bytes.nil _ _,rfl,by decide,by decide,by decide,fun b off h=>by cases h⟩
  (repeat (first|(with_reducible exact s.out)|refine Below.setCell ?_ (by simp) _|refine Below.alloc ?_ (by simp) _|refine Below.drew ?_|refine below_drewN ?_ _))
 ·have h0:bcode l a 1 6=0:=by omega
  rw[if_pos h0]at p
  have f: ∀i,bnum l a 1 6 i=u8 (bodyL l a) (8*i):=fun i=>(D i).trans (if_pos h0)
  rw[h0]at u⊢
  rw[p]
  have o:=yH fun(i:Nat) (z:Int) (B:Option Addr) (m cb:Nat) (W:World) (hB:Bytes W B (bodyL l a)) (hm:(bodyL l a).length=m) (hm2:m≤1000000) (hz:z=(i:Int)) (hi:8*i+8≤m)=>hz▸(f i).symm▸number_any B (bodyL l a) m cb i W hB hm hm2 hi
  have av:=yH fun(m:Nat) (hm:(bodyL l a).length=m)=>show((bodyL l a).drop (8*6)).length=m-48 by rw[List.length_drop,hm]
  clear p D f hb hL h1 h0
  go_enter Tryz.func203,Tryz.ntmps203
  go_upto_region 4 with(go_at_call 218;(with_reducible refine u.out.mono ?_);rintro e w2 ⟨B,m,cb,rfl,d,Z⟩)
  have c:=yH (R0.out.below d R0.out.lt)
  have Y:=c.out.cell (i:=0) rfl
  have X:=c.out.cell (i:=1) rfl
  have ae:=c.out.cell (i:=2) rfl
  have V:=c.out.cell (i:=3) rfl
  have L:=c.out.cell (i:=4) rfl
  have N:=c.out.cell (i:=5) rfl
  have J:=c.out.cell (i:=6) rfl
  have I:=c.out.frozen 0
  have aa:=c.out.frozen 1
  have M:=c.out.frozen 2
  have ad:=c.out.frozen 3
  have ag:=c.out.frozen 4
  have ab:=c.out.frozen 5
  have ac:=c.out.frozen 6
  have s:=yH (b0.out.trans (d.mono b0.out.size))
  obtain⟨d1,d2,d3,d4,d5,d6⟩:=Z (by first|rfl|trivial)
  have E:=yH d1
  have t:=yH d2
  clear d1 d2 d Z
  have aE:48<m:=by omega
  have ar:48≤m:=by omega
  have hcut: ∀W:World,(Instr.slice 26 (.slice B m cb) (some (.int .i64 48)) none none).run Tryz.prog W= .ok (.slice (cutA B cb 48) (m-48) (cb-48)) W:=fun W:World=>aJA B m cb 48 (by omega) W
  have HC:=yH (Bytes.cut E.out cb 48 (m-48) (by rw[t.out];omega))
  rw[List.take_of_length_le (Nat.le_of_eq (by rw[List.length_drop,t.out]))]at HC
  generalize cutA B cb 48=C at*
  go_region_held3 (fun w'=>True) (first|(with_reducible exact trivial)) (first
   |(go_at_call 219;(first|(with_reducible refine(o.out 0 0 _ _ _ _ E.out.drew t.out (by omega) rfl (by omega)).mono ?_)|(with_reducible refine(o.out 1 1 _ _ _ _ E.out.drew t.out (by omega) rfl (by omega)).mono ?_)|(with_reducible refine(o.out 2 2 _ _ _ _ E.out.drew t.out (by omega) rfl (by omega)).mono ?_)|(with_reducible refine(o.out 3 3 _ _ _ _ E.out.drew t.out (by omega) rfl (by omega)).mono ?_)|(with_reducible refine(o.out 4 4 _ _ _ _ E.out.drew t.out (by omega) rfl (by omega)).mono ?_)|(with_reducible refine(o.out 5 5 _ _ _ _ E.out.drew t.out (by omega) rfl (by omega)).mono ?_));rintro e w' ⟨rfl,rfl⟩)
   |(go_at_call 82;(with_reducible refine(aGZ C _ (m-48) (cb-48) _ HC.out.drew (by rw[List.length_drop,t.out]) (by omega)).mono ?_);rintro e w3 ⟨H,c3,rfl,af,k,q⟩;have ak:=q.2.2.2;have R:=yH (q.mono s.out.size);have ai:=yH af;have j:=yH (show ∀b off,H=some ⟨b,off,none⟩→b≠w.heap.size from fun b off e hh=>by have h1:=ak b off e;have h2:=c.out.lt;have h3:w2.drew.heap.size=w2.heap.size:=rfl;omega);have G:=yH (s.out.drew.trans (k.mono s.out.size));have g:=yH (c.out.drew.below k c.out.lt);have ay:=g.out.cell (i:=0) rfl;have ap:=g.out.cell (i:=1) rfl;have ax:=g.out.cell (i:=2) rfl;have aC:=g.out.cell (i:=3) rfl;have az:=g.out.cell (i:=4) rfl;have an:=g.out.cell (i:=5) rfl;have aw:=g.out.cell (i:=6) rfl;have aA:=g.out.frozen 0;have aD:=g.out.frozen 1;have au:=g.out.frozen 2;have am:=g.out.frozen 3;have aq:=g.out.frozen 4;have aB:=g.out.frozen 5;have ao:=g.out.frozen 6;clear q af k))
  obtain⟨W4,r⟩: ∃x,x=(((((((w3.setCell ⟨w.heap.size,0,none⟩ (.int .u64 (bnum l a 1 6 0))).setCell ⟨w.heap.size,1,none⟩ (.int .u64 (bnum l a 1 6 1))).setCell ⟨w.heap.size,2,none⟩ (.int .u64 (bnum l a 1 6 2))).setCell ⟨w.heap.size,3,none⟩ (.int .u64 (bnum l a 1 6 3))).setCell ⟨w.heap.size,4,none⟩ (.int .u64 (bnum l a 1 6 4))).setCell ⟨w.heap.size,5,none⟩ (.int .u64 (bnum l a 1 6 5))).setCell ⟨w.heap.size,6,none⟩ (.slice H (m-48) c3)):=⟨_,rfl⟩
  have F:Hid (Blk W4 w.heap.size [.int .u64 (bnum l a 1 6 0),.int .u64 (bnum l a 1 6 1),.int .u64 (bnum l a 1 6 2),.int .u64 (bnum l a 1 6 3),.int .u64 (bnum l a 1 6 4),.int .u64 (bnum l a 1 6 5),.slice H (m-48) c3] 238):=yH (r▸(((((((g.out.set_ 0 _).set_ 1 _).set_ 2 _).set_ 3 _).set_ 4 _).set_ 5 _).set_ 6 _))
  have aj:Hid (Below w.heap.size w W4):=yH (r▸(Below.setCell (Below.setCell (Below.setCell (Below.setCell (Below.setCell (Below.setCell (Below.setCell G.out (yR _) _) (yR _) _) (yR _) _) (yR _) _) (yR _) _) (yR _) _) (yR _) _))
  have al:Hid (Bytes W4 H _):=yH (r▸(aAx (aAx (aAx (aAx (aAx (aAx (aAx ai.out j.out _ _) j.out _ _) j.out _ _) j.out _ _) j.out _ _) j.out _ _) j.out _ _))
  rw[←r]
  have e0:=F.out.cell (i:=0) rfl;have e1:=F.out.cell (i:=1) rfl;have e2:=F.out.cell (i:=2) rfl;have e3:=F.out.cell (i:=3) rfl;have e4:=F.out.cell (i:=4) rfl;have e5:=F.out.cell (i:=5) rfl;have e6:=F.out.cell (i:=6) rfl
  clear r
  go_wp2
  refine bodyPost_ret (v:= .tuple #[dataV (bnum l a 1 6 0) (bnum l a 1 6 1) (bnum l a 1 6 2) (bnum l a 1 6 3) (bnum l a 1 6 4) (bnum l a 1 6 5) H (m-48) c3,.int .i64 0]) (by simp[results_cell_tmp Tryz.results203,go_sem,e0,e1,e2,e3,e4,e5,e6,Result.andThen]) rfl ⟨H,m-48,c3,rfl,aj.out,al.out,by rw[List.length_drop,t.out],R.out⟩
end Ok7
namespace Ol7
open Bytes8 Blk8 Own8 OwnE Ob Oc Od Oi Oj Ok7
theorem aG0 {B:Option Addr}{cb f base:Nat}(h: ∀x,B=some x→base≤x.block∧x.spot=none){b a:Nat}(e:cutA B cb f=some ⟨b,a,none⟩):base≤b:=by
 unfold cutA at e
 split at e
 ·exact(h _ e).1
 ·cases B with
  |none=>cases e
  |some x=>
   obtain⟨d,c⟩:=h x rfl
   obtain⟨g,i,xs⟩:=x
   simp at c
   subst c
   rw[Option.map_some,aAV]at e
   injection e with e
   injection e with e1 e2
   subst e1
   exact d
theorem aH1 (A:Option Addr)(l:List Int)(n t a:Nat)(w:World)(hb:Bytes w A l)(hL:l.length=n)(hn:n≤1000000)(hc:n≤t)(al:t≤maxLen)(ha:a≤18446744073709551615):
 Calls Tryz.prog 141 #[.slice A n t,.int .u64 (a:Int)] w (DataTold2 l a w):=by
 have b0:=yH ((yB w.heap.size w).alloc (yR _) (.cells #[.int .u64 0,.int .u64 0,.int .u64 0,.int .u64 0,.int .u64 0,.int .u64 0,.slice none 0 0] 201))
 have R0:=yH (Blk.new w [.int .u64 0,.int .u64 0,.int .u64 0,.int .u64 0,.int .u64 0,.int .u64 0,.slice none 0 0] 201)
 have p:=yH (aGX A l n t a 1 (w.alloc (.cells #[.int .u64 0,.int .u64 0,.int .u64 0,.int .u64 0,.int .u64 0,.int .u64 0,.slice none 0 0] 201)) (hb.below b0.out (yR _)) hL hn hc al ha)
 unfold RBodyNew at p
 have g:bcode l a 1 6=if code l a≠0 then code l a else if kindL l a≠1 then 4 else if(bodyL l a).length≤8*6 then 5 else 0:=rfl
 have s: ∀i,bnum l a 1 6 i=if bcode l a 1 6=0 then u8 (bodyL l a) (8*i)else 0:=fun i=>rfl
 have o:bpay l a 1 6=if bcode l a 1 6=0 then(bodyL l a).drop (8*6)else []:=rfl
 unfold DataTold2
 by_cases h1:(if code l a≠0 then code l a else if kindL l a≠1 then 4 else 0:Int)≠0
 ·have ac:bcode l a 1 6=(if code l a≠0 then code l a else if kindL l a≠1 then 4 else 0):=by
   rw[g]
   by_cases q:code l a≠0
   ·rw[if_pos q,if_pos q]
   ·rw[if_neg q]at h1
    by_cases h3:kindL l a≠1
    ·rw[if_neg q,if_neg q,if_pos h3,if_pos h3]
    ·rw[if_neg h3]at h1;exact absurd rfl h1
  rw[←ac]at p h1
  rw[if_neg h1]at o
  have d: ∀i,bnum l a 1 6 i=0:=fun i=>(s i).trans (if_neg h1)
  rw[o,d 0,d 1,d 2,d 3,d 4,d 5]
  clear o s d hb hL g ac
  generalize bcode l a 1 6=cd at*
  generalize bodyL l a=bd at*
  go_enter Tryz.func141,Tryz.ntmps141
  go_wp2_with(go_at_call 160;(with_reducible refine p.out.mono ?_);rintro e w2 ⟨B,m,cb,rfl,f,aj⟩;have c:=yH (R0.out.below f R0.out.lt);have M:=c.out.cell (i:=0) rfl;have L:=c.out.cell (i:=1) rfl;have Z:=c.out.cell (i:=2) rfl;have J:=c.out.cell (i:=3) rfl;have F:=c.out.cell (i:=4) rfl;have H:=c.out.cell (i:=5) rfl;have E:=c.out.cell (i:=6) rfl;have D:=c.out.frozen 0;have N:=c.out.frozen 1;have G:=c.out.frozen 2;have X:=c.out.frozen 3;have aa:=c.out.frozen 4;have R:=c.out.frozen 5;have V:=c.out.frozen 6;have y:=yH (b0.out.trans (f.mono b0.out.size));have au:=yH aj;clear aj f)
  refine bodyPost_ret (v:= .tuple #[dataV 0 0 0 0 0 0 none 0 0,.int .i64 cd]) (by simp[results_cell_tmp Tryz.results141,go_sem,M,D,L,N,Z,G,J,X,F,aa,H,R,E,V,Result.andThen]) rfl ⟨none,0,0,rfl,?_,Bytes.nil _ _,rfl,by decide,by decide,by decide,fun b off h=>by cases h⟩
  (repeat (first|(with_reducible exact y.out)|refine Below.setCell ?_ (by simp) _|refine Below.alloc ?_ (by simp) _|refine Below.drew ?_|refine below_drewN ?_ _))
 ·have ak:code l a=0:=by
   by_cases q:code l a≠0
   ·rw[if_pos q]at h1;exact absurd q h1
   ·omega
  have an:kindL l a=1:=by
   rw[if_neg (by omega)]at h1
   by_cases q:kindL l a≠1
   ·rw[if_pos q]at h1;exact absurd (by decide) h1
   ·omega
  have af:(if code l a≠0 then code l a else if kindL l a≠1 then 4 else 0:Int)=0:=by omega
  rw[af]at p
  rw[if_neg (by omega),if_neg (by omega)]at g
  have ab:Hid (Calls Tryz.prog 160 #[.slice A n t,.int .u64 (a:Int),.int .i64 1] (w.alloc (.cells #[.int .u64 0,.int .u64 0,.int .u64 0,.int .u64 0,.int .u64 0,.int .u64 0,.slice none 0 0] 201)) fun e w'=> ∃m:Nat,(bodyL l a).length=m∧ ∃B cb,e= .returned (.tuple #[.slice B m cb,.int .i64 0])∧Below (w.alloc (.cells #[.int .u64 0,.int .u64 0,.int .u64 0,.int .u64 0,.int .u64 0,.int .u64 0,.slice none 0 0] 201)).heap.size (w.alloc (.cells #[.int .u64 0,.int .u64 0,.int .u64 0,.int .u64 0,.int .u64 0,.int .u64 0,.slice none 0 0] 201)) w'∧Bytes w' B (bodyL l a)∧m≤cb∧cb≤maxLen∧m≤1000000∧ ∀x,B=some x→(w.alloc (.cells #[.int .u64 0,.int .u64 0,.int .u64 0,.int .u64 0,.int .u64 0,.int .u64 0,.slice none 0 0] 201)).heap.size≤x.block∧x.spot=none):=yH (p.out.mono fun e w' ⟨B,m,cb,h1,q,h3⟩=>by
   obtain⟨q1,q2,q3,q4,q5,q6⟩:=h3 ak an
   exact⟨m,q2,B,cb,h1,q,q1,q3,q4,q5,q6⟩)
  by_cases h5:(bodyL l a).length≤8*6
  ·rw[if_pos h5]at g
   have ad: ¬bcode l a 1 6=0:=by rw[g];decide
   rw[if_neg ad]at o
   have d: ∀i,bnum l a 1 6 i=0:=fun i=>(s i).trans (if_neg ad)
   rw[o,g,d 0,d 1,d 2,d 3,d 4,d 5]
   clear o s d hb hL h1 ad af g p
   generalize bodyL l a=bd at*
   go_enter Tryz.func141,Tryz.ntmps141
   go_wp2_with(go_at_call 160;(with_reducible refine ab.out.mono ?_);rintro e w2 ⟨m,hm,B,cb,rfl,f,Y,ap,ae,ao,r⟩;have c:=yH (R0.out.below f R0.out.lt);have M:=c.out.cell (i:=0) rfl;have L:=c.out.cell (i:=1) rfl;have Z:=c.out.cell (i:=2) rfl;have J:=c.out.cell (i:=3) rfl;have F:=c.out.cell (i:=4) rfl;have H:=c.out.cell (i:=5) rfl;have E:=c.out.cell (i:=6) rfl;have D:=c.out.frozen 0;have N:=c.out.frozen 1;have G:=c.out.frozen 2;have X:=c.out.frozen 3;have aa:=c.out.frozen 4;have R:=c.out.frozen 5;have V:=c.out.frozen 6;have y:=yH (b0.out.trans (f.mono b0.out.size));have ag:m≤48:=Nat.le_trans (Nat.le_of_eq hm.symm) h5;clear f Y r)
   refine bodyPost_ret (v:= .tuple #[dataV 0 0 0 0 0 0 none 0 0,.int .i64 5]) (by simp[results_cell_tmp Tryz.results141,go_sem,M,D,L,N,Z,G,J,X,F,aa,H,R,E,V,Result.andThen]) rfl ⟨none,0,0,rfl,?_,Bytes.nil _ _,rfl,by decide,by decide,by decide,fun b off h=>by cases h⟩
   (repeat (first|(with_reducible exact y.out)|refine Below.setCell ?_ (by simp) _|refine Below.alloc ?_ (by simp) _|refine Below.drew ?_|refine below_drewN ?_ _))
  ·rw[if_neg h5]at g
   rw[if_pos g]at o
   have d: ∀i,bnum l a 1 6 i=u8 (bodyL l a) (8*i):=fun i=>(s i).trans (if_pos g)
   rw[o,g]
   have HU:=yH fun(i:Nat) (z:Int) (B:Option Addr) (m cb:Nat) (W:World) (hB:Bytes W B (bodyL l a)) (hm:(bodyL l a).length=m) (ae:m≤1000000) (hz:z=((8*i:Nat):Int)) (hi:8*i+8≤m)=>hz▸(d i).symm▸aIJ B (bodyL l a) m cb (8*i) W hB hm ae hi
   have H5:=yH h5
   clear o s d hb hL h1 af g p h5
   go_enter Tryz.func141,Tryz.ntmps141
   go_upto_region 6 with(go_at_call 160;(with_reducible refine ab.out.mono ?_);rintro e w2 ⟨m,hm,B,cb,rfl,f,Y,ap,ae,ao,r⟩;have c:=yH (R0.out.below f R0.out.lt);have M:=c.out.cell (i:=0) rfl;have L:=c.out.cell (i:=1) rfl;have Z:=c.out.cell (i:=2) rfl;have J:=c.out.cell (i:=3) rfl;have F:=c.out.cell (i:=4) rfl;have H:=c.out.cell (i:=5) rfl;have E:=c.out.cell (i:=6) rfl;have D:=c.out.frozen 0;have N:=c.out.frozen 1;have G:=c.out.frozen 2;have X:=c.out.frozen 3;have aa:=c.out.frozen 4;have R:=c.out.frozen 5;have V:=c.out.frozen 6;have y:=yH (b0.out.trans (f.mono b0.out.size));have D1:=yH Y;have I:=yH hm;have ag: ¬m≤48:=fun h=>H5.out (by rw[hm];omega);have k:=yH r;clear f Y r hm)
   have ar:48≤m:=by omega
   have hcut: ∀W:World,(Instr.slice 26 (.slice B m cb) (some (.int .i64 48)) none none).run Tryz.prog W= .ok (.slice (cutA B cb 48) (m-48) (cb-48)) W:=fun W:World=>aJA B m cb 48 (by omega) W
   have HC:=yH (Bytes.cut D1.out cb 48 (m-48) (by rw[I.out];omega))
   rw[List.take_of_length_le (Nat.le_of_eq (by rw[List.length_drop,I.out]))]at HC
   have ai:=yH (show ∀b off,cutA B cb 48=some ⟨b,off,none⟩→b≠w.heap.size from fun b off e hh=>by have h1:=aG0 k.out e;have q:=R0.out.lt;omega)
   have ah:=yH (show Cap w.heap.size (cutA B cb 48) (m-48) (cb-48)from⟨by omega,by omega,by omega,fun b off e=>by have h1:=aG0 k.out e;have q:=R0.out.lt;omega⟩)
   clear k
   have k:=ai
   clear ai
   generalize cutA B cb 48=C at*
   have a0:=yH (show ∀j,j<7→w2.drew.frozen? ⟨w.heap.size,j,none⟩=false from fun j _=>c.out.frozen j)
   go_region_held3 (fun w'=>True) (first|(with_reducible exact trivial)) (first
    |(go_at_call 159;(first|(with_reducible refine(HU.out 0 0 _ _ _ _ D1.out.drew I.out (by omega) rfl (by omega)).mono ?_)|(with_reducible refine(HU.out 1 8 _ _ _ _ D1.out.drew I.out (by omega) rfl (by omega)).mono ?_)|(with_reducible refine(HU.out 2 16 _ _ _ _ D1.out.drew I.out (by omega) rfl (by omega)).mono ?_)|(with_reducible refine(HU.out 3 24 _ _ _ _ D1.out.drew I.out (by omega) rfl (by omega)).mono ?_)|(with_reducible refine(HU.out 4 32 _ _ _ _ D1.out.drew I.out (by omega) rfl (by omega)).mono ?_)|(with_reducible refine(HU.out 5 40 _ _ _ _ D1.out.drew I.out (by omega) rfl (by omega)).mono ?_));rintro e w' ⟨rfl,rfl⟩))
   obtain⟨W4,u⟩: ∃x,x=((((((((w2.setCell ⟨w.heap.size,0,none⟩ (.int .u64 (bnum l a 1 6 0))).setCell ⟨w.heap.size,1,none⟩ (.int .u64 (bnum l a 1 6 1))).setCell ⟨w.heap.size,2,none⟩ (.int .u64 (bnum l a 1 6 2))).setCell ⟨w.heap.size,3,none⟩ (.int .u64 (bnum l a 1 6 3))).setCell ⟨w.heap.size,4,none⟩ (.int .u64 (bnum l a 1 6 4))).setCell ⟨w.heap.size,5,none⟩ (.int .u64 (bnum l a 1 6 5))).setCell ⟨w.heap.size,6,none⟩ (.slice C (m-48) (cb-48)))).drew:=⟨_,rfl⟩
   have R4:Hid (Blk W4 w.heap.size [.int .u64 (bnum l a 1 6 0),.int .u64 (bnum l a 1 6 1),.int .u64 (bnum l a 1 6 2),.int .u64 (bnum l a 1 6 3),.int .u64 (bnum l a 1 6 4),.int .u64 (bnum l a 1 6 5),.slice C (m-48) (cb-48)] 201):=yH (u▸(Blk.drew (((((((c.out.set_ 0 _).set_ 1 _).set_ 2 _).set_ 3 _).set_ 4 _).set_ 5 _).set_ 6 _)))
   have am:Hid (Below w.heap.size w W4):=yH (u▸(Below.drew (Below.setCell (Below.setCell (Below.setCell (Below.setCell (Below.setCell (Below.setCell (Below.setCell y.out (yR _) _) (yR _) _) (yR _) _) (yR _) _) (yR _) _) (yR _) _) (yR _) _)))
   have aq:Hid (Bytes W4 C _):=yH (u▸(Bytes.drew (aAx (aAx (aAx (aAx (aAx (aAx (aAx HC.out k.out _ _) k.out _ _) k.out _ _) k.out _ _) k.out _ _) k.out _ _) k.out _ _)))
   rw[←u]
   have e0:=R4.out.cell (i:=0) rfl;have e1:=R4.out.cell (i:=1) rfl;have e2:=R4.out.cell (i:=2) rfl;have e3:=R4.out.cell (i:=3) rfl;have e4:=R4.out.cell (i:=4) rfl;have e5:=R4.out.cell (i:=5) rfl;have e6:=R4.out.cell (i:=6) rfl
   clear u
   go_wp2
   refine bodyPost_ret (v:= .tuple #[dataV (bnum l a 1 6 0) (bnum l a 1 6 1) (bnum l a 1 6 2) (bnum l a 1 6 3) (bnum l a 1 6 4) (bnum l a 1 6 5) C (m-48) (cb-48),.int .i64 0]) (by simp[results_cell_tmp Tryz.results141,go_sem,e0,e1,e2,e3,e4,e5,e6,Result.andThen]) rfl ⟨C,m-48,(cb-48),rfl,am.out,aq.out,by rw[List.length_drop,I.out],ah.out⟩
end Ol7
namespace Gc
open Bytes8 Blk8 Own8 Ob Ga Gb
abbrev idsV (g:Nat):Value:= .agg #[.pointer (some ⟨g,3,none⟩),.pointer (some ⟨g,19,none⟩),.pointer (some ⟨g,35,none⟩),.pointer (some ⟨g,51,none⟩)]
abbrev numsV (g:Nat):Value:= .agg #[.pointer (some ⟨g,67,none⟩),.pointer (some ⟨g,68,none⟩),.pointer (some ⟨g,69,none⟩),.pointer (some ⟨g,70,none⟩),.pointer (some ⟨g,71,none⟩),.pointer (some ⟨g,72,none⟩),.pointer (some ⟨g,73,none⟩),.pointer (some ⟨g,74,none⟩),.pointer (some ⟨g,75,none⟩),.pointer (some ⟨g,76,none⟩),.pointer (some ⟨g,77,none⟩),.pointer (some ⟨g,78,none⟩),.pointer (some ⟨g,79,none⟩),.pointer (some ⟨g,80,none⟩),.pointer (some ⟨g,81,none⟩),.pointer (some ⟨g,82,none⟩),.pointer (some ⟨g,83,none⟩),.pointer (some ⟨g,84,none⟩),.pointer (some ⟨g,85,none⟩),.pointer (some ⟨g,86,none⟩),.pointer (some ⟨g,87,none⟩)]
theorem nums_one (g:Nat):(#[.pointer (some ⟨g,67,none⟩),.pointer (some ⟨g,68,none⟩),.pointer (some ⟨g,69,none⟩),.pointer (some ⟨g,70,none⟩),.pointer (some ⟨g,71,none⟩),.pointer (some ⟨g,72,none⟩),.pointer (some ⟨g,73,none⟩),.pointer (some ⟨g,74,none⟩),.pointer (some ⟨g,75,none⟩),.pointer (some ⟨g,76,none⟩),.pointer (some ⟨g,77,none⟩),.pointer (some ⟨g,78,none⟩),.pointer (some ⟨g,79,none⟩),.pointer (some ⟨g,80,none⟩),.pointer (some ⟨g,81,none⟩),.pointer (some ⟨g,82,none⟩),.pointer (some ⟨g,83,none⟩),.pointer (some ⟨g,84,none⟩),.pointer (some ⟨g,85,none⟩),.pointer (some ⟨g,86,none⟩),.pointer (some ⟨g,87,none⟩)]:Array Value).all (·.oneCell')=true:=by simp[Value.oneCell']
theorem aQi:(Tryz.prog.info? 262).map (·.size)=some 4:=by kernel_rfl
theorem aL5:(Tryz.prog.info? 266).map (·.size)=some 21:=by kernel_rfl
theorem aPu (g:Nat)(w:World):
 Calls Tryz.prog 151 #[.pointer (some ⟨g,0,none⟩)] w fun e w'=>e= .returned (idsV g)∧Below w.heap.size w w':=by
 go_enter Tryz.func151,Tryz.ntmps151
 go_wp2
 go_region
 all_goals
  go_wp2
  refine bodyPost_ret (v:=idsV g) (by exact results_cell_row Tryz.results151 _ _ w.heap.size 262 _ (0,0) _ rfl (heap_alloc_new w _) Tryz.underlying262 rfl aQi) rfl ?_
  exact⟨rfl,((yB w.heap.size w).alloc (yR _) _).drew⟩
theorem aL6 (g:Nat)(w:World):
 Calls Tryz.prog 152 #[.pointer (some ⟨g,0,none⟩)] w fun e w'=>e= .returned (numsV g)∧Below w.heap.size w w':=by
 go_enter Tryz.func152,Tryz.ntmps152
 go_wp2
 have a:=yH (heap_alloc_new w (.cells #[.pointer none,.pointer none,.pointer none,.pointer none,.pointer none,.pointer none,.pointer none,.pointer none,.pointer none,.pointer none,.pointer none,.pointer none,.pointer none,.pointer none,.pointer none,.pointer none,.pointer none,.pointer none,.pointer none,.pointer none,.pointer none] 266))
 have b:=yH ((yB w.heap.size w).alloc (yR _) (.cells #[.pointer none,.pointer none,.pointer none,.pointer none,.pointer none,.pointer none,.pointer none,.pointer none,.pointer none,.pointer none,.pointer none,.pointer none,.pointer none,.pointer none,.pointer none,.pointer none,.pointer none,.pointer none,.pointer none,.pointer none,.pointer none] 266))
 generalize w.alloc (.cells #[.pointer none,.pointer none,.pointer none,.pointer none,.pointer none,.pointer none,.pointer none,.pointer none,.pointer none,.pointer none,.pointer none,.pointer none,.pointer none,.pointer none,.pointer none,.pointer none,.pointer none,.pointer none,.pointer none,.pointer none,.pointer none] 266)=w1 at*
 refine wp_region_still_tail 63 (by kernel_rfl) (by kernel_rfl) ?_
 simp only[List.append_eq,List.cons_append,List.nil_append,List.take_succ_cons,List.take_zero,List.drop_succ_cons,List.drop_zero]
 repeat still_step
 try refine wpStill_nil ?_
 change wpList _ _ _ _ _ w1.drew
 go_wp2_with(first
  |((with_reducible apply aAb 66);refine wpList_build_as rfl 266 _ rfl #[.pointer (some ⟨g,67,none⟩),.pointer (some ⟨g,68,none⟩),.pointer (some ⟨g,69,none⟩),.pointer (some ⟨g,70,none⟩),.pointer (some ⟨g,71,none⟩),.pointer (some ⟨g,72,none⟩),.pointer (some ⟨g,73,none⟩),.pointer (some ⟨g,74,none⟩),.pointer (some ⟨g,75,none⟩),.pointer (some ⟨g,76,none⟩),.pointer (some ⟨g,77,none⟩),.pointer (some ⟨g,78,none⟩),.pointer (some ⟨g,79,none⟩),.pointer (some ⟨g,80,none⟩),.pointer (some ⟨g,81,none⟩),.pointer (some ⟨g,82,none⟩),.pointer (some ⟨g,83,none⟩),.pointer (some ⟨g,84,none⟩),.pointer (some ⟨g,85,none⟩),.pointer (some ⟨g,86,none⟩),.pointer (some ⟨g,87,none⟩)] (by kernel_rfl) ?_)
  |((with_reducible apply aAa (.tmp 2) (.tmp 66));refine wpList_store_row rfl 266 (.tmp 2) (.tmp 66) rfl w.heap.size #[.pointer (some ⟨g,67,none⟩),.pointer (some ⟨g,68,none⟩),.pointer (some ⟨g,69,none⟩),.pointer (some ⟨g,70,none⟩),.pointer (some ⟨g,71,none⟩),.pointer (some ⟨g,72,none⟩),.pointer (some ⟨g,73,none⟩),.pointer (some ⟨g,74,none⟩),.pointer (some ⟨g,75,none⟩),.pointer (some ⟨g,76,none⟩),.pointer (some ⟨g,77,none⟩),.pointer (some ⟨g,78,none⟩),.pointer (some ⟨g,79,none⟩),.pointer (some ⟨g,80,none⟩),.pointer (some ⟨g,81,none⟩),.pointer (some ⟨g,82,none⟩),.pointer (some ⟨g,83,none⟩),.pointer (some ⟨g,84,none⟩),.pointer (some ⟨g,85,none⟩),.pointer (some ⟨g,86,none⟩),.pointer (some ⟨g,87,none⟩)] rfl rfl 266 #[.pointer none,.pointer none,.pointer none,.pointer none,.pointer none,.pointer none,.pointer none,.pointer none,.pointer none,.pointer none,.pointer none,.pointer none,.pointer none,.pointer none,.pointer none,.pointer none,.pointer none,.pointer none,.pointer none,.pointer none,.pointer none] a.out aL5 rfl (nums_one g) ?_))
 refine bodyPost_ret (v:=numsV g) (by exact results_cell_row Tryz.results152 _ _ w.heap.size 266 _ (0,0) _ rfl (setRow_heap _ w.heap.size _ _ _ (0,0) a.out) Tryz.underlying266 rfl aL5) rfl ?_
 exact⟨rfl,below_setRow b.out.drew (yR _) _⟩
end Gc
namespace Gd
open Bytes8 Ga Gb Gc
theorem index_one {P:Program}(t e:TypeId)(n:Nat)(b:Array Value)(i:Nat)(v:Value)(w:World)(g:P.underlying t=some (.array n e))(d:TypeDesc)(k:P.underlying e=some d)(p:(match d with| .struct _| .array _ _=>true|_=>false)=false)(hs:(P.info? e).map (·.size)=some 1)(j:i<n)(l:b[i]? =some v):
 (Instr.index t (.agg b) (.int .i64 (i:Int))).run P w= .ok v w:=by
 obtain⟨f,c,o⟩:=Option.map_eq_some_iff.1 hs
 have m:(0:Int)≤(i:Int)∧(i:Int)<(n:Int):=by omega
 have a:(isAgg e).run P w= .ok false w:=by
  unfold isAgg
  rw[Sem.run_bind,run_underlying k w]
  cases d<;>simp_all
 simp[Instr.index,run_underlying g,asIntOf,m,sizeOf,typeInfo,c,o,j,part,a,l]
theorem aL7 (g k:Nat)(a:k<4)(w:World):(Instr.index 262 (idsV g) (.int .i64 (k:Int))).run Tryz.prog w= .ok (.pointer (some ⟨g,3+16*k,none⟩)) w:=by
 refine index_one _ 261 4 _ k _ w Tryz.underlying262 _ Tryz.underlying261 rfl (by kernel_rfl) a ?_
 rcases k with _|_|_|_|k
 all_goals first|rfl|omega
theorem aJX (g k:Nat)(a:k<21)(w:World):(Instr.index 266 (numsV g) (.int .i64 (k:Int))).run Tryz.prog w= .ok (.pointer (some ⟨g,67+k,none⟩)) w:=by
 refine index_one _ 265 21 _ k _ w Tryz.underlying266 _ Tryz.underlying265 rfl (by kernel_rfl) a ?_
 rcases k with _|_|_|_|_|_|_|_|_|_|_|_|_|_|_|_|_|_|_|_|_|k
 all_goals first|rfl|omega
attribute [local irreducible] HD.cells wpList Code.wp
end Gd
namespace Gf
open Bytes8 Blk8 Own8 Ga Gb
def endV (h:HD):Int:=if h.N 0+h.N 1≤18446744073709551615 then h.N 0+h.N 1 else 0
def endB (h:HD):Bool:=decide (h.N 0+h.N 1≤18446744073709551615)
theorem aG1 (x y:Int)(a:0≤x)(b:0≤y)(w:World):
 (callFunc 121 #[.int .u64 x,.int .u64 y,.int .u64 0]).run Tryz.prog w= .ok (.value (.tuple #[.int .u64 ((x+y)%18446744073709551616),.int .u64 ((x+y)/18446744073709551616)])) w:=by
 have h:=run_add64 (P:=Tryz.prog) x y 0 a b (by decide) (by decide) w
 rw[Int.add_zero]at h
 rw[run_callFunc_extern Tryz.func121 (by kernel_rfl) (by kernel_rfl) (by kernel_rfl) (e:=add64Entry) (by kernel_rfl),h]
 rfl
attribute [local irreducible] HD.cells wpList Code.wp
theorem aDi (h:HD)(d:h.Ok 21)(w:World):
 Calls Tryz.prog 81 #[.agg (h.cells 21).toArray] w fun e w'=>e= .returned (.tuple #[.int .u64 (endV h),.bool (endB h)])∧Below w.heap.size w w':=by
 have b0:=yH ((yB w.heap.size w).alloc (yR _) (.cells (h.cells 21).toArray 165))
 have f:=yH (show Blk (w.alloc (.cells (h.cells 21).toArray 165)) w.heap.size (h.cells 21) 165 from Blk.new w _ _)
 obtain⟨c,g⟩:=d.N 0
 obtain⟨r0,r1⟩:=d.N 1
 have i:=HD.nums_at f.out 0 (by decide)
 have j:=HD.nums_at f.out 1 (by decide)
 by_cases a:h.N 0+h.N 1≤18446744073709551615
 ·rw[show endV h=h.N 0+h.N 1 from if_pos a,show endB h=true from decide_eq_true a]
  have b:=aG1 (h.N 0) (h.N 1) c r0
  rw[show(h.N 0+h.N 1)%18446744073709551616=h.N 0+h.N 1 by omega,show(h.N 0+h.N 1)/18446744073709551616=0 by omega]at b
  go_enter Tryz.func81,Tryz.ntmps81
  go_wp2
  go_ret2
  exact⟨rfl,b0.out⟩
 ·rw[show endV h=0 from if_neg a,show endB h=false from decide_eq_false a]
  have b:=aG1 (h.N 0) (h.N 1) c r0
  rw[show(h.N 0+h.N 1)/18446744073709551616=1 by omega]at b
  go_enter Tryz.func81,Tryz.ntmps81
  go_wp2
  go_ret2
  exact⟨rfl,b0.out⟩
theorem aI3 (h:HD)(b:h.Ok 20)(w:World):
 Calls Tryz.prog 86 #[.agg (h.cells 20).toArray] w fun e w'=>e= .returned (.tuple #[.int .u64 (endV h),.bool (endB h)])∧Below w.heap.size w w':=by
 have b0:=yH ((yB w.heap.size w).alloc (yR _) (.cells (h.cells 20).toArray 123))
 have c:=yH (show Blk (w.alloc (.cells (h.cells 20).toArray 123)) w.heap.size (h.cells 20) 123 from Blk.new w _ _)
 obtain⟨g,f⟩:=b.N 0
 obtain⟨r0,r1⟩:=b.N 1
 have i:=HD.nums_at c.out 0 (by decide)
 have j:=HD.nums_at c.out 1 (by decide)
 by_cases a:h.N 0+h.N 1≤18446744073709551615
 ·rw[show endV h=h.N 0+h.N 1 from if_pos a,show endB h=true from decide_eq_true a]
  have d: ¬18446744073709551615-h.N 0<h.N 1:=by omega
  go_enter Tryz.func86,Tryz.ntmps86
  go_wp2
  go_ret2
  exact⟨rfl,b0.out⟩
 ·rw[show endV h=0 from if_neg a,show endB h=false from decide_eq_false a]
  have d:18446744073709551615-h.N 0<h.N 1:=by omega
  go_enter Tryz.func86,Tryz.ntmps86
  go_wp2
  go_ret2
  exact⟨rfl,b0.out⟩
end Gf
end Go.Proofs.YteaikbodkgjkdaaGreat
