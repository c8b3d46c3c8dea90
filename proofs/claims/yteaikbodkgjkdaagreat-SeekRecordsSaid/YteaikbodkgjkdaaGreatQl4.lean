/-
  Texts beneath.
-/
import Derived.Lib.SliceRun
import Derived.Maps.AppendAt
import Derived.Deep.DeepMust
import Derived.Test.YteaikbodkgjkdaaGreatQl3
set_option linter.unusedVariables false
set_option linter.unusedSimpArgs false
set_option maxRecDepth 100000
set_option maxHeartbeats 4000000
open Go.ChangeShapes Go.WideShapes Go.ChangeAt Go.RowKit
namespace Go.Proofs.YteaikbodkgjkdaaGreat
namespace Oe
open Bytes8 Blk8 Own8 OwnE LeNum Ob Oc Od
theorem aLC (s:Int)(w:World)(g:Nat)(hs:0≤s∧s≤18446744073709551615)(a:w.heap.size=g):
 Calls Tryz.prog 105 #[.slice (some ⟨g,0,none⟩) 1 1] (w.alloc (.cells #[.int .u64 s] 59)) fun e w'=> ∃A c,e= .returned (.slice A 8 c)∧Own w' w.heap.size A 8 c (lowB s 8)∧Below w.heap.size w w':=by
 subst a
 have h:=aEj w.heap.size 1 1 [s] 59 (w.alloc (.cells #[.int .u64 s] 59)) (Blk.new w _ _) (fun v hv=>by simp at hv;omega) rfl (by decide)
 refine h.mono fun e w' ⟨A,c,h1,h2,h3⟩=>⟨A,c,h1,?_,((yB w.heap.size w).alloc (yR _) _).trans (h3.mono (by simp))⟩
 rw[nums_one]at h2
 exact Own.base h2 (by simp)
def sliceLen:Value→Nat
 | .slice _ n _=>n
 |_=>0
theorem aCQ (k:Int)(A:Option Addr)(l:List Int)(n q:Nat)(w:World)(h:1≤k∧k≤7)(J:Bytes w A l)(D:l.length=n)(hn:n≤1000000):
 Calls Tryz.prog 115 #[.int .i64 k,.slice A n q] w (Owned (objB k l) (16+n+padN n) w):=by
 obtain⟨k1,k7⟩:=h
 have HL:=yH D
 have V:=yH J
 have HN:=yH fun(s:Int) (W:World) (g:Nat) (hs:0≤s∧s≤18446744073709551615) (hg:W.heap.size=g)=>aLC s W g hs hg
 have HK:=yH (show AllB [k,0,0,0,0,0,0,0]from fun x hx=>by simp at hx;omega)
 have hp:=aFs n
 have R:=yH (show front k n=[k,0,0,0,0,0,0,0]++lowB (16+(n:Int)) 8 by unfold front;rw[show((16+n:Nat):Int)=16+(n:Int)by omega])
 have HO:=yH (show objB k l=front k n++(l++List.replicate (padN n) 0)by unfold objB;rw[D])
 have HP:=yH (show ∀j,j≤padN n→((16+n+j)%8=0↔j=padN n)from fun j H=>by unfold padN at H⊢;omega)
 rw[HO.out]
 generalize padN n=p at*
 clear J D
 go_enter Tryz.func115,Tryz.ntmps115
 go_wp2_with(first
  |(go_at_call 105;(with_reducible refine(HN.out _ _ _ (by omega) (by simp)).mono ?_);rintro e w3 ⟨A3,c3,rfl,m,d⟩;have B:=yH m;have i:=yH d;clear m d)
  |(at_builtin;refine aAd rfl (.tmp 14) (.tmp 20) rfl w.heap.size _ 8 8 [k,0,0,0,0,0,0,0] rfl ((aO2 (Row.new w [k,0,0,0,0,0,0,0]) HK.out (yR _) rfl (show 8≤maxLen by decide)).kept i.out (yR _)) A3 8 c3 _ rfl B.out.bytes (aAj _ _) (by omega) ?_;intro A4 c4 w4 r c;have G:=yH r;have v:=yH c;clear r c)
  |(at_builtin;refine aAd rfl (.tmp 22) (.tmp 23) rfl w.heap.size A4 16 c4 _ rfl G.out A n q l rfl (V.out.below (((yB _ _).alloc (yR _) _).trans ((i.out.mono (by simp)).trans v.out)) (yR _)) HL.out (by omega) ?_;intro Z c5 w5 o a;have I:=yH o;have z:=yH a;clear o a))
 go_loopw [5] (fun s wr=> ∃(j:Nat) (t:Option Addr) (y:Nat),j≤p∧s= .slice t (16+n+j) y∧Hid (Own wr w.heap.size t (16+n+j) y (front k n++(l++List.replicate j 0)))∧Hid (Below w.heap.size w wr)) (fun s _=>p+16+n-sliceLen s)
 case atStart=>
  refine⟨0,Z,c5,Nat.zero_le _,rfl,?_,yH (((yB _ _).alloc (yR _) _).trans ((i.out.mono (by simp)).trans (v.out.trans z.out)))⟩
  have h:=I.out
  rw[R.out,List.replicate_zero,List.append_nil]
  exact h
 case round=>
  obtain⟨j,t,y,H,rfl,M,f⟩:=hrel
  have L:=HP.out j H
  by_cases N:j<p
  ·have hm: ¬(16+n+j)%8=0:=by omega
   have C: ¬(((16+n+j:Nat):Int)%8=0):=by omega
   clear L
   go_wp2_with(at_builtin;refine aAd rfl (.tmp 29) (.tmp 30) rfl w.heap.size t (16+n+j) y _ rfl (M.out.kept ((yB _ _).alloc (yR _) _) (yR _)) (some ⟨wr.heap.size,0,none⟩) 1 1 [0] rfl (Row.bytes (Row.new wr [0]) (AllB.zeros 1)) rfl (by omega) ?_;intro Y X w7 u b;have F:=yH u;have E:=yH b;clear u b)
   go_roundw
   case rel=>
    refine⟨j+1,Y,X,by omega,rfl,?_,yH ((f.out.alloc f.out.size _).trans E.out)⟩
    have h:=F.out
    rw[List.append_assoc,List.append_assoc,show List.replicate j (0:Int)++ [0]=List.replicate (j+1) 0 by rw[List.replicate_succ']]at h
    exact h
   case measure=>simp[sliceLen];omega
  ·obtain rfl:j=p:=by omega
   have hm:(16+n+j)%8=0:=by omega
   have C:((16+n+j:Nat):Int)%8=0:=by omega
   clear L
   go_wp2
   go_ret
   exact⟨t,y,rfl,M.out,f.out⟩
end Oe
namespace Og
open Bytes8 Blk8 Own8 OwnE LeA LeB Ob Oc
theorem aGI (t:TypeId)(A:Option Addr)(len a b c:Nat)(w:World)(hs:(sizeOf (Tryz.prog.elem t)).run Tryz.prog w= .ok 1 w)(d:Tryz.prog.underlying t=some (.slice (Tryz.prog.elem t)))(f:b≤c)(e:c≤a):
 (Instr.slice t (.slice A len a) (some (.int .u64 b)) (some (.int .u64 c)) none).run Tryz.prog w= .ok (.slice (cutA A a b) (c-b) (a-b)) w:=by
 rw[run_slice_lh w t A len a d .u64 .u64 b c (by omega) (by omega) (by omega),hs]
 simp[Result.andThen,sliced,cutA]
theorem aGJ (t:TypeId)(A:Option Addr)(len a b:Nat)(w:World)(hs:(sizeOf (Tryz.prog.elem t)).run Tryz.prog w= .ok 1 w)(c:Tryz.prog.underlying t=some (.slice (Tryz.prog.elem t)))(d:b≤len):
 (Instr.slice t (.slice A len a) (some (.int .u64 b)) none none).run Tryz.prog w= .ok (.slice (cutA A a b) (len-b) (a-b)) w:=by
 rw[run_slice_l w t A len a c .u64 b (by omega) (by omega),hs]
 simp[Result.andThen,sliced,cutA]
theorem aHM (A:Option Addr)(len a b c:Nat)(L H:Int)(e:L=(b:Int))(f:H=(c:Int))(g:b≤c)(d:c≤a)(w:World):
 (Instr.slice 26 (.slice A len a) (some (.int .u64 L)) (some (.int .u64 H)) none).run Tryz.prog w= .ok (.slice (cutA A a b) (c-b) (a-b)) w:=by
 subst e f
 exact aGI _ A len a b c w (by rw[aDy];exact aDc w) (by rw[aDy];exact Tryz.underlying26) g d
theorem aOk (A:Option Addr)(len a b:Nat)(c:b≤len)(w:World):
 (Instr.slice 26 (.slice A len a) (some (.int .u64 b)) none none).run Tryz.prog w= .ok (.slice (cutA A a b) (len-b) (a-b)) w:=
 aGJ _ A len a b w (by rw[aDy];exact aDc w) (by rw[aDy];exact Tryz.underlying26) c
abbrev frV (k s:Int):Value:= .agg #[.int .i64 k,.int .i64 0,.int .u64 s]
def FrTold (k s c:Int)(w:World)(e:Ending)(w':World):Prop:=e= .returned (.tuple #[frV k s,.int .i64 c])∧Below w.heap.size w w'
theorem aP7 (a:Option Addr)(n b:Nat)(w:World)(h:n<16):
 Calls Tryz.prog 183 #[.slice a n b,.int .i64 8,.int .i64 8] w fun e w'=>e= .returned (.tuple #[.int .u64 0,.bool false])∧w=w':=
 aPR a n b 8 8 w (by omega) (by simp[fits,isW];omega)
theorem aIS (A:Option Addr)(l:List Int)(n j a:Nat)(w:World)(x:Bytes w A l)(F:l.length=n)(hn:n≤1000000)(hc:n≤j)(J:j≤maxLen)(ha:a≤18446744073709551615):
 Calls Tryz.prog 228 #[.slice A n j,.int .u64 (a:Int)] w (FrTold (kindL l a) (sizeL l a) (code l a) w):=by
 have b0:Below w.heap.size w (w.alloc (.cells #[.int .i64 0,.int .i64 0,.int .u64 0] 342)):=(yB w.heap.size w).alloc (yR _) _
 have i:=yH b0
 unfold maxLen at J
 have z:Hid (kindL l a=if code l a=0 then l.getD a 0 else 0):=yH rfl
 have y:Hid (sizeL l a=if code l a=0 then u8 l (a+8)else 0):=yH rfl
 have no: ∀c:Int,c≠0→code l a=c→kindL l a=0∧sizeL l a=0:=fun c h0 h=>⟨z.out.trans (if_neg (by omega)),y.out.trans (if_neg (by omega))⟩
 have HA:=yH x.1
 by_cases h1:a%8≠0
 ·have d:code l a=3:=by unfold code;rw[if_pos h1]
  obtain⟨o,m⟩:=no 3 (by decide) d
  rw[d,o,m]
  have N: ¬(a:Int)%8=0:=by omega
  clear x no z y d o m F h1
  go_enter Tryz.func228,Tryz.ntmps228
  go_wp2
  refine bodyPost_ret (v:= .tuple #[frV 0 0,.int .i64 3]) (by simp[results_cell_tmp Tryz.results228,go_sem,Result.andThen]) rfl ⟨rfl,?_⟩
  (repeat (first|(with_reducible exact i.out)|(with_reducible exact yB _ _)|refine Below.setCell ?_ (by simp) _|refine Below.alloc ?_ (by simp) _|refine Below.drew ?_|refine below_drewN ?_ _))
 have N:(a:Int)%8=0:=by omega
 by_cases h2:n<a+16
 ·have d:code l a=2:=by unfold code;rw[if_neg h1,if_pos (by omega)]
  obtain⟨o,m⟩:=no 2 (by decide) d
  rw[d,o,m]
  by_cases u:n<a
  ·clear x no z y d o m F h1
   go_enter Tryz.func228,Tryz.ntmps228
   go_wp2
   refine bodyPost_ret (v:= .tuple #[frV 0 0,.int .i64 2]) (by simp[results_cell_tmp Tryz.results228,go_sem,Result.andThen]) rfl ⟨rfl,?_⟩
   (repeat (first|(with_reducible exact i.out)|(with_reducible exact yB _ _)|refine Below.setCell ?_ (by simp) _|refine Below.alloc ?_ (by simp) _|refine Below.drew ?_|refine below_drewN ?_ _))
  ·have hcut:=aOk A n j a (by omega)
   have B:=yH fun(W:World)=>aP7 (cutA A j a) (n-a) (j-a) W (by omega)
   generalize cutA A j a=C at*
   clear x no z y d o m F h1
   go_enter Tryz.func228,Tryz.ntmps228
   go_wp2_with(go_at_call 183;(with_reducible refine(B.out _).mono ?_);rintro e w' ⟨rfl,rfl⟩)
   refine bodyPost_ret (v:= .tuple #[frV 0 0,.int .i64 2]) (by simp[results_cell_tmp Tryz.results228,go_sem,Result.andThen]) rfl ⟨rfl,?_⟩
   (repeat (first|(with_reducible exact i.out)|(with_reducible exact yB _ _)|refine Below.setCell ?_ (by simp) _|refine Below.alloc ?_ (by simp) _|refine Below.drew ?_|refine below_drewN ?_ _))
 obtain⟨b,G,rfl,R,q⟩:=x.spot (by omega)
 have hcut:=aOk (some ⟨b,G,none⟩) n j a (by omega)
 have D:=yH (Bytes.cut x j a (n-a) (by omega))
 rw[aCN,if_neg (by omega)]at hcut D
 have E:Hid (((l.drop a).take (n-a)).length=n-a):=yH (by simp;omega)
 have H:u8 ((l.drop a).take (n-a)) 8=u8 l (a+8):=by
  have e:(l.drop a).take (n-a)=l.drop a:=List.take_of_length_le (by simp;omega)
  unfold u8
  rw[e,List.drop_drop]
 have B:=yH fun(W:World) (h:Below w.heap.size w W)=>get8 (some ⟨b,G+a,none⟩) _ (n-a) (j-a) 8 8 W rfl E.out (by omega) (D.out.below h (yR _)) (by omega)
 rw[H]at B
 have X:=q a (by omega)
 have I:=q (a+1) (by omega)
 rw[←Nat.add_assoc]at I
 obtain⟨ad,aa⟩:=aCE x.1 (a+8)
 obtain⟨ah,ag⟩:=x.1.at_ a
 obtain⟨ab,ae⟩:=x.1.at_ (a+1)
 have g:code l a=if l.getD a 0<1∨7<l.getD a 0 then 4 else if l.getD (a+1) 0≠0 then 7 else if u8 l (a+8)<16 then 5 else if(n:Int)<a+u8 l (a+8)then 2 else 0:=by
  unfold code
  rw[if_neg h1,if_neg (by omega),F]
 have r:=yH fun(W:World)=>aJC (l.getD a 0) W
 generalize u8 l (a+8)=s at*
 generalize l.getD a 0=k at*
 generalize l.getD (a+1) 0=f at*
 have Z:a+16≤n:=by omega
 have af:0<n-a:=by omega
 have V:1<n-a:=by omega
 have ac:(1:Int)<((n-a:Nat):Int):=by omega
 have Y:b<(w.alloc (.cells #[.int .i64 0,.int .i64 0,.int .u64 0] 342)).heap.size:=by simp;omega
 clear D E x q F h1 h2 H
 by_cases u:k<1∨7<k
 ·have d:code l a=4:=by rw[g,if_pos u]
  obtain⟨o,m⟩:=no 4 (by decide) d
  rw[d,o,m]
  have p:(decide (1≤k)&&decide (k≤7))=false:=by simp;omega
  rw[p]at r
  clear p u
  clear no z y d o m g
  go_enter Tryz.func228,Tryz.ntmps228
  go_wp2_with(go_at_call 183;(with_reducible refine(B.out _ i.out).mono ?_);rintro e w' ⟨rfl,rfl⟩)
  go_region
  all_goals
   go_wp2_with(go_at_call 240;(with_reducible refine(r.out _).mono ?_);rintro e w' ⟨rfl,rfl⟩)
   refine bodyPost_ret (v:= .tuple #[frV 0 0,.int .i64 4]) (by simp[results_cell_tmp Tryz.results228,go_sem,Result.andThen]) rfl ⟨rfl,?_⟩
   (repeat (first|(with_reducible exact i.out)|(with_reducible exact yB _ _)|refine Below.setCell ?_ (by simp) _|refine Below.alloc ?_ (by simp) _|refine Below.drew ?_|refine below_drewN ?_ _))
 have p:(decide (1≤k)&&decide (k≤7))=true:=by simp;omega
 rw[p]at r
 by_cases h4:f≠0
 ·have d:code l a=7:=by rw[g,if_neg u,if_pos h4]
  obtain⟨o,m⟩:=no 7 (by decide) d
  rw[d,o,m]
  clear p u
  clear no z y d o m g
  go_enter Tryz.func228,Tryz.ntmps228
  go_wp2_with(go_at_call 183;(with_reducible refine(B.out _ i.out).mono ?_);rintro e w' ⟨rfl,rfl⟩)
  go_region
  all_goals
   go_wp2_with(go_at_call 240;(with_reducible refine(r.out _).mono ?_);rintro e w' ⟨rfl,rfl⟩)
   refine bodyPost_ret (v:= .tuple #[frV 0 0,.int .i64 7]) (by simp[results_cell_tmp Tryz.results228,go_sem,Result.andThen]) rfl ⟨rfl,?_⟩
   (repeat (first|(with_reducible exact i.out)|(with_reducible exact yB _ _)|refine Below.setCell ?_ (by simp) _|refine Below.alloc ?_ (by simp) _|refine Below.drew ?_|refine below_drewN ?_ _))
 by_cases L:s<16
 ·have d:code l a=5:=by rw[g,if_neg u,if_neg h4,if_pos L]
  obtain⟨o,m⟩:=no 5 (by decide) d
  rw[d,o,m]
  have t:f=0:=by omega
  subst t
  clear p u h4
  clear no z y d o m g
  go_enter Tryz.func228,Tryz.ntmps228
  go_wp2_with(go_at_call 183;(with_reducible refine(B.out _ i.out).mono ?_);rintro e w' ⟨rfl,rfl⟩)
  go_region
  all_goals
   go_wp2_with(go_at_call 240;(with_reducible refine(r.out _).mono ?_);rintro e w' ⟨rfl,rfl⟩)
   refine bodyPost_ret (v:= .tuple #[frV 0 0,.int .i64 5]) (by simp[results_cell_tmp Tryz.results228,go_sem,Result.andThen]) rfl ⟨rfl,?_⟩
   (repeat (first|(with_reducible exact i.out)|(with_reducible exact yB _ _)|refine Below.setCell ?_ (by simp) _|refine Below.alloc ?_ (by simp) _|refine Below.drew ?_|refine below_drewN ?_ _))
 by_cases h6:(n:Int)<a+s
 ·have d:code l a=2:=by rw[g,if_neg u,if_neg h4,if_neg L,if_pos h6]
  obtain⟨o,m⟩:=no 2 (by decide) d
  rw[d,o,m]
  have t:f=0:=by omega
  have M:((n-a:Nat):Int)<s:=by omega
  subst t
  clear p u h4 h6
  clear no z y d o m g
  go_enter Tryz.func228,Tryz.ntmps228
  go_wp2_with(go_at_call 183;(with_reducible refine(B.out _ i.out).mono ?_);rintro e w' ⟨rfl,rfl⟩)
  go_region
  all_goals
   go_wp2_with(go_at_call 240;(with_reducible refine(r.out _).mono ?_);rintro e w' ⟨rfl,rfl⟩)
   refine bodyPost_ret (v:= .tuple #[frV 0 0,.int .i64 2]) (by simp[results_cell_tmp Tryz.results228,go_sem,Result.andThen]) rfl ⟨rfl,?_⟩
   (repeat (first|(with_reducible exact i.out)|(with_reducible exact yB _ _)|refine Below.setCell ?_ (by simp) _|refine Below.alloc ?_ (by simp) _|refine Below.drew ?_|refine below_drewN ?_ _))
 ·have d:code l a=0:=by rw[g,if_neg u,if_neg h4,if_neg L,if_neg h6]
  have o:=z.out.trans (if_pos d)
  have m:=y.out.trans (if_pos d)
  rw[d,o,m]
  have t:f=0:=by omega
  have M: ¬((n-a:Nat):Int)<s:=by omega
  subst t
  clear p u h4 h6 no z y d o m g
  go_enter Tryz.func228,Tryz.ntmps228
  go_wp2_with(go_at_call 183;(with_reducible refine(B.out _ i.out).mono ?_);rintro e w' ⟨rfl,rfl⟩)
  go_region
  all_goals
   go_wp2_with(go_at_call 240;(with_reducible refine(r.out _).mono ?_);rintro e w' ⟨rfl,rfl⟩)
   refine bodyPost_ret (v:= .tuple #[frV k s,.int .i64 0]) (by simp[results_cell_tmp Tryz.results228,go_sem,Result.andThen]) rfl ⟨rfl,?_⟩
   (repeat (first|(with_reducible exact i.out)|(with_reducible exact yB _ _)|refine Below.setCell ?_ (by simp) _|refine Below.alloc ?_ (by simp) _|refine Below.drew ?_|refine below_drewN ?_ _))
end Og
namespace Gn
open Bytes8 Blk8 Own8 LeNum RefB Ob Od Rows2
def ints (f:Nat→Int)(k:Nat):List Int:=(List.range k).map f
theorem ints_succ (f:Nat→Int)(k:Nat):ints f (k+1)=ints f k++ [f k]:=by simp[ints,List.range_succ]
theorem ints_len (f:Nat→Int)(k:Nat):(ints f k).length=k:=by simp[ints]
theorem ints_nums (f:Nat→Int)(k:Nat):nums (ints f (k+1))=nums (ints f k)++lowB (f k) 8:=by rw[ints_succ,aCD]
theorem rnums_in (y:Option Addr)(n r:Nat)(f:Nat→Int)(w:World)(C:InInts .u64 w y n f)(z:n≤100000):
 Calls Tryz.prog 105 #[.slice y n r] w fun e w'=> ∃A c,e= .returned (.slice A (8*n) c)∧Own w' w.heap.size A (8*n) c (nums (ints f n))∧Below w.heap.size w w':=by
 have E:=yH C
 clear C
 go_enter Tryz.func105,Tryz.ntmps105
 go_wp2
 go_loopw [3,4] (fun s i wr=> ∃(k:Nat) (A:Option Addr) (c:Nat),k≤n∧i= .int .i64 (k:Int)∧s= .slice A (8*k) c∧Hid (Own wr w.heap.size A (8*k) c (nums (ints f k)))∧Hid (Below w.heap.size w wr)) (fun _ i _=>n-(intOf i).toNat)
 case atStart=>exact⟨0,none,0,Nat.zero_le _,rfl,rfl,Own.nil w _ (yR _),yB _ _⟩
 case round=>
  obtain⟨k,A,c,V,rfl,rfl,B,a⟩:=hrel
  by_cases m:k<n
  ·obtain⟨b,H,rfl,R,X,F⟩:=(E.out.below a.out) k m
   obtain⟨D,N⟩:=bounds_u64 F
   have J:=yH (ints_nums f k)
   have v:=a.out.size
   generalize f k=x at*
   have q:=yH fun(W:World)=>aFC x 8 8 W D N (by decide) rfl
   go_wp2_with(first|(go_at_call 104;(with_reducible refine(q.out _).mono ?_);rintro e w2 ⟨M,G,rfl,o,d⟩;have t:=yH o;have l:=yH d;clear o d)|(at_builtin;refine aAd rfl (.tmp 11) (.tmp 16) rfl w.heap.size A (8*k) c (nums (ints f k)) rfl (B.out.kept l.out (yR _)) M 8 G _ rfl t.out.bytes (aAj _ _) (by omega) ?_;intro L I w3 j g;have u:=yH j;have p:=yH g;clear j g))
   go_roundw
   case rel=>
    refine⟨k+1,L,I,by omega,by go_num,rfl,?_,yH ((a.out.trans (l.out.mono v)).trans p.out)⟩
    rw[J.out]
    exact u
   case measure=>simp[intOf];omega
  ·obtain rfl:k=n:=by omega
   go_wp2
   go_ret
   exact⟨A,c,rfl,B.out,a.out⟩
end Gn
namespace Cl8
end Cl8
namespace OwnA
open Bytes8 Own8
def ownB (A:Option Addr):Option Nat:=A.map (·.block)
theorem aCl (A:Option Addr)(n c:Nat):(Value.slice A n c).ownBlock=ownB A:=by cases A<;>rfl
theorem aNB {w w':World}{base n c:Nat}{row:Option Nat}{A:Option Addr}{l:List Int}(h:Own w base A n c l)(j:w.grownBy w' row)(d: ∀g,ownB A=some g→row≠some g):Own w' base A n c l:=by
 refine⟨h.1,h.2.1,Nat.le_trans h.2.2.1 j.size,h.2.2.2.1,?_⟩
 rcases h.2.2.2.2 with a|⟨k,i,b,a,m,f,p⟩
 ·exact .inl a
 ·refine .inr ⟨k,i,b,a,m,?_,p⟩
  have o:k<w.heap.size:=by
   rcases Nat.lt_or_ge k w.heap.size with h|h
   ·exact h
   ·rw[Array.getElem?_eq_none h]at f;cases f
  injection a with e1 e2 e3
  subst e1
  rw[j.block k o (fun e=>d k rfl e.symm)];exact f
theorem aCR (w:World)(M:TypeId)(base:Nat)(A:Option Addr)(n c:Nat)(l:List Int)(q:Own w base A n c l)(V:Option Addr)(m I:Nat)(e:List Int)(C:Bytes w V e)(N:e.length=m)(Y:n+m≤70368744177664):
 ∃a o w',(Builtin.append_ #[26,26] M #[.slice A n c,.slice V m I]).run Tryz.prog w= .ok (.slice a (n+m) o) w'∧Own w' base a (n+m) o (l++e)∧w.grownBy w' (ownB A)∧(ownB a=ownB A∨ownB a=some w.heap.size):=by
 obtain⟨i,B,y⟩:=Option.map_eq_some_iff.1 aJ3
 simp only[Prod.mk.injEq]at y
 obtain⟨X,hs,v⟩:=y
 have b:=q.2.2.2
 have r: ∀(f:Value) (w':World),w'.ownsRow base 5 1 f (n+m) (l.map (Value.int .u8)++e.map (Value.int .u8))→w.grownBy w' (Value.slice A n c).ownBlock→(f.ownBlock=(Value.slice A n c).ownBlock∨f.ownBlock=some w.heap.size)→
  ∃a o,f= .slice a (n+m) o∧Own w' base a (n+m) o (l++e)∧w.grownBy w' (ownB A)∧(ownB a=ownB A∨ownB a=some w.heap.size):=by
  intro f w' k s p
  have d:=s.size
  rw[aCl]at s p
  have F:(l++e).length=n+m:=by rw[yA,q.2.1,N]
  rw[←List.map_append]at k
  rcases k.2 with⟨rfl,h0⟩|⟨g,D,G,rfl,_⟩
  ·rw[h0]at k F⊢
   rw[aCl]at p
   exact⟨none,0,rfl,⟨q.1.app C.1,F,Nat.le_trans q.2.2.1 d,k⟩,s,p⟩
  ·rw[aCl]at p
   exact⟨_,_,rfl,⟨q.1.app C.1,F,Nat.le_trans q.2.2.1 d,k⟩,s,p⟩
 have t:(e.map (Value.int .u8)).length=m*1:=by simp[N]
 by_cases h0:0<e.length
 ·obtain⟨H,rfl,z⟩:=C.source w (yB _ _) h0
  obtain⟨f,w',L,k,s,_,p⟩:=run_append_own_at (P:=Tryz.prog) w base 26 M 5 i (.int .u8 0) 1 1 Tryz.underlying26 B X hs v rfl (by decide) _ n _ b H m I (e.map (Value.int .u8)) t
   (fun j u hu=>by
     rw[List.getElem?_map]at hu
     obtain⟨x,Z,rfl⟩:=Option.map_eq_some_iff.1 hu
     exact z j x Z) (ones e) (by unfold maxLen;omega) (by omega) q.2.2.1
  obtain⟨a,o,rfl,E⟩:=r f w' k s p
  exact⟨a,o,w',L,E⟩
 ·obtain rfl:e=[]:=List.eq_nil_of_length_eq_zero (by omega)
  obtain rfl:m=0:=by simpa using N.symm
  cases V with
  |some H=>
   obtain⟨f,w',L,k,s,_,p⟩:=run_append_own_at (P:=Tryz.prog) w base 26 M 5 i (.int .u8 0) 1 1 Tryz.underlying26 B X hs v rfl (by decide) _ n _ b H 0 I [] rfl
    (fun j u hu=>by simp at hu) (fun u hu=>by cases hu) (by unfold maxLen;omega) (by omega) q.2.2.1
   obtain⟨a,o,rfl,E⟩:=r f w' k s p
   exact⟨a,o,w',L,E⟩
  |none=>
   refine⟨A,c,w,?_,?_,World.grownBy.refl _ _,.inl rfl⟩
   ·rcases b.2 with⟨R,aa⟩|⟨g,D,G,R,_,_,J,_⟩
    ·injection R with e1 e2 e3
     subst e1;subst e2;subst e3
     simp[Builtin.append_,run_underlying Tryz.underlying26,sizeOf,typeInfo,B,Builtin.lenOf,Builtin.firstCells]
    ·injection R with e1 e2 e3
     subst e1;subst e3
     simp[Builtin.append_,run_underlying Tryz.underlying26,sizeOf,typeInfo,B,Builtin.lenOf,Builtin.firstCells,J,storeCells]
   ·rw[Nat.add_zero,List.append_nil];exact q
end OwnA
namespace Dc
open Bytes8 Blk8 Own8 OwnA OwnE
theorem aAA {E S:TypeId}{size b:Nat}{z:Value}(q:Elt E S size b z)(w:World)(y:TypeId)(base:Nat)(A:Option Addr)(n c:Nat)(xs:List Value)(p:OwnE E size w base A n c xs)(r:Addr)(m v:Nat)(a:List Value)(I:a.length=m*size)
 (e: ∀j u,a[j]? =some u→w.cell? (r.add j)=some u)(C: ∀u∈a,u.oneCell'=true)(F:n+m≤4611686018427387904)(d:(n+m)*b≤140737488355328)(t:n+m≤maxLen):
 ∃A' c' w',(Builtin.append_ #[S,S] y #[.slice A n c,.slice (some r) m v]).run Tryz.prog w= .ok (.slice A' (n+m) c') w'∧OwnE E size w' base A' (n+m) c' (xs++a)∧w.grownBy w' (ownB A)∧(ownB A'=ownB A∨ownB A'=some w.heap.size):=by
 obtain⟨i,J,l⟩:=Option.map_eq_some_iff.1 q.info
 simp only[Prod.mk.injEq]at l
 obtain⟨G,hs,s⟩:=l
 obtain⟨L,w',x,o,k,M,f⟩:=run_append_own_at (P:=Tryz.prog) w base S y E i z size b q.under J G hs s q.zero q.pos _ n xs p.2 r m v a I e C t d p.1
 rw[aCl]at k f
 rcases o.2 with⟨rfl,B⟩|⟨g,D,H,rfl,_⟩
 ·rw[B]at o⊢
  rw[aCl]at f
  exact⟨none,0,w',x,⟨Nat.le_trans p.1 k.size,o⟩,k,f⟩
 ·rw[aCl]at f
  exact⟨_,_,w',x,⟨Nat.le_trans p.1 k.size,o⟩,k,f⟩
theorem aAe {E S:TypeId}{size d:Nat}{z:Value}(J:Elt E S size d z){w:World}{i:Array Oper}{rest:List Oper}{o:Oper}{a:Act}{Q:Exit→Act→World→Prop}(l:o.guard=none)(s x:Operand)
 (p:o.op= .call {callee:= .builtin .append,args:= #[s,x],argTypes:= #[S,S]})
 (base:Nat)(A:Option Addr)(n c:Nat)(xs:List Value)(hs:a.eval s= .slice A n c)(D:OwnE E size w base A n c xs)(r:Addr)(m v:Nat)(b:List Value)(I:a.eval x= .slice (some r) m v)(F:b.length=m*size)
 (f: ∀j u,b[j]? =some u→w.cell? (r.add j)=some u)(C: ∀u∈b,u.oneCell'=true)(q:n+m≤4611686018427387904)(e:(n+m)*d≤140737488355328)(t:n+m≤maxLen)
 (h: ∀g k w',OwnE E size w' base g (n+m) k (xs++b)→w.grownBy w' (ownB A)→(ownB g=ownB A∨ownB g=some w.heap.size)→wpList Tryz.prog i Q rest (a.put o.dst (.slice g (n+m) k)) w'):wpList Tryz.prog i Q (o::rest) a w:=
 wpList_plain l fun _ hK=>by
  obtain⟨g,k,w',G,y,H,B⟩:=aAA J w o.type base A n c xs D r m v b F f C q e t
  unfold Oper.wp execOp
  simp only[p,resolve,invoke,builtin,Sem.run_bind,Sem.run_pure,Result.andThen_ok,List.map_toArray,List.map_cons,List.map_nil,hs,I,G]
  exact hK _ _ (h g k w' y H B)
theorem aCS {E S:TypeId}{size d:Nat}{z:Value}(M:Elt E S size d z){w:World}{i:Array Oper}{o:Oper}{a:Act}{K:Act→World→Prop}{Q:Exit→Act→World→Prop}{F:Prop}(l:o.guard=none)(s x:Operand)
 (p:o.op= .call {callee:= .builtin .append,args:= #[s,x],argTypes:= #[S,S]})
 (base:Nat)(A:Option Addr)(n c:Nat)(xs:List Value)(hs:a.eval s= .slice A n c)(G:OwnE E size w base A n c xs)(r:Addr)(m v:Nat)(b:List Value)(L:a.eval x= .slice (some r) m v)(H:b.length=m*size)
 (f: ∀j u,b[j]? =some u→w.cell? (r.add j)=some u)(C: ∀u∈b,u.oneCell'=true)(q:n+m≤4611686018427387904)(e:(n+m)*d≤140737488355328)(t:n+m≤maxLen)
 (h: ∀g k w',OwnE E size w' base g (n+m) k (xs++b)→w.grownBy w' (ownB A)→(ownB g=ownB A∨ownB g=some w.heap.size)→K (a.put o.dst (.slice g (n+m) k)) w'):
 if Region.wanted o (yielded i a.tmps)=true then Oper.wp Tryz.prog o a w K Q else F:=by
 have D:Region.wanted o (yielded i a.tmps)=true:=by simp[Region.wanted,l]
 rw[if_pos D]
 obtain⟨g,k,w',I,y,J,B⟩:=aAA M w o.type base A n c xs G r m v b H f C q e t
 unfold Oper.wp execOp
 simp only[p,resolve,invoke,builtin,Sem.run_bind,Sem.run_pure,Result.andThen_ok,List.map_toArray,List.map_cons,List.map_nil,hs,L,I]
 exact h g k w' y J B
theorem OwnE.keptG {E:TypeId}{size:Nat}{w w':World}{base n c:Nat}{row:Option Nat}{A:Option Addr}{xs:List Value}(h:OwnE E size w base A n c xs)(j:w.grownBy w' row)(d: ∀g,ownB A=some g→row≠some g):OwnE E size w' base A n c xs:=by
 refine⟨Nat.le_trans h.1 j.size,h.2.1,?_⟩
 rcases h.2.2 with a|⟨k,i,b,a,l,f,o⟩
 ·exact .inl a
 ·refine .inr ⟨k,i,b,a,l,?_,o⟩
  have m:k<w.heap.size:=by
   rcases Nat.lt_or_ge k w.heap.size with h|h
   ·exact h
   ·rw[Array.getElem?_eq_none h]at f;cases f
  injection a with e1 e2 e3
  subst e1
  rw[j.block k m (fun e=>d k rfl e.symm)];exact f
theorem OwnE.ltB {E:TypeId}{size:Nat}{w:World}{base n c:Nat}{A:Option Addr}{xs:List Value}(h:OwnE E size w base A n c xs): ∀g,ownB A=some g→base≤g∧g<w.heap.size:=fun g hg=>h.lt g (by rw[aCl];exact hg)
end Dc
namespace Sa
open Bytes8 Blk8 Hm Ha
theorem aGK (p q r s:Int)(w:World)(h:(⟨p,q,r,s⟩:Quad).ok):
 Calls Tryz.prog 242 #[.agg #[.int .u64 p,.int .u64 q,.int .u64 r,.int .u64 s]] w fun e w'=>e= .returned (.agg #[.int .u64 (round ⟨p,q,r,s⟩).p,.int .u64 (round ⟨p,q,r,s⟩).q,.int .u64 (round ⟨p,q,r,s⟩).r,.int .u64 (round ⟨p,q,r,s⟩).s])∧Below w.heap.size w w':=by
 obtain⟨⟨c,a⟩,⟨b,d⟩,⟨r0,r1⟩,⟨f,g⟩⟩:=h
 simp only at c a b d r0 r1 f g
 go_enter Tryz.func242,Tryz.ntmps242
 go_wp2
 go_quiet (fail)
 go_wp2_with(go_at_call 249;(with_reducible refine(aPV _ _ _ (by first|assumption|exact(b64 _ _ _).1|exact(aCq _ _).1|exact(aCp _).1|omega) (by first|assumption|exact(b64 _ _ _).2|exact(aCq _ _).2|exact(aCp _).2|omega) (by decide) (by decide)).mono ?_);rintro e w' ⟨rfl,rfl⟩)
 refine bodyPost_ret (v:= .agg #[.int .u64 (round ⟨p,q,r,s⟩).p,.int .u64 (round ⟨p,q,r,s⟩).q,.int .u64 (round ⟨p,q,r,s⟩).r,.int .u64 (round ⟨p,q,r,s⟩).s]) (by simp[results,Tryz.results242,go_sem,round,add64,xor64,IntKind.wrap_u64]) rfl ⟨rfl,?_⟩
 repeat (first|exact yB _ _|refine Below.setCell ?_ (by simp) _|refine Below.alloc ?_ (by simp) _|refine below_drewN ?_ _)
theorem aLD (f:Quad)(w:World)(h:f.ok):
 Calls Tryz.prog 242 #[.agg #[.int .u64 f.p,.int .u64 f.q,.int .u64 f.r,.int .u64 f.s]] w fun e w'=>e= .returned (.agg #[.int .u64 (round f).p,.int .u64 (round f).q,.int .u64 (round f).r,.int .u64 (round f).s])∧Below w.heap.size w w':=aGK f.p f.q f.r f.s w h
theorem aLE (p q r s m:Int)(w:World)(h:(⟨p,q,r,s⟩:Quad).ok):
 Calls Tryz.prog 241 #[.agg #[.int .u64 p,.int .u64 q,.int .u64 r,.int .u64 s],.int .u64 m] w fun e w'=>e= .returned (.agg #[.int .u64 (quadPlus ⟨p,q,r,s⟩ m).p,.int .u64 (quadPlus ⟨p,q,r,s⟩ m).q,.int .u64 (quadPlus ⟨p,q,r,s⟩ m).r,.int .u64 (quadPlus ⟨p,q,r,s⟩ m).s])∧Below w.heap.size w w':=by
 have n:=yH fun w=>aGK p q r (bits .xor .u64 s m) w ⟨h.1,h.2.1,h.2.2.1,b64 .xor s m⟩
 have l:=yH (show quadPlus ⟨p,q,r,s⟩ m=⟨xor64 (round (round ⟨p,q,r,bits .xor .u64 s m⟩)).p m,(round (round ⟨p,q,r,bits .xor .u64 s m⟩)).q,(round (round ⟨p,q,r,bits .xor .u64 s m⟩)).r,(round (round ⟨p,q,r,bits .xor .u64 s m⟩)).s⟩from rfl)
 have o:=yH (aE8 ⟨p,q,r,bits .xor .u64 s m⟩)
 generalize quadPlus ⟨p,q,r,s⟩ m=Z at*
 generalize round ⟨p,q,r,bits .xor .u64 s m⟩=X at*
 go_enter Tryz.func241,Tryz.ntmps241
 go_wp2_with(first|(go_at_call 242;(with_reducible refine(n.out _).mono ?_);rintro e w1 ⟨rfl,b⟩;have c:=b.size;simp at c)|(go_at_call 242;(with_reducible refine(aLD X _ o.out).mono ?_);rintro e w2 ⟨rfl,a⟩;have d:=a.size;have D:w2.cell? ⟨w.heap.size,0,none⟩=some (.int .u64 p):=(a.cell (p:=⟨w.heap.size,0,none⟩) (by simp;omega)).trans ((b.cell (p:=⟨w.heap.size,0,none⟩) (by simp;omega)).trans (by go_simp));have A:w2.frozen? ⟨w.heap.size,0,none⟩=false:=(a.frozen (p:=⟨w.heap.size,0,none⟩) (by simp;omega)).trans ((b.frozen (p:=⟨w.heap.size,0,none⟩) (by simp;omega)).trans (by go_simp));have i:w2.cell? ⟨w.heap.size+1,0,none⟩=some (.int .u64 0):=(a.cell (p:=⟨w.heap.size+1,0,none⟩) (by simp;omega)).trans ((b.cell (p:=⟨w.heap.size+1,0,none⟩) (by simp)).trans (by go_simp));have y:w2.frozen? ⟨w.heap.size+1,0,none⟩=false:=(a.frozen (p:=⟨w.heap.size+1,0,none⟩) (by simp;omega)).trans ((b.frozen (p:=⟨w.heap.size+1,0,none⟩) (by simp)).trans (by go_simp));have G:w2.cell? ⟨w.heap.size,1,none⟩=some (.int .u64 q):=(a.cell (p:=⟨w.heap.size,1,none⟩) (by simp;omega)).trans ((b.cell (p:=⟨w.heap.size,1,none⟩) (by simp;omega)).trans (by go_simp));have C:w2.frozen? ⟨w.heap.size,1,none⟩=false:=(a.frozen (p:=⟨w.heap.size,1,none⟩) (by simp;omega)).trans ((b.frozen (p:=⟨w.heap.size,1,none⟩) (by simp;omega)).trans (by go_simp));have k:w2.cell? ⟨w.heap.size+1,1,none⟩=some (.int .u64 0):=(a.cell (p:=⟨w.heap.size+1,1,none⟩) (by simp;omega)).trans ((b.cell (p:=⟨w.heap.size+1,1,none⟩) (by simp)).trans (by go_simp));have F:w2.frozen? ⟨w.heap.size+1,1,none⟩=false:=(a.frozen (p:=⟨w.heap.size+1,1,none⟩) (by simp;omega)).trans ((b.frozen (p:=⟨w.heap.size+1,1,none⟩) (by simp)).trans (by go_simp));have t:w2.cell? ⟨w.heap.size,2,none⟩=some (.int .u64 r):=(a.cell (p:=⟨w.heap.size,2,none⟩) (by simp;omega)).trans ((b.cell (p:=⟨w.heap.size,2,none⟩) (by simp;omega)).trans (by go_simp));have B:w2.frozen? ⟨w.heap.size,2,none⟩=false:=(a.frozen (p:=⟨w.heap.size,2,none⟩) (by simp;omega)).trans ((b.frozen (p:=⟨w.heap.size,2,none⟩) (by simp;omega)).trans (by go_simp));have f:w2.cell? ⟨w.heap.size+1,2,none⟩=some (.int .u64 0):=(a.cell (p:=⟨w.heap.size+1,2,none⟩) (by simp;omega)).trans ((b.cell (p:=⟨w.heap.size+1,2,none⟩) (by simp)).trans (by go_simp));have u:w2.frozen? ⟨w.heap.size+1,2,none⟩=false:=(a.frozen (p:=⟨w.heap.size+1,2,none⟩) (by simp;omega)).trans ((b.frozen (p:=⟨w.heap.size+1,2,none⟩) (by simp)).trans (by go_simp));have x:w2.cell? ⟨w.heap.size,3,none⟩=some (.int .u64 (bits .xor .u64 s m)):=(a.cell (p:=⟨w.heap.size,3,none⟩) (by simp;omega)).trans ((b.cell (p:=⟨w.heap.size,3,none⟩) (by simp;omega)).trans (by go_simp));have E:w2.frozen? ⟨w.heap.size,3,none⟩=false:=(a.frozen (p:=⟨w.heap.size,3,none⟩) (by simp;omega)).trans ((b.frozen (p:=⟨w.heap.size,3,none⟩) (by simp;omega)).trans (by go_simp));have g:w2.cell? ⟨w.heap.size+1,3,none⟩=some (.int .u64 0):=(a.cell (p:=⟨w.heap.size+1,3,none⟩) (by simp;omega)).trans ((b.cell (p:=⟨w.heap.size+1,3,none⟩) (by simp)).trans (by go_simp));have z:w2.frozen? ⟨w.heap.size+1,3,none⟩=false:=(a.frozen (p:=⟨w.heap.size+1,3,none⟩) (by simp;omega)).trans ((b.frozen (p:=⟨w.heap.size+1,3,none⟩) (by simp)).trans (by go_simp))))
 refine bodyPost_ret (v:= .agg #[.int .u64 (bits .xor .u64 (round X).p m),.int .u64 (round X).q,.int .u64 (round X).r,.int .u64 (round X).s]) (by simp[results,Tryz.results241,go_sem,i,k,f,g]) rfl ⟨by rw[l.out];rfl,?_⟩
 have j:Below w.heap.size w w2:=by
  refine Below.trans ?_ ((b.mono (B':=w.heap.size) (by simp;omega)).trans (a.mono (B':=w.heap.size) (by omega)))
  repeat (first|exact yB _ _|refine Below.setCell ?_ (by simp) _|refine Below.alloc ?_ (by simp) _)
 repeat (first|(with_reducible exact j)|refine Below.setCell ?_ (by simp) _)
theorem aLF (f:Quad)(m:Int)(w:World)(h:f.ok):
 Calls Tryz.prog 241 #[.agg #[.int .u64 f.p,.int .u64 f.q,.int .u64 f.r,.int .u64 f.s],.int .u64 m] w fun e w'=>e= .returned (.agg #[.int .u64 (quadPlus f m).p,.int .u64 (quadPlus f m).q,.int .u64 (quadPlus f m).r,.int .u64 (quadPlus f m).s])∧Below w.heap.size w w':=aLE f.p f.q f.r f.s m w h
end Sa
namespace Hd
open Bytes8 Blk8 Hm Ha Hb Hc
theorem aGL (A:Option Addr)(b:Nat)(w:World):
 Calls Tryz.prog 207 #[.slice A 0 b] w fun e w'=>e= .returned (.int .u64 (lookS []))∧Below w.heap.size w w':=by
 have d:(⟨3735928559,3735928559,3735928559⟩:Trio).ok:=by unfold Trio.ok;decide
 go_enter Tryz.func207,Tryz.ntmps207
 go_wp2_with(go_at_call 223;(with_reducible refine(aEP _ _ _ _ d).mono ?_);rintro e w1 ⟨rfl,a⟩)
 go_ret
 refine⟨aCa (by decide+kernel),?_⟩
 have c:=((yB w.heap.size w).alloc (yR _) (.cells #[.int .u32 3735928559,.int .u32 3735928559,.int .u32 3735928559] 339))
 exact c.trans (a.mono c.size)
def Rest (w0:World)(g:Nat)(t:Trio)(w:World):Prop:=Blk w g [.int .u32 t.x,.int .u32 t.y,.int .u32 t.z] 339∧Below w0.heap.size w0 w
theorem aPe (l:List Int)(k o:Nat):w4 (l.drop k) o=w4 l (k+o):=by simp[w4,List.drop_drop]
theorem aHN (l:List Int)(n o:Nat)(h:o+4≤n):w4 (l.take n) o=w4 l o:=by
 unfold w4
 rw[List.drop_take,List.take_take,Nat.min_eq_left (by omega)]
theorem aE5 (t:Trio)(l:List Int)(k:Nat):plus3 t (l.drop k) 0=plus3 t l k:=by
 simp only[plus3,aPe,Nat.add_zero]
theorem aJN (t:Trio)(l:List Int):plus3 t (l.take 12) 0=plus3 t l 0:=by
 simp only[plus3,aHN l 12 0 (by omega),aHN l 12 (0+4) (by omega),aHN l 12 (0+8) (by omega)]
theorem aJO (t:Trio)(a:Option Addr)(l:List Int)(c:Nat)(w:World)(hb:Bytes w a l)(f:12≤l.length)(g:t.ok):
 Calls Tryz.prog 224 #[.agg #[.int .u32 t.x,.int .u32 t.y,.int .u32 t.z],.slice a 12 c] w fun e w'=>e= .returned (.agg #[.int .u32 (plus3 t l 0).x,.int .u32 (plus3 t l 0).y,.int .u32 (plus3 t l 0).z])∧Below w.heap.size w w':=by
 have d:Bytes w a (l.take 12):=by
  have h:=hb.part 0 12 a (fun b off e _ _=>by rw[e];rfl)
  rwa[List.drop_zero]at h
 have h:=aII t.x t.y t.z a (l.take 12) 12 c w d (by simp;omega) (by decide) g
 rw[aJN]at h
 exact h
theorem aHO (t:Trio)(w:World)(a:t.ok):
 Calls Tryz.prog 225 #[.agg #[.int .u32 t.x,.int .u32 t.y,.int .u32 t.z]] w fun e w'=>e= .returned (.agg #[.int .u32 (mix t).x,.int .u32 (mix t).y,.int .u32 (mix t).z])∧Below w.heap.size w w':=aKX t.x t.y t.z w a
theorem rest_step (w0 w:World)(t a b:Trio)(c:b=a)(h:Blk w w0.heap.size [.int .u32 t.x,.int .u32 t.y,.int .u32 t.z] 339)(d:Below w0.heap.size w0 w):
 Rest w0 w0.heap.size b (((w.setCell ⟨w0.heap.size,0,none⟩ (.int .u32 a.x)).setCell ⟨w0.heap.size,1,none⟩ (.int .u32 a.y)).setCell ⟨w0.heap.size,2,none⟩ (.int .u32 a.z)):=by
 subst c
 exact⟨((h.set_ 0 _).set_ 1 _).set_ 2 _,((d.setCell (yR _) _).setCell (yR _) _).setCell (yR _) _⟩
theorem aHP (l:List Int)(k:Nat):trioAt l (k+1)=mix (plus3 (trioAt l k) (l.drop (12*k)) 0):=by
 rw[aE5];rfl
theorem aNC (A:Option Addr)(l:List Int)(len d:Nat)(w:World)(B:Bytes w A l)(I:l.length=len)(q:0<len)(J:len≤1000000)(r:len≤d)(o:d≤maxLen):
 Calls Tryz.prog 207 #[.slice A len d] w fun e w'=>e= .returned (.int .u64 (lookS l))∧Below w.heap.size w w':=by
 unfold maxLen at o
 obtain⟨b,off,rfl,g,hc⟩:=B.spot (by omega)
 clear g hc
 have V:=yH B
 have u:=yH I
 clear B I
 have HS:=yH (show lookInit l=⟨3735928559+(len:Int),3735928559+(len:Int),3735928559+(len:Int)⟩by
  have e:add32 3735928559 (l.length:Int)=3735928559+(len:Int):=by have:=u.out;unfold add32;omega
  unfold lookInit;rw[e])
 have N:((len:Int)==0)=false:=by simp;omega
 go_enter Tryz.func207,Tryz.ntmps207
 go_wp2
 go_loopw [0] (fun s wr=> ∃k n c:Nat,Hid (len=12*k+n∧d=12*k+c)∧0<n∧n≤len∧c≤d∧n≤c∧s= .slice (some ⟨b,off+12*k,none⟩) n c∧Hid (Rest w w.heap.size (trioAt l k) wr)) (fun s _=>match s with| .slice _ n _=>n|_=>0)
 case atStart=>exact⟨0,len,d,yH ⟨by omega,by omega⟩,q,yR _,yR _,r,rfl,by show Hid (Rest _ _ (lookInit l) _);rw[HS.out];exact⟨Blk.new _ _ _,(yB _ _).alloc (yR _) _⟩⟩
 case round=>
  obtain⟨k,n,c,p,aa,R,ab,Z,rfl,m⟩:=hrel
  have Y:=yH m.out.1
  have v:=yH m.out.2
  have g0:=m.out.1.cell (i:=0) rfl
  have g1:=m.out.1.cell (i:=1) rfl
  have g2:=m.out.1.cell (i:=2) rfl
  have E:=m.out.2.size
  have g:=m.out.1.lt
  have F:=yH (V.out.part (12*k) n (some ⟨b,off+12*k,none⟩) (fun b' off' e _ _=>by simp at e;obtain⟨rfl,rfl⟩:=e;rfl))
  rw[List.take_of_length_le (by have:=u.out;have:=p.out.1;simp;omega)]at F
  have t:=yH (show(l.drop (12*k)).length=n by have:=u.out;have:=p.out.1;simp;omega)
  have D:=yH (F.out.below v.out (yR _)).drew
  by_cases X:12<n
  ·have C:=yH (show 12≤(l.drop (12*k)).length by have:=t.out;omega)
   have M:decide ((12:Int)<(n:Int))=true:=by simp;omega
   go_wp2
   go_region_with (first|(go_at_call 224;(with_reducible refine(aJO (trioAt l k) _ (l.drop (12*k)) _ _ D.out C.out (aDQ l k)).mono ?_);rintro e w2 ⟨rfl,f⟩)|(go_at_call 225;(with_reducible refine(aHO _ _ (aH9 _ _ _)).mono ?_);rintro e w3 ⟨rfl,j⟩;have a:=yH ((Y.out.drew.below f g).below j (yL g f.size));have e0:=a.out.cell (i:=0) rfl;have e1:=a.out.cell (i:=1) rfl;have e2:=a.out.cell (i:=2) rfl;have f0:=a.out.frozen 0;have f1:=a.out.frozen 1;have f2:=a.out.frozen 2))
   all_goals
    go_wp2
    go_roundw
    case rel=>
     have:=p.out.1
     have:=p.out.2
     refine⟨k+1,n-12,c-12,yH ⟨by omega,by omega⟩,by omega,by omega,by omega,by omega,by first|rfl|(congr 3;omega),?_⟩
     exact rest_step w w3 (trioAt l k) _ _ (aHP l k) a.out ((v.out.drew.trans (f.mono E)).trans (j.mono (Nat.le_trans E f.size)))
    case measure=>simp;omega
  ·have M:decide ((12:Int)<(n:Int))=false:=by simp;omega
   have HE:=yH (show(l.length-1)/12=k by rw[u.out,p.out.1];omega)
   have hS:=yH (show lookS l=ans (fin (plus3 (trioAt l k) (l.drop (12*k)) 0))by
    unfold lookS
    rw[if_neg (by intro h;have:=u.out;have:=p.out.1;rw[h]at*;simp at*;omega),HE.out,aE5])
   go_wp2_with(first|(go_at_call 224;(with_reducible refine(aII (trioAt l k).x (trioAt l k).y (trioAt l k).z _ (l.drop (12*k)) _ _ _ (F.out.below v.out (yR _)) t.out (by omega) (aDQ l k)).mono ?_);rintro e w2 ⟨rfl,f⟩)|(go_at_call 226;(with_reducible refine(aGw _ _ _ _ (aH9 _ _ _)).mono ?_);rintro e w3 ⟨rfl,j⟩)|(go_at_call 223;(with_reducible refine(aEP _ _ _ _ (aPB _)).mono ?_);rintro e w4 ⟨rfl,G⟩))
   go_ret
   refine⟨aCa hS.out.symm,?_⟩
   have L:=v.out.trans (f.mono E)
   have H:=L.trans (j.mono L.size)
   exact H.trans (G.mono H.size)
end Hd
namespace Se
open Bytes8 Hm Hd Hf
theorem aIT (A:Option Addr)(l:List Int)(len a:Nat)(w:World)(i:Bytes w A l)(d:l.length=len)(f:len≤800000)(c:len≤a)(b:a≤maxLen):
 Calls Tryz.prog 207 #[.slice A len a] w fun e w'=>e= .returned (.int .u64 (lookS l))∧Below w.heap.size w w':=by
 by_cases g:0<len
 ·exact aNC A l len a w i d g (by omega) c b
 ·obtain rfl:len=0:=by omega
  obtain rfl:l=[]:=List.eq_nil_of_length_eq_zero d
  exact aGL A a w
theorem aEs (A:Option Addr)(l:List Int)(len a:Nat)(w:World)(f:Bytes w A l)(b:l.length=len)(c:len≤800000):
 Calls Tryz.prog 114 #[.slice A len a] w fun e w'=>e= .returned (.int .u64 (lookS l))∧w=w':=by
 by_cases d:0<len
 ·exact aK3 A l len a w f b d (by omega)
 ·obtain rfl:len=0:=by omega
  obtain rfl:l=[]:=List.eq_nil_of_length_eq_zero b
  exact aK2 A a w
end Se
end Go.Proofs.YteaikbodkgjkdaaGreat
