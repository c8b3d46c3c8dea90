/-
  Texts beneath the proof.
-/
import Derived.Lib.SliceRun
import Derived.Maps.AppendAt
import Derived.Deep.DeepMust
import Derived.Test.YtlelnfokffflnaaGreatQl3
set_option linter.unusedVariables false
set_option linter.unusedSimpArgs false
set_option maxRecDepth 100000
set_option maxHeartbeats 4000000
open Go.ChangeShapes Go.WideShapes Go.ChangeAt Go.RowKit
namespace Go.Proofs.YtlelnfokffflnaaGreat
namespace Oe
open Bytes8 Blk8 Own8 OwnE LeNum Ob Oc Od
theorem aLz (s:Int)(w:World)(g:Nat)(hs:0≤s∧s≤18446744073709551615)(a:w.heap.size=g):
 Calls Tryz.prog 124 #[.slice (some ⟨g,0,none⟩) 1 1] (w.alloc (.cells #[.int .u64 s] 27)) fun e w'=> ∃A c,e= .returned (.slice A 8 c)∧Own w' w.heap.size A 8 c (lowB s 8)∧Below w.heap.size w w':=by
 subst a
 have h:=aEj w.heap.size 1 1 [s] 27 (w.alloc (.cells #[.int .u64 s] 27)) (Blk.new w _ _) (fun v hv=>by simp at hv;omega) rfl (by decide)
 refine h.mono fun e w' ⟨A,c,h1,h2,h3⟩=>⟨A,c,h1,?_,((Below.refl w.heap.size w).alloc (yR _) _).trans (h3.mono (by simp))⟩
 rw[nums_one]at h2
 exact Own.base h2 (by simp)
def sliceLen:Value→Nat
 | .slice _ n _=>n
 |_=>0
theorem aCQ (k:Int)(A:Option Addr)(l:List Int)(n r:Nat)(w:World)(h:1≤k∧k≤7)(J:Bytes w A l)(B:l.length=n)(hn:n≤1000000):
 Calls Tryz.prog 127 #[.int .i64 k,.slice A n r] w (Owned (objB k l) (16+n+padN n) w):=by
 obtain⟨k1,k7⟩:=h
 have Y:=yH B
 have HB:=yH J
 have HN:=yH fun(s:Int) (W:World) (g:Nat) (hs:0≤s∧s≤18446744073709551615) (hg:W.heap.size=g)=>aLz s W g hs hg
 have HK:=yH (show AllB [k,0,0,0,0,0,0,0]from fun x hx=>by simp at hx;omega)
 have hp:=aFs n
 have HF:=yH (show front k n=[k,0,0,0,0,0,0,0]++lowB (16+(n:Int)) 8 by unfold front;rw[show((16+n:Nat):Int)=16+(n:Int)by omega])
 have HO:=yH (show objB k l=front k n++(l++List.replicate (padN n) 0)by unfold objB;rw[B])
 have N:=yH (show ∀j,j≤padN n→((16+n+j)%8=0↔j=padN n)from fun j F=>by unfold padN at F⊢;omega)
 rw[HO.out]
 generalize padN n=p at*
 clear J B
 go_enter Tryz.func127,Tryz.ntmps127
 go_wp2_with(first
  |(go_at_call 124;(with_reducible refine(HN.out _ _ _ (by omega) (by simp)).mono ?_);rintro e w3 ⟨X,c3,rfl,v,c⟩;have E:=yH v;have i:=yH c;clear v c)
  |(at_builtin;refine aAd rfl (.tmp 14) (.tmp 20) rfl w.heap.size _ 8 8 [k,0,0,0,0,0,0,0] rfl ((aO2 (Row.new w [k,0,0,0,0,0,0,0]) HK.out (yR _) rfl (show 8≤maxLen by decide)).kept i.out (yR _)) X 8 c3 _ rfl E.out.bytes (aAj _ _) (by omega) ?_;intro A4 V w4 u d;have D:=yH u;have o:=yH d;clear u d)
  |(at_builtin;refine aAd rfl (.tmp 22) (.tmp 23) rfl w.heap.size A4 16 V _ rfl D.out A n r l rfl (HB.out.below (((Below.refl _ _).alloc (yR _) _).trans ((i.out.mono (by simp)).trans o.out)) (yR _)) Y.out (by omega) ?_;intro A5 c5 w5 y f;have H:=yH y;have G:=yH f;clear y f))
 go_loopw [5] (fun s wr=> ∃(j:Nat) (q:Option Addr) (t:Nat),j≤p∧s= .slice q (16+n+j) t∧Hid (Own wr w.heap.size q (16+n+j) t (front k n++(l++List.replicate j 0)))∧Hid (Below w.heap.size w wr)) (fun s _=>p+16+n-sliceLen s)
 case atStart=>
  refine⟨0,A5,c5,Nat.zero_le _,rfl,?_,yH (((Below.refl _ _).alloc (yR _) _).trans ((i.out.mono (by simp)).trans (o.out.trans G.out)))⟩
  have h:=H.out
  rw[HF.out,List.replicate_zero,List.append_nil]
  exact h
 case round=>
  obtain⟨j,q,t,F,rfl,M,a⟩:=hrel
  have L:=N.out j F
  by_cases Z:j<p
  ·have hm: ¬(16+n+j)%8=0:=by omega
   have z: ¬(((16+n+j:Nat):Int)%8=0):=by omega
   clear L
   go_wp2_with(at_builtin;refine aAd rfl (.tmp 29) (.tmp 30) rfl w.heap.size q (16+n+j) t _ rfl (M.out.kept ((Below.refl _ _).alloc (yR _) _) (yR _)) (some ⟨wr.heap.size,0,none⟩) 1 1 [0] rfl (Row.bytes (Row.new wr [0]) (AllB.zeros 1)) rfl (by omega) ?_;intro R c7 w7 m b;have I:=yH m;have C:=yH b;clear m b)
   go_roundw
   case rel=>
    refine⟨j+1,R,c7,by omega,rfl,?_,yH ((a.out.alloc a.out.size _).trans C.out)⟩
    have h:=I.out
    rw[List.append_assoc,List.append_assoc,show List.replicate j (0:Int)++ [0]=List.replicate (j+1) 0 by rw[List.replicate_succ']]at h
    exact h
   case measure=>simp[sliceLen];omega
  ·obtain rfl:j=p:=by omega
   have hm:(16+n+j)%8=0:=by omega
   have z:((16+n+j:Nat):Int)%8=0:=by omega
   clear L
   go_wp2
   go_ret
   exact⟨q,t,rfl,M.out,a.out⟩
end Oe
namespace Og
open Bytes8 Blk8 Own8 OwnE LeA LeB Ob Oc
theorem aGI (t:TypeId)(A:Option Addr)(len a b c:Nat)(w:World)(hs:(sizeOf (Tryz.prog.elem t)).run Tryz.prog w= .ok 1 w)(d:Tryz.prog.underlying t=some (.slice (Tryz.prog.elem t)))(f:b≤c)(e:c≤a):
 (Instr.slice t (.slice A len a) (some (.int .u64 b)) (some (.int .u64 c)) none).run Tryz.prog w= .ok (.slice (cutA A a b) (c-b) (a-b)) w:=by
 rw[run_slice_lh w t A len a d .u64 .u64 b c (by omega) (by omega) (by omega),hs]
 simp[Result.andThen,sliced,cutA]
theorem aGJ (t:TypeId)(A:Option Addr)(len a b:Nat)(w:World)(hs:(sizeOf (Tryz.prog.elem t)).run Tryz.prog w= .ok 1 w)(c:Tryz.prog.underlying t=some (.slice (Tryz.prog.elem t)))(d:b≤len):
 (Instr.slice t (.slice A len a) (some (.int .u64 b)) none none).run Tryz.prog w= .ok (.slice (cutA A a b) (len-b) (a-b)) w:=by
 rw[run_slice_l w t A len a c .u64 b (by omega) (by omega),hs]
 simp[Result.andThen,sliced,cutA]
theorem aHN (A:Option Addr)(len a b c:Nat)(L H:Int)(e:L=(b:Int))(f:H=(c:Int))(g:b≤c)(d:c≤a)(w:World):
 (Instr.slice 24 (.slice A len a) (some (.int .u64 L)) (some (.int .u64 H)) none).run Tryz.prog w= .ok (.slice (cutA A a b) (c-b) (a-b)) w:=by
 subst e f
 exact aGI _ A len a b c w (by rw[aDy];exact aDc w) (by rw[aDy];exact Tryz.underlying24) g d
theorem aOk (A:Option Addr)(len a b:Nat)(c:b≤len)(w:World):
 (Instr.slice 24 (.slice A len a) (some (.int .u64 b)) none none).run Tryz.prog w= .ok (.slice (cutA A a b) (len-b) (a-b)) w:=
 aGJ _ A len a b w (by rw[aDy];exact aDc w) (by rw[aDy];exact Tryz.underlying24) c
abbrev frV (k s:Int):Value:= .agg #[.int .i64 k,.int .i64 0,.int .u64 s]
def FrTold (k s c:Int)(w:World)(e:Ending)(w':World):Prop:=e= .returned (.tuple #[frV k s,.int .i64 c])∧Below w.heap.size w w'
theorem aP7 (a:Option Addr)(n b:Nat)(w:World)(h:n<16):
 Calls Tryz.prog 55 #[.slice a n b,.int .i64 8,.int .i64 8] w fun e w'=>e= .returned (.tuple #[.int .u64 0,.bool false])∧w=w':=
 aPR a n b 8 8 w (by omega) (by simp[fits,isW];omega)
theorem aIQ (A:Option Addr)(l:List Int)(n m a:Nat)(w:World)(x:Bytes w A l)(E:l.length=n)(hn:n≤1000000)(hc:n≤m)(N:m≤maxLen)(ha:a≤18446744073709551615):
 Calls Tryz.prog 20 #[.slice A n m,.int .u64 (a:Int)] w (FrTold (kindL l a) (sizeL l a) (code l a) w):=by
 have b0:Below w.heap.size w (w.alloc (.cells #[.int .i64 0,.int .i64 0,.int .u64 0] 46)):=(Below.refl w.heap.size w).alloc (yR _) _
 have i:=yH b0
 unfold maxLen at N
 have y:Hid (kindL l a=if code l a=0 then l.getD a 0 else 0):=yH rfl
 have z:Hid (sizeL l a=if code l a=0 then u8 l (a+8)else 0):=yH rfl
 have no: ∀c:Int,c≠0→code l a=c→kindL l a=0∧sizeL l a=0:=fun c h0 h=>⟨y.out.trans (if_neg (by omega)),z.out.trans (if_neg (by omega))⟩
 have HA:=yH x.1
 by_cases h1:a%8≠0
 ·have d:code l a=3:=by unfold code;rw[if_pos h1]
  obtain⟨j,o⟩:=no 3 (by decide) d
  rw[d,j,o]
  have L: ¬(a:Int)%8=0:=by omega
  clear x no y z d j o E h1
  go_enter Tryz.func20,Tryz.ntmps20
  go_wp2
  refine bodyPost_ret (v:= .tuple #[frV 0 0,.int .i64 3]) (by simp[results_cell_tmp Tryz.results20,go_sem,Result.andThen]) rfl ⟨rfl,?_⟩
  (repeat (first|(with_reducible exact i.out)|(with_reducible exact Below.refl _ _)|refine Below.setCell ?_ (by simp) _|refine Below.alloc ?_ (by simp) _|refine Below.drew ?_|refine below_drewN ?_ _))
 have L:(a:Int)%8=0:=by omega
 by_cases h2:n<a+16
 ·have d:code l a=2:=by unfold code;rw[if_neg h1,if_pos (by omega)]
  obtain⟨j,o⟩:=no 2 (by decide) d
  rw[d,j,o]
  by_cases u:n<a
  ·clear x no y z d j o E h1
   go_enter Tryz.func20,Tryz.ntmps20
   go_wp2
   refine bodyPost_ret (v:= .tuple #[frV 0 0,.int .i64 2]) (by simp[results_cell_tmp Tryz.results20,go_sem,Result.andThen]) rfl ⟨rfl,?_⟩
   (repeat (first|(with_reducible exact i.out)|(with_reducible exact Below.refl _ _)|refine Below.setCell ?_ (by simp) _|refine Below.alloc ?_ (by simp) _|refine Below.drew ?_|refine below_drewN ?_ _))
  ·have hcut:=aOk A n m a (by omega)
   have B:=yH fun(W:World)=>aP7 (cutA A m a) (n-a) (m-a) W (by omega)
   generalize cutA A m a=C at*
   clear x no y z d j o E h1
   go_enter Tryz.func20,Tryz.ntmps20
   go_wp2_with(go_at_call 55;(with_reducible refine(B.out _).mono ?_);rintro e w' ⟨rfl,rfl⟩)
   refine bodyPost_ret (v:= .tuple #[frV 0 0,.int .i64 2]) (by simp[results_cell_tmp Tryz.results20,go_sem,Result.andThen]) rfl ⟨rfl,?_⟩
   (repeat (first|(with_reducible exact i.out)|(with_reducible exact Below.refl _ _)|refine Below.setCell ?_ (by simp) _|refine Below.alloc ?_ (by simp) _|refine Below.drew ?_|refine below_drewN ?_ _))
 obtain⟨b,G,rfl,ac,q⟩:=x.spot (by omega)
 have hcut:=aOk (some ⟨b,G,none⟩) n m a (by omega)
 have D:=yH (Bytes.cut x m a (n-a) (by omega))
 rw[aCN,if_neg (by omega)]at hcut D
 have F:Hid (((l.drop a).take (n-a)).length=n-a):=yH (by simp;omega)
 have H:u8 ((l.drop a).take (n-a)) 8=u8 l (a+8):=by
  have e:(l.drop a).take (n-a)=l.drop a:=List.take_of_length_le (by simp;omega)
  unfold u8
  rw[e,List.drop_drop]
 have B:=yH fun(W:World) (h:Below w.heap.size w W)=>get8 (some ⟨b,G+a,none⟩) _ (n-a) (m-a) 8 8 W rfl F.out (by omega) (D.out.below h (yR _)) (by omega)
 rw[H]at B
 have R:=q a (by omega)
 have M:=q (a+1) (by omega)
 rw[←Nat.add_assoc]at M
 obtain⟨ab,X⟩:=aCE x.1 (a+8)
 obtain⟨ae,aa⟩:=x.1.at_ a
 obtain⟨af,Y⟩:=x.1.at_ (a+1)
 have g:code l a=if l.getD a 0<1∨7<l.getD a 0 then 4 else if l.getD (a+1) 0≠0 then 7 else if u8 l (a+8)<16 then 5 else if(n:Int)<a+u8 l (a+8)then 2 else 0:=by
  unfold code
  rw[if_neg h1,if_neg (by omega),E]
 have r:=yH fun(W:World)=>aJE (l.getD a 0) W
 generalize u8 l (a+8)=s at*
 generalize l.getD a 0=k at*
 generalize l.getD (a+1) 0=f at*
 have V:a+16≤n:=by omega
 have ag:0<n-a:=by omega
 have ah:1<n-a:=by omega
 have Z:(1:Int)<((n-a:Nat):Int):=by omega
 have ad:b<(w.alloc (.cells #[.int .i64 0,.int .i64 0,.int .u64 0] 46)).heap.size:=by simp;omega
 clear D F x q E h1 h2 H
 by_cases u:k<1∨7<k
 ·have d:code l a=4:=by rw[g,if_pos u]
  obtain⟨j,o⟩:=no 4 (by decide) d
  rw[d,j,o]
  have p:(decide (1≤k)&&decide (k≤7))=false:=by simp;omega
  rw[p]at r
  clear p u
  clear no y z d j o g
  go_enter Tryz.func20,Tryz.ntmps20
  go_wp2_with(go_at_call 55;(with_reducible refine(B.out _ i.out).mono ?_);rintro e w' ⟨rfl,rfl⟩)
  go_region
  all_goals
   go_wp2_with(go_at_call 56;(with_reducible refine(r.out _).mono ?_);rintro e w' ⟨rfl,rfl⟩)
   refine bodyPost_ret (v:= .tuple #[frV 0 0,.int .i64 4]) (by simp[results_cell_tmp Tryz.results20,go_sem,Result.andThen]) rfl ⟨rfl,?_⟩
   (repeat (first|(with_reducible exact i.out)|(with_reducible exact Below.refl _ _)|refine Below.setCell ?_ (by simp) _|refine Below.alloc ?_ (by simp) _|refine Below.drew ?_|refine below_drewN ?_ _))
 have p:(decide (1≤k)&&decide (k≤7))=true:=by simp;omega
 rw[p]at r
 by_cases h4:f≠0
 ·have d:code l a=7:=by rw[g,if_neg u,if_pos h4]
  obtain⟨j,o⟩:=no 7 (by decide) d
  rw[d,j,o]
  clear p u
  clear no y z d j o g
  go_enter Tryz.func20,Tryz.ntmps20
  go_wp2_with(go_at_call 55;(with_reducible refine(B.out _ i.out).mono ?_);rintro e w' ⟨rfl,rfl⟩)
  go_region
  all_goals
   go_wp2_with(go_at_call 56;(with_reducible refine(r.out _).mono ?_);rintro e w' ⟨rfl,rfl⟩)
   refine bodyPost_ret (v:= .tuple #[frV 0 0,.int .i64 7]) (by simp[results_cell_tmp Tryz.results20,go_sem,Result.andThen]) rfl ⟨rfl,?_⟩
   (repeat (first|(with_reducible exact i.out)|(with_reducible exact Below.refl _ _)|refine Below.setCell ?_ (by simp) _|refine Below.alloc ?_ (by simp) _|refine Below.drew ?_|refine below_drewN ?_ _))
 by_cases I:s<16
 ·have d:code l a=5:=by rw[g,if_neg u,if_neg h4,if_pos I]
  obtain⟨j,o⟩:=no 5 (by decide) d
  rw[d,j,o]
  have t:f=0:=by omega
  subst t
  clear p u h4
  clear no y z d j o g
  go_enter Tryz.func20,Tryz.ntmps20
  go_wp2_with(go_at_call 55;(with_reducible refine(B.out _ i.out).mono ?_);rintro e w' ⟨rfl,rfl⟩)
  go_region
  all_goals
   go_wp2_with(go_at_call 56;(with_reducible refine(r.out _).mono ?_);rintro e w' ⟨rfl,rfl⟩)
   refine bodyPost_ret (v:= .tuple #[frV 0 0,.int .i64 5]) (by simp[results_cell_tmp Tryz.results20,go_sem,Result.andThen]) rfl ⟨rfl,?_⟩
   (repeat (first|(with_reducible exact i.out)|(with_reducible exact Below.refl _ _)|refine Below.setCell ?_ (by simp) _|refine Below.alloc ?_ (by simp) _|refine Below.drew ?_|refine below_drewN ?_ _))
 by_cases h6:(n:Int)<a+s
 ·have d:code l a=2:=by rw[g,if_neg u,if_neg h4,if_neg I,if_pos h6]
  obtain⟨j,o⟩:=no 2 (by decide) d
  rw[d,j,o]
  have t:f=0:=by omega
  have J:((n-a:Nat):Int)<s:=by omega
  subst t
  clear p u h4 h6
  clear no y z d j o g
  go_enter Tryz.func20,Tryz.ntmps20
  go_wp2_with(go_at_call 55;(with_reducible refine(B.out _ i.out).mono ?_);rintro e w' ⟨rfl,rfl⟩)
  go_region
  all_goals
   go_wp2_with(go_at_call 56;(with_reducible refine(r.out _).mono ?_);rintro e w' ⟨rfl,rfl⟩)
   refine bodyPost_ret (v:= .tuple #[frV 0 0,.int .i64 2]) (by simp[results_cell_tmp Tryz.results20,go_sem,Result.andThen]) rfl ⟨rfl,?_⟩
   (repeat (first|(with_reducible exact i.out)|(with_reducible exact Below.refl _ _)|refine Below.setCell ?_ (by simp) _|refine Below.alloc ?_ (by simp) _|refine Below.drew ?_|refine below_drewN ?_ _))
 ·have d:code l a=0:=by rw[g,if_neg u,if_neg h4,if_neg I,if_neg h6]
  have j:=y.out.trans (if_pos d)
  have o:=z.out.trans (if_pos d)
  rw[d,j,o]
  have t:f=0:=by omega
  have J: ¬((n-a:Nat):Int)<s:=by omega
  subst t
  clear p u h4 h6 no y z d j o g
  go_enter Tryz.func20,Tryz.ntmps20
  go_wp2_with(go_at_call 55;(with_reducible refine(B.out _ i.out).mono ?_);rintro e w' ⟨rfl,rfl⟩)
  go_region
  all_goals
   go_wp2_with(go_at_call 56;(with_reducible refine(r.out _).mono ?_);rintro e w' ⟨rfl,rfl⟩)
   refine bodyPost_ret (v:= .tuple #[frV k s,.int .i64 0]) (by simp[results_cell_tmp Tryz.results20,go_sem,Result.andThen]) rfl ⟨rfl,?_⟩
   (repeat (first|(with_reducible exact i.out)|(with_reducible exact Below.refl _ _)|refine Below.setCell ?_ (by simp) _|refine Below.alloc ?_ (by simp) _|refine Below.drew ?_|refine below_drewN ?_ _))
end Og
namespace Gn
open Bytes8 Blk8 Own8 LeNum RefB Ob Od Rows2
def ints (f:Nat→Int)(k:Nat):List Int:=(List.range k).map f
theorem ints_succ (f:Nat→Int)(k:Nat):ints f (k+1)=ints f k++ [f k]:=by simp[ints,List.range_succ]
theorem ints_len (f:Nat→Int)(k:Nat):(ints f k).length=k:=by simp[ints]
theorem ints_nums (f:Nat→Int)(k:Nat):nums (ints f (k+1))=nums (ints f k)++lowB (f k) 8:=by rw[ints_succ,aCD]
theorem rnums_in (y:Option Addr)(n p:Nat)(f:Nat→Int)(w:World)(v:InInts .u64 w y n f)(B:n≤100000):
 Calls Tryz.prog 124 #[.slice y n p] w fun e w'=> ∃A c,e= .returned (.slice A (8*n) c)∧Own w' w.heap.size A (8*n) c (nums (ints f n))∧Below w.heap.size w w':=by
 have M:=yH v
 clear v
 go_enter Tryz.func124,Tryz.ntmps124
 go_wp2
 go_loopw [3,4] (fun s i wr=> ∃(k:Nat) (A:Option Addr) (c:Nat),k≤n∧i= .int .i64 (k:Int)∧s= .slice A (8*k) c∧Hid (Own wr w.heap.size A (8*k) c (nums (ints f k)))∧Hid (Below w.heap.size w wr)) (fun _ i _=>n-(intOf i).toNat)
 case atStart=>exact⟨0,none,0,Nat.zero_le _,rfl,rfl,Own.nil w _ (yR _),Below.refl _ _⟩
 case round=>
  obtain⟨k,A,c,V,rfl,rfl,z,a⟩:=hrel
  by_cases h:k<n
  ·obtain⟨b,J,rfl,N,R,F⟩:=(M.out.below a.out) k h
   obtain⟨D,E⟩:=bounds_u64 F
   have G:=yH (ints_nums f k)
   have u:=a.out.size
   generalize f k=x at*
   have t:=yH fun(W:World)=>aFC x 8 8 W D E (by decide) rfl
   go_wp2_with(first|(go_at_call 123;(with_reducible refine(t.out _).mono ?_);rintro e w2 ⟨H,L,rfl,l,d⟩;have o:=yH l;have j:=yH d;clear l d)|(at_builtin;refine aAd rfl (.tmp 11) (.tmp 16) rfl w.heap.size A (8*k) c (nums (ints f k)) rfl (z.out.kept j.out (yR _)) H 8 L _ rfl o.out.bytes (aAj _ _) (by omega) ?_;intro C I w3 m g;have r:=yH m;have q:=yH g;clear m g))
   go_roundw
   case rel=>
    refine⟨k+1,C,I,by omega,by go_num,rfl,?_,yH ((a.out.trans (j.out.mono u)).trans q.out)⟩
    rw[G.out]
    exact r
   case measure=>simp[intOf];omega
  ·obtain rfl:k=n:=by omega
   go_wp2
   go_ret
   exact⟨A,c,rfl,z.out,a.out⟩
end Gn
namespace Cl8
end Cl8
namespace OwnA
open Bytes8 Own8
def ownB (A:Option Addr):Option Nat:=A.map (·.block)
theorem aCl (A:Option Addr)(n c:Nat):(Value.slice A n c).ownBlock=ownB A:=by cases A<;>rfl
theorem aNB {w w':World}{base n c:Nat}{row:Option Nat}{A:Option Addr}{l:List Int}(h:Own w base A n c l)(j:w.grownBy w' row)(f: ∀g,ownB A=some g→row≠some g):Own w' base A n c l:=by
 refine⟨h.1,h.2.1,Nat.le_trans h.2.2.1 j.size,h.2.2.2.1,?_⟩
 rcases h.2.2.2.2 with a|⟨k,b,d,a,m,i,o⟩
 ·exact .inl a
 ·refine .inr ⟨k,b,d,a,m,?_,o⟩
  have p:k<w.heap.size:=by
   rcases Nat.lt_or_ge k w.heap.size with h|h
   ·exact h
   ·rw[Array.getElem?_eq_none h]at i;cases i
  injection a with e1 e2 e3
  subst e1
  rw[j.block k p (fun e=>f k rfl e.symm)];exact i
theorem aCR (w:World)(F:TypeId)(base:Nat)(A:Option Addr)(n c:Nat)(l:List Int)(o:Own w base A n c l)(J:Option Addr)(m N:Nat)(b:List Int)(B:Bytes w J b)(I:b.length=m)(Z:n+m≤70368744177664):
 ∃a p w',(Builtin.append_ #[24,24] F #[.slice A n c,.slice J m N]).run Tryz.prog w= .ok (.slice a (n+m) p) w'∧Own w' base a (n+m) p (l++b)∧w.grownBy w' (ownB A)∧(ownB a=ownB A∨ownB a=some w.heap.size):=by
 obtain⟨i,z,y⟩:=Option.map_eq_some_iff.1 aJ3
 simp only[Prod.mk.injEq]at y
 obtain⟨V,hs,s⟩:=y
 have e:=o.2.2.2
 have q: ∀(h:Value) (w':World),w'.ownsRow base 5 1 h (n+m) (l.map (Value.int .u8)++b.map (Value.int .u8))→w.grownBy w' (Value.slice A n c).ownBlock→(h.ownBlock=(Value.slice A n c).ownBlock∨h.ownBlock=some w.heap.size)→
  ∃a p,h= .slice a (n+m) p∧Own w' base a (n+m) p (l++b)∧w.grownBy w' (ownB A)∧(ownB a=ownB A∨ownB a=some w.heap.size):=by
  intro h w' k r f
  have d:=r.size
  rw[aCl]at r f
  have C:(l++b).length=n+m:=by rw[List.length_append,o.2.1,I]
  rw[←List.map_append]at k
  rcases k.2 with⟨rfl,h0⟩|⟨g,H,M,rfl,_⟩
  ·rw[h0]at k C⊢
   rw[aCl]at f
   exact⟨none,0,rfl,⟨o.1.app B.1,C,Nat.le_trans o.2.2.1 d,k⟩,r,f⟩
  ·rw[aCl]at f
   exact⟨_,_,rfl,⟨o.1.app B.1,C,Nat.le_trans o.2.2.1 d,k⟩,r,f⟩
 have t:(b.map (Value.int .u8)).length=m*1:=by simp[I]
 by_cases h0:0<b.length
 ·obtain⟨R,rfl,v⟩:=B.source w (Below.refl _ _) h0
  obtain⟨h,w',G,k,r,_,f⟩:=run_append_own_at (P:=Tryz.prog) w base 24 F 5 i (.int .u8 0) 1 1 Tryz.underlying24 z V hs s rfl (by decide) _ n _ e R m N (b.map (Value.int .u8)) t
   (fun j u hu=>by
     rw[List.getElem?_map]at hu
     obtain⟨x,X,rfl⟩:=Option.map_eq_some_iff.1 hu
     exact v j x X) (ones b) (by unfold maxLen;omega) (by omega) o.2.2.1
  obtain⟨a,p,rfl,D⟩:=q h w' k r f
  exact⟨a,p,w',G,D⟩
 ·obtain rfl:b=[]:=List.eq_nil_of_length_eq_zero (by omega)
  obtain rfl:m=0:=by simpa using I.symm
  cases J with
  |some R=>
   obtain⟨h,w',G,k,r,_,f⟩:=run_append_own_at (P:=Tryz.prog) w base 24 F 5 i (.int .u8 0) 1 1 Tryz.underlying24 z V hs s rfl (by decide) _ n _ e R 0 N [] rfl
    (fun j u hu=>by simp at hu) (fun u hu=>by cases hu) (by unfold maxLen;omega) (by omega) o.2.2.1
   obtain⟨a,p,rfl,D⟩:=q h w' k r f
   exact⟨a,p,w',G,D⟩
  |none=>
   refine⟨A,c,w,?_,?_,World.grownBy.refl _ _,.inl rfl⟩
   ·rcases e.2 with⟨E,Y⟩|⟨g,H,M,E,_,_,L,_⟩
    ·injection E with e1 e2 e3
     subst e1;subst e2;subst e3
     simp[Builtin.append_,run_underlying Tryz.underlying24,sizeOf,typeInfo,z,Builtin.lenOf,Builtin.firstCells]
    ·injection E with e1 e2 e3
     subst e1;subst e3
     simp[Builtin.append_,run_underlying Tryz.underlying24,sizeOf,typeInfo,z,Builtin.lenOf,Builtin.firstCells,L,storeCells]
   ·rw[Nat.add_zero,List.append_nil];exact o
end OwnA
namespace Dc
open Bytes8 Blk8 Own8 OwnA OwnE
theorem aAA {E S:TypeId}{size b:Nat}{z:Value}(l:Elt E S size b z)(w:World)(t:TypeId)(base:Nat)(A:Option Addr)(n c:Nat)(xs:List Value)(p:OwnE E size w base A n c xs)(s:Addr)(m x:Nat)(a:List Value)(H:a.length=m*size)
 (e: ∀j u,a[j]? =some u→w.cell? (s.add j)=some u)(I: ∀u∈a,u.oneCell'=true)(F:n+m≤4611686018427387904)(d:(n+m)*b≤140737488355328)(r:n+m≤maxLen):
 ∃A' c' w',(Builtin.append_ #[S,S] t #[.slice A n c,.slice (some s) m x]).run Tryz.prog w= .ok (.slice A' (n+m) c') w'∧OwnE E size w' base A' (n+m) c' (xs++a)∧w.grownBy w' (ownB A)∧(ownB A'=ownB A∨ownB A'=some w.heap.size):=by
 obtain⟨i,B,h⟩:=Option.map_eq_some_iff.1 l.info
 simp only[Prod.mk.injEq]at h
 obtain⟨G,hs,q⟩:=h
 obtain⟨L,w',v,o,k,J,f⟩:=run_append_own_at (P:=Tryz.prog) w base S t E i z size b l.under B G hs q l.zero l.pos _ n xs p.2 s m x a H e I r d p.1
 rw[aCl]at k f
 rcases o.2 with⟨rfl,y⟩|⟨g,C,D,rfl,_⟩
 ·rw[y]at o⊢
  rw[aCl]at f
  exact⟨none,0,w',v,⟨Nat.le_trans p.1 k.size,o⟩,k,f⟩
 ·rw[aCl]at f
  exact⟨_,_,w',v,⟨Nat.le_trans p.1 k.size,o⟩,k,f⟩
theorem aAe {E S:TypeId}{size d:Nat}{z:Value}(B:Elt E S size d z){w:World}{i:Array Oper}{rest:List Oper}{o:Oper}{a:Act}{Q:Exit→Act→World→Prop}(p:o.guard=none)(s x:Operand)
 (l:o.op= .call {callee:= .builtin .append,args:= #[s,x],argTypes:= #[S,S]})
 (base:Nat)(A:Option Addr)(n c:Nat)(xs:List Value)(hs:a.eval s= .slice A n c)(F:OwnE E size w base A n c xs)(t:Addr)(m v:Nat)(b:List Value)(G:a.eval x= .slice (some t) m v)(H:b.length=m*size)
 (f: ∀j u,b[j]? =some u→w.cell? (t.add j)=some u)(I: ∀u∈b,u.oneCell'=true)(r:n+m≤4611686018427387904)(e:(n+m)*d≤140737488355328)(q:n+m≤maxLen)
 (h: ∀g k w',OwnE E size w' base g (n+m) k (xs++b)→w.grownBy w' (ownB A)→(ownB g=ownB A∨ownB g=some w.heap.size)→wpList Tryz.prog i Q rest (a.put o.dst (.slice g (n+m) k)) w'):wpList Tryz.prog i Q (o::rest) a w:=
 wpList_plain p fun _ hK=>by
  obtain⟨g,k,w',D,C,J,y⟩:=aAA B w o.type base A n c xs F t m v b H f I r e q
  unfold Oper.wp execOp
  simp only[l,resolve,invoke,builtin,Sem.run_bind,Sem.run_pure,Result.andThen_ok,List.map_toArray,List.map_cons,List.map_nil,hs,G,D]
  exact hK _ _ (h g k w' C J y)
theorem aCS {E S:TypeId}{size d:Nat}{z:Value}(B:Elt E S size d z){w:World}{i:Array Oper}{o:Oper}{a:Act}{K:Act→World→Prop}{Q:Exit→Act→World→Prop}{F:Prop}(p:o.guard=none)(s x:Operand)
 (l:o.op= .call {callee:= .builtin .append,args:= #[s,x],argTypes:= #[S,S]})
 (base:Nat)(A:Option Addr)(n c:Nat)(xs:List Value)(hs:a.eval s= .slice A n c)(H:OwnE E size w base A n c xs)(t:Addr)(m v:Nat)(b:List Value)(I:a.eval x= .slice (some t) m v)(J:b.length=m*size)
 (f: ∀j u,b[j]? =some u→w.cell? (t.add j)=some u)(L: ∀u∈b,u.oneCell'=true)(r:n+m≤4611686018427387904)(e:(n+m)*d≤140737488355328)(q:n+m≤maxLen)
 (h: ∀g k w',OwnE E size w' base g (n+m) k (xs++b)→w.grownBy w' (ownB A)→(ownB g=ownB A∨ownB g=some w.heap.size)→K (a.put o.dst (.slice g (n+m) k)) w'):
 if Region.wanted o (yielded i a.tmps)=true then Oper.wp Tryz.prog o a w K Q else F:=by
 have C:Region.wanted o (yielded i a.tmps)=true:=by simp[Region.wanted,p]
 rw[if_pos C]
 obtain⟨g,k,w',G,D,M,y⟩:=aAA B w o.type base A n c xs H t m v b J f L r e q
 unfold Oper.wp execOp
 simp only[l,resolve,invoke,builtin,Sem.run_bind,Sem.run_pure,Result.andThen_ok,List.map_toArray,List.map_cons,List.map_nil,hs,I,G]
 exact h g k w' D M y
theorem OwnE.keptG {E:TypeId}{size:Nat}{w w':World}{base n c:Nat}{row:Option Nat}{A:Option Addr}{xs:List Value}(h:OwnE E size w base A n c xs)(j:w.grownBy w' row)(f: ∀g,ownB A=some g→row≠some g):OwnE E size w' base A n c xs:=by
 refine⟨Nat.le_trans h.1 j.size,h.2.1,?_⟩
 rcases h.2.2 with a|⟨k,b,d,a,l,i,m⟩
 ·exact .inl a
 ·refine .inr ⟨k,b,d,a,l,?_,m⟩
  have o:k<w.heap.size:=by
   rcases Nat.lt_or_ge k w.heap.size with h|h
   ·exact h
   ·rw[Array.getElem?_eq_none h]at i;cases i
  injection a with e1 e2 e3
  subst e1
  rw[j.block k o (fun e=>f k rfl e.symm)];exact i
theorem OwnE.ltB {E:TypeId}{size:Nat}{w:World}{base n c:Nat}{A:Option Addr}{xs:List Value}(h:OwnE E size w base A n c xs): ∀g,ownB A=some g→base≤g∧g<w.heap.size:=fun g hg=>h.lt g (by rw[aCl];exact hg)
end Dc
namespace Sa
open Bytes8 Blk8 Hm Ha
theorem aGK (p q r s:Int)(w:World)(h:(⟨p,q,r,s⟩:Quad).ok):
 Calls Tryz.prog 199 #[.agg #[.int .u64 p,.int .u64 q,.int .u64 r,.int .u64 s]] w fun e w'=>e= .returned (.agg #[.int .u64 (round ⟨p,q,r,s⟩).p,.int .u64 (round ⟨p,q,r,s⟩).q,.int .u64 (round ⟨p,q,r,s⟩).r,.int .u64 (round ⟨p,q,r,s⟩).s])∧Below w.heap.size w w':=by
 obtain⟨⟨d,b⟩,⟨c,f⟩,⟨r0,r1⟩,⟨a,g⟩⟩:=h
 simp only at d b c f r0 r1 a g
 go_enter Tryz.func199,Tryz.ntmps199
 go_wp2
 go_quiet (fail)
 go_wp2_with(go_at_call 233;(with_reducible refine(aP0 _ _ _ (by first|assumption|exact(b64 _ _ _).1|exact(aCq _ _).1|exact(aCp _).1|omega) (by first|assumption|exact(b64 _ _ _).2|exact(aCq _ _).2|exact(aCp _).2|omega) (by decide) (by decide)).mono ?_);rintro e w' ⟨rfl,rfl⟩)
 refine bodyPost_ret (v:= .agg #[.int .u64 (round ⟨p,q,r,s⟩).p,.int .u64 (round ⟨p,q,r,s⟩).q,.int .u64 (round ⟨p,q,r,s⟩).r,.int .u64 (round ⟨p,q,r,s⟩).s]) (by simp[results,Tryz.results199,go_sem,round,add64,xor64,IntKind.wrap_u64]) rfl ⟨rfl,?_⟩
 repeat (first|exact Below.refl _ _|refine Below.setCell ?_ (by simp) _|refine Below.alloc ?_ (by simp) _|refine below_drewN ?_ _)
theorem aLA (f:Quad)(w:World)(h:f.ok):
 Calls Tryz.prog 199 #[.agg #[.int .u64 f.p,.int .u64 f.q,.int .u64 f.r,.int .u64 f.s]] w fun e w'=>e= .returned (.agg #[.int .u64 (round f).p,.int .u64 (round f).q,.int .u64 (round f).r,.int .u64 (round f).s])∧Below w.heap.size w w':=aGK f.p f.q f.r f.s w h
theorem aLB (p q r s m:Int)(w:World)(h:(⟨p,q,r,s⟩:Quad).ok):
 Calls Tryz.prog 198 #[.agg #[.int .u64 p,.int .u64 q,.int .u64 r,.int .u64 s],.int .u64 m] w fun e w'=>e= .returned (.agg #[.int .u64 (quadPlus ⟨p,q,r,s⟩ m).p,.int .u64 (quadPlus ⟨p,q,r,s⟩ m).q,.int .u64 (quadPlus ⟨p,q,r,s⟩ m).r,.int .u64 (quadPlus ⟨p,q,r,s⟩ m).s])∧Below w.heap.size w w':=by
 have d:=yH fun w=>aGK p q r (bits .xor .u64 s m) w ⟨h.1,h.2.1,h.2.2.1,b64 .xor s m⟩
 have l:=yH (show quadPlus ⟨p,q,r,s⟩ m=⟨xor64 (round (round ⟨p,q,r,bits .xor .u64 s m⟩)).p m,(round (round ⟨p,q,r,bits .xor .u64 s m⟩)).q,(round (round ⟨p,q,r,bits .xor .u64 s m⟩)).r,(round (round ⟨p,q,r,bits .xor .u64 s m⟩)).s⟩from rfl)
 have k:=yH (aE8 ⟨p,q,r,bits .xor .u64 s m⟩)
 generalize quadPlus ⟨p,q,r,s⟩ m=Z at*
 generalize round ⟨p,q,r,bits .xor .u64 s m⟩=X at*
 go_enter Tryz.func198,Tryz.ntmps198
 go_wp2_with(first|(go_at_call 199;(with_reducible refine(d.out _).mono ?_);rintro e w1 ⟨rfl,b⟩;have c:=b.size;simp at c)|(go_at_call 199;(with_reducible refine(aLA X _ k.out).mono ?_);rintro e w2 ⟨rfl,a⟩;have n:=a.size;have C:w2.cell? ⟨w.heap.size,0,none⟩=some (.int .u64 p):=(a.cell (p:=⟨w.heap.size,0,none⟩) (by simp;omega)).trans ((b.cell (p:=⟨w.heap.size,0,none⟩) (by simp;omega)).trans (by go_simp));have A:w2.frozen? ⟨w.heap.size,0,none⟩=false:=(a.frozen (p:=⟨w.heap.size,0,none⟩) (by simp;omega)).trans ((b.frozen (p:=⟨w.heap.size,0,none⟩) (by simp;omega)).trans (by go_simp));have i:w2.cell? ⟨w.heap.size+1,0,none⟩=some (.int .u64 0):=(a.cell (p:=⟨w.heap.size+1,0,none⟩) (by simp;omega)).trans ((b.cell (p:=⟨w.heap.size+1,0,none⟩) (by simp)).trans (by go_simp));have u:w2.frozen? ⟨w.heap.size+1,0,none⟩=false:=(a.frozen (p:=⟨w.heap.size+1,0,none⟩) (by simp;omega)).trans ((b.frozen (p:=⟨w.heap.size+1,0,none⟩) (by simp)).trans (by go_simp));have B:w2.cell? ⟨w.heap.size,1,none⟩=some (.int .u64 q):=(a.cell (p:=⟨w.heap.size,1,none⟩) (by simp;omega)).trans ((b.cell (p:=⟨w.heap.size,1,none⟩) (by simp;omega)).trans (by go_simp));have y:w2.frozen? ⟨w.heap.size,1,none⟩=false:=(a.frozen (p:=⟨w.heap.size,1,none⟩) (by simp;omega)).trans ((b.frozen (p:=⟨w.heap.size,1,none⟩) (by simp;omega)).trans (by go_simp));have j:w2.cell? ⟨w.heap.size+1,1,none⟩=some (.int .u64 0):=(a.cell (p:=⟨w.heap.size+1,1,none⟩) (by simp;omega)).trans ((b.cell (p:=⟨w.heap.size+1,1,none⟩) (by simp)).trans (by go_simp));have F:w2.frozen? ⟨w.heap.size+1,1,none⟩=false:=(a.frozen (p:=⟨w.heap.size+1,1,none⟩) (by simp;omega)).trans ((b.frozen (p:=⟨w.heap.size+1,1,none⟩) (by simp)).trans (by go_simp));have E:w2.cell? ⟨w.heap.size,2,none⟩=some (.int .u64 r):=(a.cell (p:=⟨w.heap.size,2,none⟩) (by simp;omega)).trans ((b.cell (p:=⟨w.heap.size,2,none⟩) (by simp;omega)).trans (by go_simp));have x:w2.frozen? ⟨w.heap.size,2,none⟩=false:=(a.frozen (p:=⟨w.heap.size,2,none⟩) (by simp;omega)).trans ((b.frozen (p:=⟨w.heap.size,2,none⟩) (by simp;omega)).trans (by go_simp));have g:w2.cell? ⟨w.heap.size+1,2,none⟩=some (.int .u64 0):=(a.cell (p:=⟨w.heap.size+1,2,none⟩) (by simp;omega)).trans ((b.cell (p:=⟨w.heap.size+1,2,none⟩) (by simp)).trans (by go_simp));have t:w2.frozen? ⟨w.heap.size+1,2,none⟩=false:=(a.frozen (p:=⟨w.heap.size+1,2,none⟩) (by simp;omega)).trans ((b.frozen (p:=⟨w.heap.size+1,2,none⟩) (by simp)).trans (by go_simp));have z:w2.cell? ⟨w.heap.size,3,none⟩=some (.int .u64 (bits .xor .u64 s m)):=(a.cell (p:=⟨w.heap.size,3,none⟩) (by simp;omega)).trans ((b.cell (p:=⟨w.heap.size,3,none⟩) (by simp;omega)).trans (by go_simp));have D:w2.frozen? ⟨w.heap.size,3,none⟩=false:=(a.frozen (p:=⟨w.heap.size,3,none⟩) (by simp;omega)).trans ((b.frozen (p:=⟨w.heap.size,3,none⟩) (by simp;omega)).trans (by go_simp));have o:w2.cell? ⟨w.heap.size+1,3,none⟩=some (.int .u64 0):=(a.cell (p:=⟨w.heap.size+1,3,none⟩) (by simp;omega)).trans ((b.cell (p:=⟨w.heap.size+1,3,none⟩) (by simp)).trans (by go_simp));have G:w2.frozen? ⟨w.heap.size+1,3,none⟩=false:=(a.frozen (p:=⟨w.heap.size+1,3,none⟩) (by simp;omega)).trans ((b.frozen (p:=⟨w.heap.size+1,3,none⟩) (by simp)).trans (by go_simp))))
 refine bodyPost_ret (v:= .agg #[.int .u64 (bits .xor .u64 (round X).p m),.int .u64 (round X).q,.int .u64 (round X).r,.int .u64 (round X).s]) (by simp[results,Tryz.results198,go_sem,i,j,g,o]) rfl ⟨by rw[l.out];rfl,?_⟩
 have f:Below w.heap.size w w2:=by
  refine Below.trans ?_ ((b.mono (B':=w.heap.size) (by simp;omega)).trans (a.mono (B':=w.heap.size) (by omega)))
  repeat (first|exact Below.refl _ _|refine Below.setCell ?_ (by simp) _|refine Below.alloc ?_ (by simp) _)
 repeat (first|(with_reducible exact f)|refine Below.setCell ?_ (by simp) _)
theorem aLC (f:Quad)(m:Int)(w:World)(h:f.ok):
 Calls Tryz.prog 198 #[.agg #[.int .u64 f.p,.int .u64 f.q,.int .u64 f.r,.int .u64 f.s],.int .u64 m] w fun e w'=>e= .returned (.agg #[.int .u64 (quadPlus f m).p,.int .u64 (quadPlus f m).q,.int .u64 (quadPlus f m).r,.int .u64 (quadPlus f m).s])∧Below w.heap.size w w':=aLB f.p f.q f.r f.s m w h
end Sa
namespace Hd
open Bytes8 Blk8 Hm Ha Hb Hc
theorem aGL (A:Option Addr)(b:Nat)(w:World):
 Calls Tryz.prog 117 #[.slice A 0 b] w fun e w'=>e= .returned (.int .u64 (lookS []))∧Below w.heap.size w w':=by
 have d:(⟨3735928559,3735928559,3735928559⟩:Trio).ok:=by unfold Trio.ok;decide
 go_enter Tryz.func117,Tryz.ntmps117
 go_wp2_with(go_at_call 158;(with_reducible refine(aEP _ _ _ _ d).mono ?_);rintro e w1 ⟨rfl,a⟩)
 go_ret
 refine⟨aCa (by decide+kernel),?_⟩
 have c:=((Below.refl w.heap.size w).alloc (yR _) (.cells #[.int .u32 3735928559,.int .u32 3735928559,.int .u32 3735928559] 270))
 exact c.trans (a.mono c.size)
def Rest (w0:World)(g:Nat)(t:Trio)(w:World):Prop:=Blk w g [.int .u32 t.x,.int .u32 t.y,.int .u32 t.z] 270∧Below w0.heap.size w0 w
theorem aPe (l:List Int)(k o:Nat):w4 (l.drop k) o=w4 l (k+o):=by simp[w4,List.drop_drop]
theorem aHO (l:List Int)(n o:Nat)(h:o+4≤n):w4 (l.take n) o=w4 l o:=by
 unfold w4
 rw[List.drop_take,List.take_take,Nat.min_eq_left (by omega)]
theorem aE5 (t:Trio)(l:List Int)(k:Nat):plus3 t (l.drop k) 0=plus3 t l k:=by
 simp only[plus3,aPe,Nat.add_zero]
theorem aJO (t:Trio)(l:List Int):plus3 t (l.take 12) 0=plus3 t l 0:=by
 simp only[plus3,aHO l 12 0 (by omega),aHO l 12 (0+4) (by omega),aHO l 12 (0+8) (by omega)]
theorem aJP (t:Trio)(a:Option Addr)(l:List Int)(c:Nat)(w:World)(hb:Bytes w a l)(f:12≤l.length)(g:t.ok):
 Calls Tryz.prog 159 #[.agg #[.int .u32 t.x,.int .u32 t.y,.int .u32 t.z],.slice a 12 c] w fun e w'=>e= .returned (.agg #[.int .u32 (plus3 t l 0).x,.int .u32 (plus3 t l 0).y,.int .u32 (plus3 t l 0).z])∧Below w.heap.size w w':=by
 have d:Bytes w a (l.take 12):=by
  have h:=hb.part 0 12 a (fun b off e _ _=>by rw[e];rfl)
  rwa[List.drop_zero]at h
 have h:=aII t.x t.y t.z a (l.take 12) 12 c w d (by simp;omega) (by decide) g
 rw[aJO]at h
 exact h
theorem aHP (t:Trio)(w:World)(a:t.ok):
 Calls Tryz.prog 160 #[.agg #[.int .u32 t.x,.int .u32 t.y,.int .u32 t.z]] w fun e w'=>e= .returned (.agg #[.int .u32 (mix t).x,.int .u32 (mix t).y,.int .u32 (mix t).z])∧Below w.heap.size w w':=aKY t.x t.y t.z w a
theorem rest_step (w0 w:World)(t a b:Trio)(d:b=a)(h:Blk w w0.heap.size [.int .u32 t.x,.int .u32 t.y,.int .u32 t.z] 270)(c:Below w0.heap.size w0 w):
 Rest w0 w0.heap.size b (((w.setCell ⟨w0.heap.size,0,none⟩ (.int .u32 a.x)).setCell ⟨w0.heap.size,1,none⟩ (.int .u32 a.y)).setCell ⟨w0.heap.size,2,none⟩ (.int .u32 a.z)):=by
 subst d
 exact⟨((h.set_ 0 _).set_ 1 _).set_ 2 _,((c.setCell (yR _) _).setCell (yR _) _).setCell (yR _) _⟩
theorem aHQ (l:List Int)(k:Nat):trioAt l (k+1)=mix (plus3 (trioAt l k) (l.drop (12*k)) 0):=by
 rw[aE5];rfl
theorem aNC (A:Option Addr)(l:List Int)(len d:Nat)(w:World)(B:Bytes w A l)(I:l.length=len)(t:0<len)(J:len≤1000000)(u:len≤d)(o:d≤maxLen):
 Calls Tryz.prog 117 #[.slice A len d] w fun e w'=>e= .returned (.int .u64 (lookS l))∧Below w.heap.size w w':=by
 unfold maxLen at o
 obtain⟨b,off,rfl,g,R⟩:=B.spot (by omega)
 clear g R
 have HB:=yH B
 have q:=yH I
 clear B I
 have HS:=yH (show lookInit l=⟨3735928559+(len:Int),3735928559+(len:Int),3735928559+(len:Int)⟩by
  have e:add32 3735928559 (l.length:Int)=3735928559+(len:Int):=by have:=q.out;unfold add32;omega
  unfold lookInit;rw[e])
 have aa:((len:Int)==0)=false:=by simp;omega
 go_enter Tryz.func117,Tryz.ntmps117
 go_wp2
 go_loopw [0] (fun s wr=> ∃k n c:Nat,Hid (len=12*k+n∧d=12*k+c)∧0<n∧n≤len∧c≤d∧n≤c∧s= .slice (some ⟨b,off+12*k,none⟩) n c∧Hid (Rest w w.heap.size (trioAt l k) wr)) (fun s _=>match s with| .slice _ n _=>n|_=>0)
 case atStart=>exact⟨0,len,d,yH ⟨by omega,by omega⟩,t,yR _,yR _,u,rfl,by show Hid (Rest _ _ (lookInit l) _);rw[HS.out];exact⟨Blk.new _ _ _,(Below.refl _ _).alloc (yR _) _⟩⟩
 case round=>
  obtain⟨k,n,c,p,ab,ad,ac,Y,rfl,m⟩:=hrel
  have X:=yH m.out.1
  have v:=yH m.out.2
  have g0:=m.out.1.cell (i:=0) rfl
  have g1:=m.out.1.cell (i:=1) rfl
  have g2:=m.out.1.cell (i:=2) rfl
  have G:=m.out.2.size
  have g:=m.out.1.lt
  have F:=yH (HB.out.part (12*k) n (some ⟨b,off+12*k,none⟩) (fun b' off' e _ _=>by simp at e;obtain⟨rfl,rfl⟩:=e;rfl))
  rw[List.take_of_length_le (by have:=q.out;have:=p.out.1;simp;omega)]at F
  have r:=yH (show(l.drop (12*k)).length=n by have:=q.out;have:=p.out.1;simp;omega)
  have C:=yH (F.out.below v.out (yR _)).drew
  by_cases Z:12<n
  ·have D:=yH (show 12≤(l.drop (12*k)).length by have:=r.out;omega)
   have N:decide ((12:Int)<(n:Int))=true:=by simp;omega
   go_wp2
   go_region_with (first|(go_at_call 159;(with_reducible refine(aJP (trioAt l k) _ (l.drop (12*k)) _ _ C.out D.out (aDQ l k)).mono ?_);rintro e w2 ⟨rfl,f⟩)|(go_at_call 160;(with_reducible refine(aHP _ _ (aH9 _ _ _)).mono ?_);rintro e w3 ⟨rfl,j⟩;have a:=yH ((X.out.drew.below f g).below j (yL g f.size));have e0:=a.out.cell (i:=0) rfl;have e1:=a.out.cell (i:=1) rfl;have e2:=a.out.cell (i:=2) rfl;have f0:=a.out.frozen 0;have f1:=a.out.frozen 1;have f2:=a.out.frozen 2))
   all_goals
    go_wp2
    go_roundw
    case rel=>
     have:=p.out.1
     have:=p.out.2
     refine⟨k+1,n-12,c-12,yH ⟨by omega,by omega⟩,by omega,by omega,by omega,by omega,by first|rfl|(congr 3;omega),?_⟩
     exact rest_step w w3 (trioAt l k) _ _ (aHQ l k) a.out ((v.out.drew.trans (f.mono G)).trans (j.mono (Nat.le_trans G f.size)))
    case measure=>simp;omega
  ·have N:decide ((12:Int)<(n:Int))=false:=by simp;omega
   have V:=yH (show(l.length-1)/12=k by rw[q.out,p.out.1];omega)
   have M:=yH (show lookS l=ans (fin (plus3 (trioAt l k) (l.drop (12*k)) 0))by
    unfold lookS
    rw[if_neg (by intro h;have:=q.out;have:=p.out.1;rw[h]at*;simp at*;omega),V.out,aE5])
   go_wp2_with(first|(go_at_call 159;(with_reducible refine(aII (trioAt l k).x (trioAt l k).y (trioAt l k).z _ (l.drop (12*k)) _ _ _ (F.out.below v.out (yR _)) r.out (by omega) (aDQ l k)).mono ?_);rintro e w2 ⟨rfl,f⟩)|(go_at_call 161;(with_reducible refine(aGx _ _ _ _ (aH9 _ _ _)).mono ?_);rintro e w3 ⟨rfl,j⟩)|(go_at_call 158;(with_reducible refine(aEP _ _ _ _ (aPB _)).mono ?_);rintro e w4 ⟨rfl,E⟩))
   go_ret
   refine⟨aCa M.out.symm,?_⟩
   have L:=v.out.trans (f.mono G)
   have H:=L.trans (j.mono L.size)
   exact H.trans (E.mono H.size)
end Hd
namespace Se
open Bytes8 Hm Hd Hf
theorem aIR (A:Option Addr)(l:List Int)(len a:Nat)(w:World)(g:Bytes w A l)(d:l.length=len)(f:len≤800000)(c:len≤a)(b:a≤maxLen):
 Calls Tryz.prog 117 #[.slice A len a] w fun e w'=>e= .returned (.int .u64 (lookS l))∧Below w.heap.size w w':=by
 by_cases h:0<len
 ·exact aNC A l len a w g d h (by omega) c b
 ·obtain rfl:len=0:=by omega
  obtain rfl:l=[]:=List.eq_nil_of_length_eq_zero d
  exact aGL A a w
theorem aEr (A:Option Addr)(l:List Int)(len a:Nat)(w:World)(d:Bytes w A l)(b:l.length=len)(c:len≤800000):
 Calls Tryz.prog 135 #[.slice A len a] w fun e w'=>e= .returned (.int .u64 (lookS l))∧w=w':=by
 by_cases f:0<len
 ·exact aK4 A l len a w d b f (by omega)
 ·obtain rfl:len=0:=by omega
  obtain rfl:l=[]:=List.eq_nil_of_length_eq_zero b
  exact aK3 A a w
end Se
end Go.Proofs.YtlelnfokffflnaaGreat
