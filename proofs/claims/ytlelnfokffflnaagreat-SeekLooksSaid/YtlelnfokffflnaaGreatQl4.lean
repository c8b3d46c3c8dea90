/-
  Texts beneath the proof.
-/
import Derived.Lib.SliceRun
import Derived.Maps.AppendAt
import Derived.Deep.DeepMust
import Derived.Test.YtlelnfokffflnaaGreatQl3
set_option linter.unusedVariables false
set_option linter.unusedSimpArgs false
set_option maxRecDepth 100000
set_option maxHeartbeats 4000000
open Go.ChangeShapes Go.WideShapes Go.ChangeAt Go.RowKit
namespace Go.Proofs.YtlelnfokffflnaaGreat
namespace Oe
open Bytes8 Blk8 Own8 OwnE LeNum Ob Oc Od
theorem aLz (s:Int)(w:World)(g:Nat)(hs:0≤s∧s≤18446744073709551615)(b:w.heap.size=g):
 Calls Tryz.prog 124 #[.slice (some ⟨g,0,none⟩) 1 1] (w.alloc (.cells #[.int .u64 s] 27)) fun e w'=> ∃A c,e= .returned (.slice A 8 c)∧Own w' w.heap.size A 8 c (lowB s 8)∧Below w.heap.size w w':=by
 subst b
 have h:=aEj w.heap.size 1 1 [s] 27 (w.alloc (.cells #[.int .u64 s] 27)) (Blk.new w _ _) (fun v hv=>by simp at hv;omega) rfl (by decide)
 refine h.mono fun e w' ⟨A,c,h1,h2,h3⟩=>⟨A,c,h1,?_,((Below.refl w.heap.size w).alloc (yR _) _).trans (h3.mono (by simp))⟩
 rw[nums_one]at h2
 exact Own.base h2 (by simp)
def sliceLen:Value→Nat
 | .slice _ n _=>n
 |_=>0
theorem aCQ (k:Int)(A:Option Addr)(l:List Int)(n u:Nat)(w:World)(h:1≤k∧k≤7)(R:Bytes w A l)(D:l.length=n)(hn:n≤1000000):
 Calls Tryz.prog 127 #[.int .i64 k,.slice A n u] w (Owned (objB k l) (16+n+padN n) w):=by
 obtain⟨k1,k7⟩:=h
 have HL:=yH D
 have HB:=yH R
 have HN:=yH fun(s:Int) (W:World) (g:Nat) (hs:0≤s∧s≤18446744073709551615) (hg:W.heap.size=g)=>aLz s W g hs hg
 have HK:=yH (show AllB [k,0,0,0,0,0,0,0]from fun x hx=>by simp at hx;omega)
 have hp:=aFs n
 have Z:=yH (show front k n=[k,0,0,0,0,0,0,0]++lowB (16+(n:Int)) 8 by unfold front;rw[show((16+n:Nat):Int)=16+(n:Int)by omega])
 have HO:=yH (show objB k l=front k n++(l++List.replicate (padN n) 0)by unfold objB;rw[D])
 have HP:=yH (show ∀j,j≤padN n→((16+n+j)%8=0↔j=padN n)from fun j L=>by unfold padN at L⊢;omega)
 rw[HO.out]
 generalize padN n=p at*
 clear R D
 go_enter Tryz.func127,Tryz.ntmps127
 go_wp2_with(first
  |(go_at_call 124;(with_reducible refine(HN.out _ _ _ (by omega) (by simp)).mono ?_);rintro e w3 ⟨A3,Y,rfl,q,c⟩;have J:=yH q;have m:=yH c;clear q c)
  |(at_builtin;refine aAd rfl (.tmp 14) (.tmp 20) rfl w.heap.size _ 8 8 [k,0,0,0,0,0,0,0] rfl ((aO2 (Row.new w [k,0,0,0,0,0,0,0]) HK.out (yR _) rfl (show 8≤maxLen by decide)).kept m.out (yR _)) A3 8 Y _ rfl J.out.bytes (aAj _ _) (by omega) ?_;intro A4 c4 w4 y i;have E:=yH y;have z:=yH i;clear y i)
  |(at_builtin;refine aAd rfl (.tmp 22) (.tmp 23) rfl w.heap.size A4 16 c4 _ rfl E.out A n u l rfl (HB.out.below (((Below.refl _ _).alloc (yR _) _).trans ((m.out.mono (by simp)).trans z.out)) (yR _)) HL.out (by omega) ?_;intro V c5 w5 B f;have F:=yH B;have I:=yH f;clear B f))
 go_loopw [5] (fun s wr=> ∃(j:Nat) (o:Option Addr) (t:Nat),j≤p∧s= .slice o (16+n+j) t∧Hid (Own wr w.heap.size o (16+n+j) t (front k n++(l++List.replicate j 0)))∧Hid (Below w.heap.size w wr)) (fun s _=>p+16+n-sliceLen s)
 case atStart=>
  refine⟨0,V,c5,Nat.zero_le _,rfl,?_,yH (((Below.refl _ _).alloc (yR _) _).trans ((m.out.mono (by simp)).trans (z.out.trans I.out)))⟩
  have h:=F.out
  rw[Z.out,List.replicate_zero,List.append_nil]
  exact h
 case round=>
  obtain⟨j,o,t,L,rfl,N,d⟩:=hrel
  have M:=HP.out j L
  by_cases aa:j<p
  ·have X: ¬(16+n+j)%8=0:=by omega
   have H: ¬(((16+n+j:Nat):Int)%8=0):=by omega
   clear M
   go_wp2_with(at_builtin;refine aAd rfl (.tmp 29) (.tmp 30) rfl w.heap.size o (16+n+j) t _ rfl (N.out.kept ((Below.refl _ _).alloc (yR _) _) (yR _)) (some ⟨wr.heap.size,0,none⟩) 1 1 [0] rfl (Row.bytes (Row.new wr [0]) (AllB.zeros 1)) rfl (by omega) ?_;intro A7 c7 w7 r b;have C:=yH r;have G:=yH b;clear r b)
   go_roundw
   case rel=>
    refine⟨j+1,A7,c7,by omega,rfl,?_,yH ((d.out.alloc d.out.size _).trans G.out)⟩
    have h:=C.out
    rw[List.append_assoc,List.append_assoc,show List.replicate j (0:Int)++ [0]=List.replicate (j+1) 0 by rw[List.replicate_succ']]at h
    exact h
   case measure=>simp[sliceLen];omega
  ·obtain rfl:j=p:=by omega
   have X:(16+n+j)%8=0:=by omega
   have H:((16+n+j:Nat):Int)%8=0:=by omega
   clear M
   go_wp2
   go_ret
   exact⟨o,t,rfl,N.out,d.out⟩
end Oe
namespace Og
open Bytes8 Blk8 Own8 OwnE LeA LeB Ob Oc
theorem aGI (t:TypeId)(A:Option Addr)(len b c d:Nat)(w:World)(hs:(sizeOf (Tryz.prog.elem t)).run Tryz.prog w= .ok 1 w)(f:Tryz.prog.underlying t=some (.slice (Tryz.prog.elem t)))(i:c≤d)(g:d≤b):
 (Instr.slice t (.slice A len b) (some (.int .u64 c)) (some (.int .u64 d)) none).run Tryz.prog w= .ok (.slice (cutA A b c) (d-c) (b-c)) w:=by
 rw[run_slice_lh w t A len b f .u64 .u64 c d (by omega) (by omega) (by omega),hs]
 simp[Result.andThen,sliced,cutA]
theorem aGJ (t:TypeId)(A:Option Addr)(len b c:Nat)(w:World)(hs:(sizeOf (Tryz.prog.elem t)).run Tryz.prog w= .ok 1 w)(d:Tryz.prog.underlying t=some (.slice (Tryz.prog.elem t)))(f:c≤len):
 (Instr.slice t (.slice A len b) (some (.int .u64 c)) none none).run Tryz.prog w= .ok (.slice (cutA A b c) (len-c) (b-c)) w:=by
 rw[run_slice_l w t A len b d .u64 c (by omega) (by omega),hs]
 simp[Result.andThen,sliced,cutA]
theorem aHN (A:Option Addr)(len b c d:Nat)(L H:Int)(g:L=(c:Int))(f:H=(d:Int))(j:c≤d)(i:d≤b)(w:World):
 (Instr.slice 24 (.slice A len b) (some (.int .u64 L)) (some (.int .u64 H)) none).run Tryz.prog w= .ok (.slice (cutA A b c) (d-c) (b-c)) w:=by
 subst g f
 exact aGI _ A len b c d w (by rw[aDy];exact aDc w) (by rw[aDy];exact Tryz.underlying24) j i
theorem aOk (A:Option Addr)(len b c:Nat)(d:c≤len)(w:World):
 (Instr.slice 24 (.slice A len b) (some (.int .u64 c)) none none).run Tryz.prog w= .ok (.slice (cutA A b c) (len-c) (b-c)) w:=
 aGJ _ A len b c w (by rw[aDy];exact aDc w) (by rw[aDy];exact Tryz.underlying24) d
abbrev frV (k s:Int):Value:= .agg #[.int .i64 k,.int .i64 0,.int .u64 s]
def FrTold (k s c:Int)(w:World)(e:Ending)(w':World):Prop:=e= .returned (.tuple #[frV k s,.int .i64 c])∧Below w.heap.size w w'
theorem aP7 (a:Option Addr)(n b:Nat)(w:World)(h:n<16):
 Calls Tryz.prog 55 #[.slice a n b,.int .i64 8,.int .i64 8] w fun e w'=>e= .returned (.tuple #[.int .u64 0,.bool false])∧w=w':=
 aPR a n b 8 8 w (by omega) (by simp[fits,isW];omega)
theorem aIQ (A:Option Addr)(l:List Int)(n m a:Nat)(w:World)(x:Bytes w A l)(E:l.length=n)(hn:n≤1000000)(hc:n≤m)(I:m≤maxLen)(ha:a≤18446744073709551615):
 Calls Tryz.prog 20 #[.slice A n m,.int .u64 (a:Int)] w (FrTold (kindL l a) (sizeL l a) (code l a) w):=by
 have b0:Below w.heap.size w (w.alloc (.cells #[.int .i64 0,.int .i64 0,.int .u64 0] 46)):=(Below.refl w.heap.size w).alloc (yR _) _
 have i:=yH b0
 unfold maxLen at I
 have z:Hid (kindL l a=if code l a=0 then l.getD a 0 else 0):=yH rfl
 have y:Hid (sizeL l a=if code l a=0 then u8 l (a+8)else 0):=yH rfl
 have no: ∀c:Int,c≠0→code l a=c→kindL l a=0∧sizeL l a=0:=fun c h0 h=>⟨z.out.trans (if_neg (by omega)),y.out.trans (if_neg (by omega))⟩
 have HA:=yH x.1
 by_cases h1:a%8≠0
 ·have d:code l a=3:=by unfold code;rw[if_pos h1]
  obtain⟨o,j⟩:=no 3 (by decide) d
  rw[d,o,j]
  have N: ¬(a:Int)%8=0:=by omega
  clear x no z y d o j E h1
  go_enter Tryz.func20,Tryz.ntmps20
  go_wp2
  refine bodyPost_ret (v:= .tuple #[frV 0 0,.int .i64 3]) (by simp[results_cell_tmp Tryz.results20,go_sem,Result.andThen]) rfl ⟨rfl,?_⟩
  (repeat (first|(with_reducible exact i.out)|(with_reducible exact Below.refl _ _)|refine Below.setCell ?_ (by simp) _|refine Below.alloc ?_ (by simp) _|refine Below.drew ?_|refine below_drewN ?_ _))
 have N:(a:Int)%8=0:=by omega
 by_cases h2:n<a+16
 ·have d:code l a=2:=by unfold code;rw[if_neg h1,if_pos (by omega)]
  obtain⟨o,j⟩:=no 2 (by decide) d
  rw[d,o,j]
  by_cases t:n<a
  ·clear x no z y d o j E h1
   go_enter Tryz.func20,Tryz.ntmps20
   go_wp2
   refine bodyPost_ret (v:= .tuple #[frV 0 0,.int .i64 2]) (by simp[results_cell_tmp Tryz.results20,go_sem,Result.andThen]) rfl ⟨rfl,?_⟩
   (repeat (first|(with_reducible exact i.out)|(with_reducible exact Below.refl _ _)|refine Below.setCell ?_ (by simp) _|refine Below.alloc ?_ (by simp) _|refine Below.drew ?_|refine below_drewN ?_ _))
  ·have hcut:=aOk A n m a (by omega)
   have B:=yH fun(W:World)=>aP7 (cutA A m a) (n-a) (m-a) W (by omega)
   generalize cutA A m a=C at*
   clear x no z y d o j E h1
   go_enter Tryz.func20,Tryz.ntmps20
   go_wp2_with(go_at_call 55;(with_reducible refine(B.out _).mono ?_);rintro e w' ⟨rfl,rfl⟩)
   refine bodyPost_ret (v:= .tuple #[frV 0 0,.int .i64 2]) (by simp[results_cell_tmp Tryz.results20,go_sem,Result.andThen]) rfl ⟨rfl,?_⟩
   (repeat (first|(with_reducible exact i.out)|(with_reducible exact Below.refl _ _)|refine Below.setCell ?_ (by simp) _|refine Below.alloc ?_ (by simp) _|refine Below.drew ?_|refine below_drewN ?_ _))
 obtain⟨b,G,rfl,ac,q⟩:=x.spot (by omega)
 have hcut:=aOk (some ⟨b,G,none⟩) n m a (by omega)
 have D:=yH (Bytes.cut x m a (n-a) (by omega))
 rw[aCN,if_neg (by omega)]at hcut D
 have F:Hid (((l.drop a).take (n-a)).length=n-a):=yH (by simp;omega)
 have H:u8 ((l.drop a).take (n-a)) 8=u8 l (a+8):=by
  have e:(l.drop a).take (n-a)=l.drop a:=List.take_of_length_le (by simp;omega)
  unfold u8
  rw[e,List.drop_drop]
 have B:=yH fun(W:World) (h:Below w.heap.size w W)=>get8 (some ⟨b,G+a,none⟩) _ (n-a) (m-a) 8 8 W rfl F.out (by omega) (D.out.below h (yR _)) (by omega)
 rw[H]at B
 have ag:=q a (by omega)
 have J:=q (a+1) (by omega)
 rw[←Nat.add_assoc]at J
 obtain⟨ae,aa⟩:=aCE x.1 (a+8)
 obtain⟨Y,Z⟩:=x.1.at_ a
 obtain⟨V,X⟩:=x.1.at_ (a+1)
 have g:code l a=if l.getD a 0<1∨7<l.getD a 0 then 4 else if l.getD (a+1) 0≠0 then 7 else if u8 l (a+8)<16 then 5 else if(n:Int)<a+u8 l (a+8)then 2 else 0:=by
  unfold code
  rw[if_neg h1,if_neg (by omega),E]
 have r:=yH fun(W:World)=>aJE (l.getD a 0) W
 generalize u8 l (a+8)=s at*
 generalize l.getD a 0=k at*
 generalize l.getD (a+1) 0=f at*
 have ab:a+16≤n:=by omega
 have ad:0<n-a:=by omega
 have ah:1<n-a:=by omega
 have R:(1:Int)<((n-a:Nat):Int):=by omega
 have af:b<(w.alloc (.cells #[.int .i64 0,.int .i64 0,.int .u64 0] 46)).heap.size:=by simp;omega
 clear D F x q E h1 h2 H
 by_cases t:k<1∨7<k
 ·have d:code l a=4:=by rw[g,if_pos t]
  obtain⟨o,j⟩:=no 4 (by decide) d
  rw[d,o,j]
  have p:(decide (1≤k)&&decide (k≤7))=false:=by simp;omega
  rw[p]at r
  clear p t
  clear no z y d o j g
  go_enter Tryz.func20,Tryz.ntmps20
  go_wp2_with(go_at_call 55;(with_reducible refine(B.out _ i.out).mono ?_);rintro e w' ⟨rfl,rfl⟩)
  go_region
  all_goals
   go_wp2_with(go_at_call 56;(with_reducible refine(r.out _).mono ?_);rintro e w' ⟨rfl,rfl⟩)
   refine bodyPost_ret (v:= .tuple #[frV 0 0,.int .i64 4]) (by simp[results_cell_tmp Tryz.results20,go_sem,Result.andThen]) rfl ⟨rfl,?_⟩
   (repeat (first|(with_reducible exact i.out)|(with_reducible exact Below.refl _ _)|refine Below.setCell ?_ (by simp) _|refine Below.alloc ?_ (by simp) _|refine Below.drew ?_|refine below_drewN ?_ _))
 have p:(decide (1≤k)&&decide (k≤7))=true:=by simp;omega
 rw[p]at r
 by_cases h4:f≠0
 ·have d:code l a=7:=by rw[g,if_neg t,if_pos h4]
  obtain⟨o,j⟩:=no 7 (by decide) d
  rw[d,o,j]
  clear p t
  clear no z y d o j g
  go_enter Tryz.func20,Tryz.ntmps20
  go_wp2_with(go_at_call 55;(with_reducible refine(B.out _ i.out).mono ?_);rintro e w' ⟨rfl,rfl⟩)
  go_region
  all_goals
   go_wp2_with(go_at_call 56;(with_reducible refine(r.out _).mono ?_);rintro e w' ⟨rfl,rfl⟩)
   refine bodyPost_ret (v:= .tuple #[frV 0 0,.int .i64 7]) (by simp[results_cell_tmp Tryz.results20,go_sem,Result.andThen]) rfl ⟨rfl,?_⟩
   (repeat (first|(with_reducible exact i.out)|(with_reducible exact Below.refl _ _)|refine Below.setCell ?_ (by simp) _|refine Below.alloc ?_ (by simp) _|refine Below.drew ?_|refine below_drewN ?_ _))
 by_cases M:s<16
 ·have d:code l a=5:=by rw[g,if_neg t,if_neg h4,if_pos M]
  obtain⟨o,j⟩:=no 5 (by decide) d
  rw[d,o,j]
  have u:f=0:=by omega
  subst u
  clear p t h4
  clear no z y d o j g
  go_enter Tryz.func20,Tryz.ntmps20
  go_wp2_with(go_at_call 55;(with_reducible refine(B.out _ i.out).mono ?_);rintro e w' ⟨rfl,rfl⟩)
  go_region
  all_goals
   go_wp2_with(go_at_call 56;(with_reducible refine(r.out _).mono ?_);rintro e w' ⟨rfl,rfl⟩)
   refine bodyPost_ret (v:= .tuple #[frV 0 0,.int .i64 5]) (by simp[results_cell_tmp Tryz.results20,go_sem,Result.andThen]) rfl ⟨rfl,?_⟩
   (repeat (first|(with_reducible exact i.out)|(with_reducible exact Below.refl _ _)|refine Below.setCell ?_ (by simp) _|refine Below.alloc ?_ (by simp) _|refine Below.drew ?_|refine below_drewN ?_ _))
 by_cases h6:(n:Int)<a+s
 ·have d:code l a=2:=by rw[g,if_neg t,if_neg h4,if_neg M,if_pos h6]
  obtain⟨o,j⟩:=no 2 (by decide) d
  rw[d,o,j]
  have u:f=0:=by omega
  have L:((n-a:Nat):Int)<s:=by omega
  subst u
  clear p t h4 h6
  clear no z y d o j g
  go_enter Tryz.func20,Tryz.ntmps20
  go_wp2_with(go_at_call 55;(with_reducible refine(B.out _ i.out).mono ?_);rintro e w' ⟨rfl,rfl⟩)
  go_region
  all_goals
   go_wp2_with(go_at_call 56;(with_reducible refine(r.out _).mono ?_);rintro e w' ⟨rfl,rfl⟩)
   refine bodyPost_ret (v:= .tuple #[frV 0 0,.int .i64 2]) (by simp[results_cell_tmp Tryz.results20,go_sem,Result.andThen]) rfl ⟨rfl,?_⟩
   (repeat (first|(with_reducible exact i.out)|(with_reducible exact Below.refl _ _)|refine Below.setCell ?_ (by simp) _|refine Below.alloc ?_ (by simp) _|refine Below.drew ?_|refine below_drewN ?_ _))
 ·have d:code l a=0:=by rw[g,if_neg t,if_neg h4,if_neg M,if_neg h6]
  have o:=z.out.trans (if_pos d)
  have j:=y.out.trans (if_pos d)
  rw[d,o,j]
  have u:f=0:=by omega
  have L: ¬((n-a:Nat):Int)<s:=by omega
  subst u
  clear p t h4 h6 no z y d o j g
  go_enter Tryz.func20,Tryz.ntmps20
  go_wp2_with(go_at_call 55;(with_reducible refine(B.out _ i.out).mono ?_);rintro e w' ⟨rfl,rfl⟩)
  go_region
  all_goals
   go_wp2_with(go_at_call 56;(with_reducible refine(r.out _).mono ?_);rintro e w' ⟨rfl,rfl⟩)
   refine bodyPost_ret (v:= .tuple #[frV k s,.int .i64 0]) (by simp[results_cell_tmp Tryz.results20,go_sem,Result.andThen]) rfl ⟨rfl,?_⟩
   (repeat (first|(with_reducible exact i.out)|(with_reducible exact Below.refl _ _)|refine Below.setCell ?_ (by simp) _|refine Below.alloc ?_ (by simp) _|refine Below.drew ?_|refine below_drewN ?_ _))
end Og
namespace Gn
open Bytes8 Blk8 Own8 LeNum RefB Ob Od Rows2
def ints (f:Nat→Int)(k:Nat):List Int:=(List.range k).map f
theorem ints_succ (f:Nat→Int)(k:Nat):ints f (k+1)=ints f k++ [f k]:=by simp[ints,List.range_succ]
theorem ints_len (f:Nat→Int)(k:Nat):(ints f k).length=k:=by simp[ints]
theorem ints_nums (f:Nat→Int)(k:Nat):nums (ints f (k+1))=nums (ints f k)++lowB (f k) 8:=by rw[ints_succ,aCD]
theorem rnums_in (D:Option Addr)(n t:Nat)(f:Nat→Int)(w:World)(C:InInts .u64 w D n f)(B:n≤100000):
 Calls Tryz.prog 124 #[.slice D n t] w fun e w'=> ∃A c,e= .returned (.slice A (8*n) c)∧Own w' w.heap.size A (8*n) c (nums (ints f n))∧Below w.heap.size w w':=by
 have I:=yH C
 clear C
 go_enter Tryz.func124,Tryz.ntmps124
 go_wp2
 go_loopw [3,4] (fun s i wr=> ∃(k:Nat) (A:Option Addr) (c:Nat),k≤n∧i= .int .i64 (k:Int)∧s= .slice A (8*k) c∧Hid (Own wr w.heap.size A (8*k) c (nums (ints f k)))∧Hid (Below w.heap.size w wr)) (fun _ i _=>n-(intOf i).toNat)
 case atStart=>exact⟨0,none,0,Nat.zero_le _,rfl,rfl,Own.nil w _ (yR _),Below.refl _ _⟩
 case round=>
  obtain⟨k,A,c,Y,rfl,rfl,E,d⟩:=hrel
  by_cases o:k<n
  ·obtain⟨b,L,rfl,Z,X,G⟩:=(I.out.below d.out) k o
   obtain⟨M,J⟩:=bounds_u64 G
   have R:=yH (ints_nums f k)
   have u:=d.out.size
   generalize f k=x at*
   have r:=yH fun(W:World)=>aFC x 8 8 W M J (by decide) rfl
   go_wp2_with(first|(go_at_call 123;(with_reducible refine(r.out _).mono ?_);rintro e w2 ⟨F,N,rfl,m,j⟩;have q:=yH m;have p:=yH j;clear m j)|(at_builtin;refine aAd rfl (.tmp 11) (.tmp 16) rfl w.heap.size A (8*k) c (nums (ints f k)) rfl (E.out.kept p.out (yR _)) F 8 N _ rfl q.out.bytes (aAj _ _) (by omega) ?_;intro V H w3 l g;have y:=yH l;have z:=yH g;clear l g))
   go_roundw
   case rel=>
    refine⟨k+1,V,H,by omega,by go_num,rfl,?_,yH ((d.out.trans (p.out.mono u)).trans z.out)⟩
    rw[R.out]
    exact y
   case measure=>simp[intOf];omega
  ·obtain rfl:k=n:=by omega
   go_wp2
   go_ret
   exact⟨A,c,rfl,E.out,d.out⟩
end Gn
namespace Cl8
end Cl8
namespace OwnA
open Bytes8 Own8
def ownB (A:Option Addr):Option Nat:=A.map (·.block)
theorem aCl (A:Option Addr)(n c:Nat):(Value.slice A n c).ownBlock=ownB A:=by cases A<;>rfl
theorem aNB {w w':World}{base n c:Nat}{row:Option Nat}{A:Option Addr}{l:List Int}(h:Own w base A n c l)(m:w.grownBy w' row)(f: ∀g,ownB A=some g→row≠some g):Own w' base A n c l:=by
 refine⟨h.1,h.2.1,Nat.le_trans h.2.2.1 m.size,h.2.2.2.1,?_⟩
 rcases h.2.2.2.2 with b|⟨k,i,j,b,p,d,o⟩
 ·exact .inl b
 ·refine .inr ⟨k,i,j,b,p,?_,o⟩
  have q:k<w.heap.size:=by
   rcases Nat.lt_or_ge k w.heap.size with h|h
   ·exact h
   ·rw[Array.getElem?_eq_none h]at d;cases d
  injection b with e1 e2 e3
  subst e1
  rw[m.block k q (fun e=>f k rfl e.symm)];exact d
theorem aCR (w:World)(Z:TypeId)(base:Nat)(A:Option Addr)(n c:Nat)(l:List Int)(o:Own w base A n c l)(F:Option Addr)(m X:Nat)(d:List Int)(Y:Bytes w F d)(H:d.length=m)(ab:n+m≤70368744177664):
 ∃b q w',(Builtin.append_ #[24,24] Z #[.slice A n c,.slice F m X]).run Tryz.prog w= .ok (.slice b (n+m) q) w'∧Own w' base b (n+m) q (l++d)∧w.grownBy w' (ownB A)∧(ownB b=ownB A∨ownB b=some w.heap.size):=by
 obtain⟨i,E,C⟩:=Option.map_eq_some_iff.1 aJ3
 simp only[Prod.mk.injEq]at C
 obtain⟨hz,hs,D⟩:=C
 have k:=o.2.2.2
 have t: ∀(p:Value) (w':World),w'.ownsRow base 5 1 p (n+m) (l.map (Value.int .u8)++d.map (Value.int .u8))→w.grownBy w' (Value.slice A n c).ownBlock→(p.ownBlock=(Value.slice A n c).ownBlock∨p.ownBlock=some w.heap.size)→
  ∃b q,p= .slice b (n+m) q∧Own w' base b (n+m) q (l++d)∧w.grownBy w' (ownB A)∧(ownB b=ownB A∨ownB b=some w.heap.size):=by
  intro p w' s y r
  have f:=y.size
  rw[aCl]at y r
  have G:(l++d).length=n+m:=by rw[List.length_append,o.2.1,H]
  rw[←List.map_append]at s
  rcases s.2 with⟨rfl,h0⟩|⟨g,J,V,rfl,_⟩
  ·rw[h0]at s G⊢
   rw[aCl]at r
   exact⟨none,0,rfl,⟨o.1.app Y.1,G,Nat.le_trans o.2.2.1 f,s⟩,y,r⟩
  ·rw[aCl]at r
   exact⟨_,_,rfl,⟨o.1.app Y.1,G,Nat.le_trans o.2.2.1 f,s⟩,y,r⟩
 have B:(d.map (Value.int .u8)).length=m*1:=by simp[H]
 by_cases h0:0<d.length
 ·obtain⟨N,rfl,z⟩:=Y.source w (Below.refl _ _) h0
  obtain⟨p,w',I,s,y,_,r⟩:=run_append_own_at (P:=Tryz.prog) w base 24 Z 5 i (.int .u8 0) 1 1 Tryz.underlying24 E hz hs D rfl (by decide) _ n _ k N m X (d.map (Value.int .u8)) B
   (fun j u hu=>by
     rw[List.getElem?_map]at hu
     obtain⟨x,hx,rfl⟩:=Option.map_eq_some_iff.1 hu
     exact z j x hx) (ones d) (by unfold maxLen;omega) (by omega) o.2.2.1
  obtain⟨b,q,rfl,L⟩:=t p w' s y r
  exact⟨b,q,w',I,L⟩
 ·obtain rfl:d=[]:=List.eq_nil_of_length_eq_zero (by omega)
  obtain rfl:m=0:=by simpa using H.symm
  cases F with
  |some N=>
   obtain⟨p,w',I,s,y,_,r⟩:=run_append_own_at (P:=Tryz.prog) w base 24 Z 5 i (.int .u8 0) 1 1 Tryz.underlying24 E hz hs D rfl (by decide) _ n _ k N 0 X [] rfl
    (fun j u hu=>by simp at hu) (fun u hu=>by cases hu) (by unfold maxLen;omega) (by omega) o.2.2.1
   obtain⟨b,q,rfl,L⟩:=t p w' s y r
   exact⟨b,q,w',I,L⟩
  |none=>
   refine⟨A,c,w,?_,?_,World.grownBy.refl _ _,.inl rfl⟩
   ·rcases k.2 with⟨R,aa⟩|⟨g,J,V,R,_,_,M,_⟩
    ·injection R with e1 e2 e3
     subst e1;subst e2;subst e3
     simp[Builtin.append_,run_underlying Tryz.underlying24,sizeOf,typeInfo,E,Builtin.lenOf,Builtin.firstCells]
    ·injection R with e1 e2 e3
     subst e1;subst e3
     simp[Builtin.append_,run_underlying Tryz.underlying24,sizeOf,typeInfo,E,Builtin.lenOf,Builtin.firstCells,M,storeCells]
   ·rw[Nat.add_zero,List.append_nil];exact o
end OwnA
namespace Dc
open Bytes8 Blk8 Own8 OwnA OwnE
theorem aAA {E S:TypeId}{size d:Nat}{z:Value}(s:Elt E S size d z)(w:World)(D:TypeId)(base:Nat)(A:Option Addr)(n c:Nat)(xs:List Value)(q:OwnE E size w base A n c xs)(t:Addr)(m C:Nat)(b:List Value)(J:b.length=m*size)
 (k: ∀j u,b[j]? =some u→w.cell? (t.add j)=some u)(H: ∀u∈b,u.oneCell'=true)(M:n+m≤4611686018427387904)(f:(n+m)*d≤140737488355328)(x:n+m≤maxLen):
 ∃A' c' w',(Builtin.append_ #[S,S] D #[.slice A n c,.slice (some t) m C]).run Tryz.prog w= .ok (.slice A' (n+m) c') w'∧OwnE E size w' base A' (n+m) c' (xs++b)∧w.grownBy w' (ownB A)∧(ownB A'=ownB A∨ownB A'=some w.heap.size):=by
 obtain⟨i,F,p⟩:=Option.map_eq_some_iff.1 s.info
 simp only[Prod.mk.injEq]at p
 obtain⟨G,hs,y⟩:=p
 obtain⟨R,w',B,r,l,V,o⟩:=run_append_own_at (P:=Tryz.prog) w base S D E i z size d s.under F G hs y s.zero s.pos _ n xs q.2 t m C b J k H x f q.1
 rw[aCl]at l o
 rcases r.2 with⟨rfl,L⟩|⟨g,I,N,rfl,_⟩
 ·rw[L]at r⊢
  rw[aCl]at o
  exact⟨none,0,w',B,⟨Nat.le_trans q.1 l.size,r⟩,l,o⟩
 ·rw[aCl]at o
  exact⟨_,_,w',B,⟨Nat.le_trans q.1 l.size,r⟩,l,o⟩
theorem aAe {E S:TypeId}{size d:Nat}{z:Value}(J:Elt E S size d z){w:World}{k:Array Oper}{rest:List Oper}{o:Oper}{a:Act}{Q:Exit→Act→World→Prop}(p:o.guard=none)(s x:Operand)
 (r:o.op= .call {callee:= .builtin .append,args:= #[s,x],argTypes:= #[S,S]})
 (base:Nat)(A:Option Addr)(n c:Nat)(xs:List Value)(hs:a.eval s= .slice A n c)(M:OwnE E size w base A n c xs)(q:Addr)(m B:Nat)(b:List Value)(G:a.eval x= .slice (some q) m B)(L:b.length=m*size)
 (g: ∀j u,b[j]? =some u→w.cell? (q.add j)=some u)(F: ∀u∈b,u.oneCell'=true)(y:n+m≤4611686018427387904)(f:(n+m)*d≤140737488355328)(t:n+m≤maxLen)
 (h: ∀i l w',OwnE E size w' base i (n+m) l (xs++b)→w.grownBy w' (ownB A)→(ownB i=ownB A∨ownB i=some w.heap.size)→wpList Tryz.prog k Q rest (a.put o.dst (.slice i (n+m) l)) w'):wpList Tryz.prog k Q (o::rest) a w:=
 wpList_plain p fun _ hK=>by
  obtain⟨i,l,w',D,I,C,H⟩:=aAA J w o.type base A n c xs M q m B b L g F y f t
  unfold Oper.wp execOp
  simp only[r,resolve,invoke,builtin,Sem.run_bind,Sem.run_pure,Result.andThen_ok,List.map_toArray,List.map_cons,List.map_nil,hs,G,D]
  exact hK _ _ (h i l w' I C H)
theorem aCS {E S:TypeId}{size d:Nat}{z:Value}(M:Elt E S size d z){w:World}{k:Array Oper}{o:Oper}{a:Act}{K:Act→World→Prop}{Q:Exit→Act→World→Prop}{F:Prop}(p:o.guard=none)(s x:Operand)
 (r:o.op= .call {callee:= .builtin .append,args:= #[s,x],argTypes:= #[S,S]})
 (base:Nat)(A:Option Addr)(n c:Nat)(xs:List Value)(hs:a.eval s= .slice A n c)(R:OwnE E size w base A n c xs)(q:Addr)(m B:Nat)(b:List Value)(I:a.eval x= .slice (some q) m B)(N:b.length=m*size)
 (g: ∀j u,b[j]? =some u→w.cell? (q.add j)=some u)(H: ∀u∈b,u.oneCell'=true)(y:n+m≤4611686018427387904)(f:(n+m)*d≤140737488355328)(t:n+m≤maxLen)
 (h: ∀i l w',OwnE E size w' base i (n+m) l (xs++b)→w.grownBy w' (ownB A)→(ownB i=ownB A∨ownB i=some w.heap.size)→K (a.put o.dst (.slice i (n+m) l)) w'):
 if Region.wanted o (yielded k a.tmps)=true then Oper.wp Tryz.prog o a w K Q else F:=by
 have C:Region.wanted o (yielded k a.tmps)=true:=by simp[Region.wanted,p]
 rw[if_pos C]
 obtain⟨i,l,w',G,L,D,J⟩:=aAA M w o.type base A n c xs R q m B b N g H y f t
 unfold Oper.wp execOp
 simp only[r,resolve,invoke,builtin,Sem.run_bind,Sem.run_pure,Result.andThen_ok,List.map_toArray,List.map_cons,List.map_nil,hs,I,G]
 exact h i l w' L D J
theorem OwnE.keptG {E:TypeId}{size:Nat}{w w':World}{base n c:Nat}{row:Option Nat}{A:Option Addr}{xs:List Value}(h:OwnE E size w base A n c xs)(l:w.grownBy w' row)(f: ∀g,ownB A=some g→row≠some g):OwnE E size w' base A n c xs:=by
 refine⟨Nat.le_trans h.1 l.size,h.2.1,?_⟩
 rcases h.2.2 with b|⟨k,i,j,b,o,d,m⟩
 ·exact .inl b
 ·refine .inr ⟨k,i,j,b,o,?_,m⟩
  have p:k<w.heap.size:=by
   rcases Nat.lt_or_ge k w.heap.size with h|h
   ·exact h
   ·rw[Array.getElem?_eq_none h]at d;cases d
  injection b with e1 e2 e3
  subst e1
  rw[l.block k p (fun e=>f k rfl e.symm)];exact d
theorem OwnE.ltB {E:TypeId}{size:Nat}{w:World}{base n c:Nat}{A:Option Addr}{xs:List Value}(h:OwnE E size w base A n c xs): ∀g,ownB A=some g→base≤g∧g<w.heap.size:=fun g hg=>h.lt g (by rw[aCl];exact hg)
end Dc
namespace Sa
open Bytes8 Blk8 Hm Ha
theorem aGK (p q r s:Int)(w:World)(h:(⟨p,q,r,s⟩:Quad).ok):
 Calls Tryz.prog 199 #[.agg #[.int .u64 p,.int .u64 q,.int .u64 r,.int .u64 s]] w fun e w'=>e= .returned (.agg #[.int .u64 (round ⟨p,q,r,s⟩).p,.int .u64 (round ⟨p,q,r,s⟩).q,.int .u64 (round ⟨p,q,r,s⟩).r,.int .u64 (round ⟨p,q,r,s⟩).s])∧Below w.heap.size w w':=by
 obtain⟨⟨f,d⟩,⟨b,c⟩,⟨r0,r1⟩,⟨i,g⟩⟩:=h
 simp only at f d b c r0 r1 i g
 go_enter Tryz.func199,Tryz.ntmps199
 go_wp2
 go_quiet (fail)
 go_wp2_with(go_at_call 233;(with_reducible refine(aP0 _ _ _ (by first|assumption|exact(b64 _ _ _).1|exact(aCq _ _).1|exact(aCp _).1|omega) (by first|assumption|exact(b64 _ _ _).2|exact(aCq _ _).2|exact(aCp _).2|omega) (by decide) (by decide)).mono ?_);rintro e w' ⟨rfl,rfl⟩)
 refine bodyPost_ret (v:= .agg #[.int .u64 (round ⟨p,q,r,s⟩).p,.int .u64 (round ⟨p,q,r,s⟩).q,.int .u64 (round ⟨p,q,r,s⟩).r,.int .u64 (round ⟨p,q,r,s⟩).s]) (by simp[results,Tryz.results199,go_sem,round,add64,xor64,IntKind.wrap_u64]) rfl ⟨rfl,?_⟩
 repeat (first|exact Below.refl _ _|refine Below.setCell ?_ (by simp) _|refine Below.alloc ?_ (by simp) _|refine below_drewN ?_ _)
theorem aLA (f:Quad)(w:World)(h:f.ok):
 Calls Tryz.prog 199 #[.agg #[.int .u64 f.p,.int .u64 f.q,.int .u64 f.r,.int .u64 f.s]] w fun e w'=>e= .returned (.agg #[.int .u64 (round f).p,.int .u64 (round f).q,.int .u64 (round f).r,.int .u64 (round f).s])∧Below w.heap.size w w':=aGK f.p f.q f.r f.s w h
theorem aLB (p q r s m:Int)(w:World)(h:(⟨p,q,r,s⟩:Quad).ok):
 Calls Tryz.prog 198 #[.agg #[.int .u64 p,.int .u64 q,.int .u64 r,.int .u64 s],.int .u64 m] w fun e w'=>e= .returned (.agg #[.int .u64 (quadPlus ⟨p,q,r,s⟩ m).p,.int .u64 (quadPlus ⟨p,q,r,s⟩ m).q,.int .u64 (quadPlus ⟨p,q,r,s⟩ m).r,.int .u64 (quadPlus ⟨p,q,r,s⟩ m).s])∧Below w.heap.size w w':=by
 have n:=yH fun w=>aGK p q r (bits .xor .u64 s m) w ⟨h.1,h.2.1,h.2.2.1,b64 .xor s m⟩
 have k:=yH (show quadPlus ⟨p,q,r,s⟩ m=⟨xor64 (round (round ⟨p,q,r,bits .xor .u64 s m⟩)).p m,(round (round ⟨p,q,r,bits .xor .u64 s m⟩)).q,(round (round ⟨p,q,r,bits .xor .u64 s m⟩)).r,(round (round ⟨p,q,r,bits .xor .u64 s m⟩)).s⟩from rfl)
 have g:=yH (aE8 ⟨p,q,r,bits .xor .u64 s m⟩)
 generalize quadPlus ⟨p,q,r,s⟩ m=Z at*
 generalize round ⟨p,q,r,bits .xor .u64 s m⟩=X at*
 go_enter Tryz.func198,Tryz.ntmps198
 go_wp2_with(first|(go_at_call 199;(with_reducible refine(n.out _).mono ?_);rintro e w1 ⟨rfl,c⟩;have d:=c.size;simp at d)|(go_at_call 199;(with_reducible refine(aLA X _ g.out).mono ?_);rintro e w2 ⟨rfl,b⟩;have l:=b.size;have B:w2.cell? ⟨w.heap.size,0,none⟩=some (.int .u64 p):=(b.cell (p:=⟨w.heap.size,0,none⟩) (by simp;omega)).trans ((c.cell (p:=⟨w.heap.size,0,none⟩) (by simp;omega)).trans (by go_simp));have D:w2.frozen? ⟨w.heap.size,0,none⟩=false:=(b.frozen (p:=⟨w.heap.size,0,none⟩) (by simp;omega)).trans ((c.frozen (p:=⟨w.heap.size,0,none⟩) (by simp;omega)).trans (by go_simp));have f:w2.cell? ⟨w.heap.size+1,0,none⟩=some (.int .u64 0):=(b.cell (p:=⟨w.heap.size+1,0,none⟩) (by simp;omega)).trans ((c.cell (p:=⟨w.heap.size+1,0,none⟩) (by simp)).trans (by go_simp));have G:w2.frozen? ⟨w.heap.size+1,0,none⟩=false:=(b.frozen (p:=⟨w.heap.size+1,0,none⟩) (by simp;omega)).trans ((c.frozen (p:=⟨w.heap.size+1,0,none⟩) (by simp)).trans (by go_simp));have z:w2.cell? ⟨w.heap.size,1,none⟩=some (.int .u64 q):=(b.cell (p:=⟨w.heap.size,1,none⟩) (by simp;omega)).trans ((c.cell (p:=⟨w.heap.size,1,none⟩) (by simp;omega)).trans (by go_simp));have u:w2.frozen? ⟨w.heap.size,1,none⟩=false:=(b.frozen (p:=⟨w.heap.size,1,none⟩) (by simp;omega)).trans ((c.frozen (p:=⟨w.heap.size,1,none⟩) (by simp;omega)).trans (by go_simp));have j:w2.cell? ⟨w.heap.size+1,1,none⟩=some (.int .u64 0):=(b.cell (p:=⟨w.heap.size+1,1,none⟩) (by simp;omega)).trans ((c.cell (p:=⟨w.heap.size+1,1,none⟩) (by simp)).trans (by go_simp));have H:w2.frozen? ⟨w.heap.size+1,1,none⟩=false:=(b.frozen (p:=⟨w.heap.size+1,1,none⟩) (by simp;omega)).trans ((c.frozen (p:=⟨w.heap.size+1,1,none⟩) (by simp)).trans (by go_simp));have F:w2.cell? ⟨w.heap.size,2,none⟩=some (.int .u64 r):=(b.cell (p:=⟨w.heap.size,2,none⟩) (by simp;omega)).trans ((c.cell (p:=⟨w.heap.size,2,none⟩) (by simp;omega)).trans (by go_simp));have E:w2.frozen? ⟨w.heap.size,2,none⟩=false:=(b.frozen (p:=⟨w.heap.size,2,none⟩) (by simp;omega)).trans ((c.frozen (p:=⟨w.heap.size,2,none⟩) (by simp;omega)).trans (by go_simp));have i:w2.cell? ⟨w.heap.size+1,2,none⟩=some (.int .u64 0):=(b.cell (p:=⟨w.heap.size+1,2,none⟩) (by simp;omega)).trans ((c.cell (p:=⟨w.heap.size+1,2,none⟩) (by simp)).trans (by go_simp));have y:w2.frozen? ⟨w.heap.size+1,2,none⟩=false:=(b.frozen (p:=⟨w.heap.size+1,2,none⟩) (by simp;omega)).trans ((c.frozen (p:=⟨w.heap.size+1,2,none⟩) (by simp)).trans (by go_simp));have A:w2.cell? ⟨w.heap.size,3,none⟩=some (.int .u64 (bits .xor .u64 s m)):=(b.cell (p:=⟨w.heap.size,3,none⟩) (by simp;omega)).trans ((c.cell (p:=⟨w.heap.size,3,none⟩) (by simp;omega)).trans (by go_simp));have x:w2.frozen? ⟨w.heap.size,3,none⟩=false:=(b.frozen (p:=⟨w.heap.size,3,none⟩) (by simp;omega)).trans ((c.frozen (p:=⟨w.heap.size,3,none⟩) (by simp;omega)).trans (by go_simp));have o:w2.cell? ⟨w.heap.size+1,3,none⟩=some (.int .u64 0):=(b.cell (p:=⟨w.heap.size+1,3,none⟩) (by simp;omega)).trans ((c.cell (p:=⟨w.heap.size+1,3,none⟩) (by simp)).trans (by go_simp));have C:w2.frozen? ⟨w.heap.size+1,3,none⟩=false:=(b.frozen (p:=⟨w.heap.size+1,3,none⟩) (by simp;omega)).trans ((c.frozen (p:=⟨w.heap.size+1,3,none⟩) (by simp)).trans (by go_simp))))
 refine bodyPost_ret (v:= .agg #[.int .u64 (bits .xor .u64 (round X).p m),.int .u64 (round X).q,.int .u64 (round X).r,.int .u64 (round X).s]) (by simp[results,Tryz.results198,go_sem,f,j,i,o]) rfl ⟨by rw[k.out];rfl,?_⟩
 have t:Below w.heap.size w w2:=by
  refine Below.trans ?_ ((c.mono (B':=w.heap.size) (by simp;omega)).trans (b.mono (B':=w.heap.size) (by omega)))
  repeat (first|exact Below.refl _ _|refine Below.setCell ?_ (by simp) _|refine Below.alloc ?_ (by simp) _)
 repeat (first|(with_reducible exact t)|refine Below.setCell ?_ (by simp) _)
theorem aLC (f:Quad)(m:Int)(w:World)(h:f.ok):
 Calls Tryz.prog 198 #[.agg #[.int .u64 f.p,.int .u64 f.q,.int .u64 f.r,.int .u64 f.s],.int .u64 m] w fun e w'=>e= .returned (.agg #[.int .u64 (quadPlus f m).p,.int .u64 (quadPlus f m).q,.int .u64 (quadPlus f m).r,.int .u64 (quadPlus f m).s])∧Below w.heap.size w w':=aLB f.p f.q f.r f.s m w h
end Sa
namespace Hd
open Bytes8 Blk8 Hm Ha Hb Hc
theorem aGL (A:Option Addr)(c:Nat)(w:World):
 Calls Tryz.prog 117 #[.slice A 0 c] w fun e w'=>e= .returned (.int .u64 (lookS []))∧Below w.heap.size w w':=by
 have f:(⟨3735928559,3735928559,3735928559⟩:Trio).ok:=by unfold Trio.ok;decide
 go_enter Tryz.func117,Tryz.ntmps117
 go_wp2_with(go_at_call 158;(with_reducible refine(aEP _ _ _ _ f).mono ?_);rintro e w1 ⟨rfl,b⟩)
 go_ret
 refine⟨aCa (by decide+kernel),?_⟩
 have d:=((Below.refl w.heap.size w).alloc (yR _) (.cells #[.int .u32 3735928559,.int .u32 3735928559,.int .u32 3735928559] 270))
 exact d.trans (b.mono d.size)
def Rest (w0:World)(g:Nat)(t:Trio)(w:World):Prop:=Blk w g [.int .u32 t.x,.int .u32 t.y,.int .u32 t.z] 270∧Below w0.heap.size w0 w
theorem aPe (l:List Int)(k o:Nat):w4 (l.drop k) o=w4 l (k+o):=by simp[w4,List.drop_drop]
theorem aHO (l:List Int)(n o:Nat)(h:o+4≤n):w4 (l.take n) o=w4 l o:=by
 unfold w4
 rw[List.drop_take,List.take_take,Nat.min_eq_left (by omega)]
theorem aE5 (t:Trio)(l:List Int)(k:Nat):plus3 t (l.drop k) 0=plus3 t l k:=by
 simp only[plus3,aPe,Nat.add_zero]
theorem aJO (t:Trio)(l:List Int):plus3 t (l.take 12) 0=plus3 t l 0:=by
 simp only[plus3,aHO l 12 0 (by omega),aHO l 12 (0+4) (by omega),aHO l 12 (0+8) (by omega)]
theorem aJP (t:Trio)(a:Option Addr)(l:List Int)(c:Nat)(w:World)(hb:Bytes w a l)(f:12≤l.length)(g:t.ok):
 Calls Tryz.prog 159 #[.agg #[.int .u32 t.x,.int .u32 t.y,.int .u32 t.z],.slice a 12 c] w fun e w'=>e= .returned (.agg #[.int .u32 (plus3 t l 0).x,.int .u32 (plus3 t l 0).y,.int .u32 (plus3 t l 0).z])∧Below w.heap.size w w':=by
 have d:Bytes w a (l.take 12):=by
  have h:=hb.part 0 12 a (fun b off e _ _=>by rw[e];rfl)
  rwa[List.drop_zero]at h
 have h:=aII t.x t.y t.z a (l.take 12) 12 c w d (by simp;omega) (by decide) g
 rw[aJO]at h
 exact h
theorem aHP (t:Trio)(w:World)(b:t.ok):
 Calls Tryz.prog 160 #[.agg #[.int .u32 t.x,.int .u32 t.y,.int .u32 t.z]] w fun e w'=>e= .returned (.agg #[.int .u32 (mix t).x,.int .u32 (mix t).y,.int .u32 (mix t).z])∧Below w.heap.size w w':=aKY t.x t.y t.z w b
theorem rest_step (w0 w:World)(t b c:Trio)(d:c=b)(h:Blk w w0.heap.size [.int .u32 t.x,.int .u32 t.y,.int .u32 t.z] 270)(f:Below w0.heap.size w0 w):
 Rest w0 w0.heap.size c (((w.setCell ⟨w0.heap.size,0,none⟩ (.int .u32 b.x)).setCell ⟨w0.heap.size,1,none⟩ (.int .u32 b.y)).setCell ⟨w0.heap.size,2,none⟩ (.int .u32 b.z)):=by
 subst d
 exact⟨((h.set_ 0 _).set_ 1 _).set_ 2 _,((f.setCell (yR _) _).setCell (yR _) _).setCell (yR _) _⟩
theorem aHQ (l:List Int)(k:Nat):trioAt l (k+1)=mix (plus3 (trioAt l k) (l.drop (12*k)) 0):=by
 rw[aE5];rfl
theorem aNC (A:Option Addr)(l:List Int)(len f:Nat)(w:World)(D:Bytes w A l)(J:l.length=len)(t:0<len)(L:len≤1000000)(r:len≤f)(o:f≤maxLen):
 Calls Tryz.prog 117 #[.slice A len f] w fun e w'=>e= .returned (.int .u64 (lookS l))∧Below w.heap.size w w':=by
 unfold maxLen at o
 obtain⟨b,off,rfl,j,R⟩:=D.spot (by omega)
 clear j R
 have HB:=yH D
 have u:=yH J
 clear D J
 have X:=yH (show lookInit l=⟨3735928559+(len:Int),3735928559+(len:Int),3735928559+(len:Int)⟩by
  have e:add32 3735928559 (l.length:Int)=3735928559+(len:Int):=by have:=u.out;unfold add32;omega
  unfold lookInit;rw[e])
 have Y:((len:Int)==0)=false:=by simp;omega
 go_enter Tryz.func117,Tryz.ntmps117
 go_wp2
 go_loopw [0] (fun s wr=> ∃k n c:Nat,Hid (len=12*k+n∧f=12*k+c)∧0<n∧n≤len∧c≤f∧n≤c∧s= .slice (some ⟨b,off+12*k,none⟩) n c∧Hid (Rest w w.heap.size (trioAt l k) wr)) (fun s _=>match s with| .slice _ n _=>n|_=>0)
 case atStart=>exact⟨0,len,f,yH ⟨by omega,by omega⟩,t,yR _,yR _,r,rfl,by show Hid (Rest _ _ (lookInit l) _);rw[X.out];exact⟨Blk.new _ _ _,(Below.refl _ _).alloc (yR _) _⟩⟩
 case round=>
  obtain⟨k,n,c,q,ac,ae,ab,aa,rfl,p⟩:=hrel
  have R1:=yH p.out.1
  have C:=yH p.out.2
  have g0:=p.out.1.cell (i:=0) rfl
  have g1:=p.out.1.cell (i:=1) rfl
  have g2:=p.out.1.cell (i:=2) rfl
  have E:=p.out.2.size
  have j:=p.out.1.lt
  have H:=yH (HB.out.part (12*k) n (some ⟨b,off+12*k,none⟩) (fun b' off' e _ _=>by simp at e;obtain⟨rfl,rfl⟩:=e;rfl))
  rw[List.take_of_length_le (by have:=u.out;have:=q.out.1;simp;omega)]at H
  have B:=yH (show(l.drop (12*k)).length=n by have:=u.out;have:=q.out.1;simp;omega)
  have F:=yH (H.out.below C.out (yR _)).drew
  by_cases ad:12<n
  ·have G:=yH (show 12≤(l.drop (12*k)).length by have:=B.out;omega)
   have V:decide ((12:Int)<(n:Int))=true:=by simp;omega
   go_wp2
   go_region_with (first|(go_at_call 159;(with_reducible refine(aJP (trioAt l k) _ (l.drop (12*k)) _ _ F.out G.out (aDQ l k)).mono ?_);rintro e w2 ⟨rfl,g⟩)|(go_at_call 160;(with_reducible refine(aHP _ _ (aH9 _ _ _)).mono ?_);rintro e w3 ⟨rfl,m⟩;have d:=yH ((R1.out.drew.below g j).below m (yL j g.size));have e0:=d.out.cell (i:=0) rfl;have e1:=d.out.cell (i:=1) rfl;have e2:=d.out.cell (i:=2) rfl;have f0:=d.out.frozen 0;have f1:=d.out.frozen 1;have f2:=d.out.frozen 2))
   all_goals
    go_wp2
    go_roundw
    case rel=>
     have:=q.out.1
     have:=q.out.2
     refine⟨k+1,n-12,c-12,yH ⟨by omega,by omega⟩,by omega,by omega,by omega,by omega,by first|rfl|(congr 3;omega),?_⟩
     exact rest_step w w3 (trioAt l k) _ _ (aHQ l k) d.out ((C.out.drew.trans (g.mono E)).trans (m.mono (Nat.le_trans E g.size)))
    case measure=>simp;omega
  ·have V:decide ((12:Int)<(n:Int))=false:=by simp;omega
   have HE:=yH (show(l.length-1)/12=k by rw[u.out,q.out.1];omega)
   have Z:=yH (show lookS l=ans (fin (plus3 (trioAt l k) (l.drop (12*k)) 0))by
    unfold lookS
    rw[if_neg (by intro h;have:=u.out;have:=q.out.1;rw[h]at*;simp at*;omega),HE.out,aE5])
   go_wp2_with(first|(go_at_call 159;(with_reducible refine(aII (trioAt l k).x (trioAt l k).y (trioAt l k).z _ (l.drop (12*k)) _ _ _ (H.out.below C.out (yR _)) B.out (by omega) (aDQ l k)).mono ?_);rintro e w2 ⟨rfl,g⟩)|(go_at_call 161;(with_reducible refine(aGx _ _ _ _ (aH9 _ _ _)).mono ?_);rintro e w3 ⟨rfl,m⟩)|(go_at_call 158;(with_reducible refine(aEP _ _ _ _ (aPB _)).mono ?_);rintro e w4 ⟨rfl,I⟩))
   go_ret
   refine⟨aCa Z.out.symm,?_⟩
   have M:=C.out.trans (g.mono E)
   have N:=M.trans (m.mono M.size)
   exact N.trans (I.mono N.size)
end Hd
namespace Se
open Bytes8 Hm Hd Hf
theorem aIR (A:Option Addr)(l:List Int)(len b:Nat)(w:World)(j:Bytes w A l)(f:l.length=len)(g:len≤800000)(d:len≤b)(c:b≤maxLen):
 Calls Tryz.prog 117 #[.slice A len b] w fun e w'=>e= .returned (.int .u64 (lookS l))∧Below w.heap.size w w':=by
 by_cases i:0<len
 ·exact aNC A l len b w j f i (by omega) d c
 ·obtain rfl:len=0:=by omega
  obtain rfl:l=[]:=List.eq_nil_of_length_eq_zero f
  exact aGL A b w
theorem aEr (A:Option Addr)(l:List Int)(len b:Nat)(w:World)(g:Bytes w A l)(c:l.length=len)(d:len≤800000):
 Calls Tryz.prog 135 #[.slice A len b] w fun e w'=>e= .returned (.int .u64 (lookS l))∧w=w':=by
 by_cases f:0<len
 ·exact aK4 A l len b w g c f (by omega)
 ·obtain rfl:len=0:=by omega
  obtain rfl:l=[]:=List.eq_nil_of_length_eq_zero c
  exact aK3 A b w
end Se
end Go.Proofs.YtlelnfokffflnaaGreat
