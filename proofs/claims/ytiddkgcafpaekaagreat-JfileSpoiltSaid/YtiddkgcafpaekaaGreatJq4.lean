/-
  Texts beneath the proof.
-/
import Derived.Lib.SliceRun
import Derived.Maps.AppendAt
import Derived.Deep.DeepMust
import Derived.Test.YtiddkgcafpaekaaGreatJq3
set_option linter.unusedVariables false
set_option linter.unusedSimpArgs false
set_option maxRecDepth 100000
set_option maxHeartbeats 4000000
open Go.ChangeShapes Go.WideShapes Go.ChangeAt Go.RowKit
namespace Go.Proofs.YtiddkgcafpaekaaGreat
namespace Oe
open Bytes8 Blk8 Own8 OwnE LeNum Ob Oc Od
theorem rnums1 (s:Int)(w:World)(g:Nat)(hs:0≤s∧s≤18446744073709551615)(hg:w.heap.size=g):
 Calls Tryz.prog 139 #[.slice (some ⟨g,0,none⟩) 1 1] (w.alloc (.cells #[.int .u64 s] 27)) fun e w'=> ∃A c,e= .returned (.slice A 8 c)∧Own w' w.heap.size A 8 c (lowB s 8)∧Below w.heap.size w w':=by
 subst hg
 have h:=rnums_any w.heap.size 1 1 [s] 27 (w.alloc (.cells #[.int .u64 s] 27)) (Blk.new w _ _) (fun v hv=>by simp at hv;omega) rfl (by decide)
 refine h.mono fun e w' ⟨A,c,h1,h2,h3⟩=>⟨A,c,h1,?_,((Below.refl w.heap.size w).alloc (yR _) _).trans (h3.mono (by simp))⟩
 rw[nums_one]at h2
 exact Own.base h2 (by simp)
def sliceLen:Value→Nat
 | .slice _ n _=>n
 |_=>0
theorem rput_yes (k:Int)(A:Option Addr)(l:List Int)(n cap:Nat)(w:World)(h:1≤k∧k≤7)(hb:Bytes w A l)(hL:l.length=n)(hn:n≤1000000):
 Calls Tryz.prog 145 #[.int .i64 k,.slice A n cap] w (Owned (objB k l) (16+n+padN n) w):=by
 obtain⟨k1,k7⟩:=h
 have HL:=yH hL
 have HB:=yH hb
 have HN:=yH fun(s:Int) (W:World) (g:Nat) (hs:0≤s∧s≤18446744073709551615) (hg:W.heap.size=g)=>rnums1 s W g hs hg
 have HK:=yH (show AllB [k,0,0,0,0,0,0,0]from fun x hx=>by simp at hx;omega)
 have hp:=padN_le n
 have HF:=yH (show front k n=[k,0,0,0,0,0,0,0]++lowB (16+(n:Int)) 8 by unfold front;rw[show((16+n:Nat):Int)=16+(n:Int)by omega])
 have HO:=yH (show objB k l=front k n++(l++List.replicate (padN n) 0)by unfold objB;rw[hL])
 have HP:=yH (show ∀j,j≤padN n→((16+n+j)%8=0↔j=padN n)from fun j hj=>by unfold padN at hj⊢;omega)
 rw[HO.out]
 generalize padN n=p at*
 clear hb hL
 go_enter Tryz.func145,Tryz.ntmps145
 go_wp2_with(first
  |(go_at_call 139;(with_reducible refine(HN.out _ _ _ (by omega) (by simp)).mono ?_);rintro e w3 ⟨A3,c3,rfl,ho3,hbel3⟩;have HO3:=yH ho3;have HB3:=yH hbel3;clear ho3 hbel3)
  |(at_builtin;refine wpList_append_bytes rfl (.tmp 14) (.tmp 20) rfl w.heap.size _ 8 8 [k,0,0,0,0,0,0,0] rfl ((own_row (Row.new w [k,0,0,0,0,0,0,0]) HK.out (yR _) rfl (show 8≤maxLen by decide)).kept HB3.out (yR _)) A3 8 c3 _ rfl HO3.out.bytes (lowB_len _ _) (by omega) ?_;intro A4 c4 w4 ho4 hbel4;have HO4:=yH ho4;have HB4:=yH hbel4;clear ho4 hbel4)
  |(at_builtin;refine wpList_append_bytes rfl (.tmp 22) (.tmp 23) rfl w.heap.size A4 16 c4 _ rfl HO4.out A n cap l rfl (HB.out.below (((Below.refl _ _).alloc (yR _) _).trans ((HB3.out.mono (by simp)).trans HB4.out)) (yR _)) HL.out (by omega) ?_;intro A5 c5 w5 ho5 hbel5;have HO5:=yH ho5;have HB5:=yH hbel5;clear ho5 hbel5))
 go_loopw [5] (fun s wr=> ∃(j:Nat) (A6:Option Addr) (c6:Nat),j≤p∧s= .slice A6 (16+n+j) c6∧Hid (Own wr w.heap.size A6 (16+n+j) c6 (front k n++(l++List.replicate j 0)))∧Hid (Below w.heap.size w wr)) (fun s _=>p+16+n-sliceLen s)
 case atStart=>
  refine⟨0,A5,c5,Nat.zero_le _,rfl,?_,yH (((Below.refl _ _).alloc (yR _) _).trans ((HB3.out.mono (by simp)).trans (HB4.out.trans HB5.out)))⟩
  have h:=HO5.out
  rw[HF.out,List.replicate_zero,List.append_nil]
  exact h
 case round=>
  obtain⟨j,A6,c6,hj,rfl,ho,hbel⟩:=hrel
  have hq:=HP.out j hj
  by_cases hlt:j<p
  ·have hm: ¬(16+n+j)%8=0:=by omega
   have hm2: ¬(((16+n+j:Nat):Int)%8=0):=by omega
   clear hq
   go_wp2_with(at_builtin;refine wpList_append_bytes rfl (.tmp 29) (.tmp 30) rfl w.heap.size A6 (16+n+j) c6 _ rfl (ho.out.kept ((Below.refl _ _).alloc (yR _) _) (yR _)) (some ⟨wr.heap.size,0,none⟩) 1 1 [0] rfl (Row.bytes (Row.new wr [0]) (AllB.zeros 1)) rfl (by omega) ?_;intro A7 c7 w7 ho7 hbel7;have HO7:=yH ho7;have HB7:=yH hbel7;clear ho7 hbel7)
   go_roundw
   case rel=>
    refine⟨j+1,A7,c7,by omega,rfl,?_,yH ((hbel.out.alloc hbel.out.size _).trans HB7.out)⟩
    have h:=HO7.out
    rw[List.append_assoc,List.append_assoc,show List.replicate j (0:Int)++ [0]=List.replicate (j+1) 0 by rw[List.replicate_succ']]at h
    exact h
   case measure=>simp[sliceLen];omega
  ·obtain rfl:j=p:=by omega
   have hm:(16+n+j)%8=0:=by omega
   have hm2:((16+n+j:Nat):Int)%8=0:=by omega
   clear hq
   go_wp2
   go_ret
   exact⟨A6,c6,rfl,ho.out,hbel.out⟩
end Oe
namespace Og
open Bytes8 Blk8 Own8 OwnE LeA LeB Ob Oc
theorem sliced_one_u (t:TypeId)(A:Option Addr)(len cap lo hi:Nat)(w:World)(hs:(sizeOf (Tryz.prog.elem t)).run Tryz.prog w= .ok 1 w)(ht:Tryz.prog.underlying t=some (.slice (Tryz.prog.elem t)))(h1:lo≤hi)(h2:hi≤cap):
 (Instr.slice t (.slice A len cap) (some (.int .u64 lo)) (some (.int .u64 hi)) none).run Tryz.prog w= .ok (.slice (cutA A cap lo) (hi-lo) (cap-lo)) w:=by
 rw[run_slice_lh w t A len cap ht .u64 .u64 lo hi (by omega) (by omega) (by omega),hs]
 simp[Result.andThen,sliced,cutA]
theorem sliced_low_u (t:TypeId)(A:Option Addr)(len cap lo:Nat)(w:World)(hs:(sizeOf (Tryz.prog.elem t)).run Tryz.prog w= .ok 1 w)(ht:Tryz.prog.underlying t=some (.slice (Tryz.prog.elem t)))(h1:lo≤len):
 (Instr.slice t (.slice A len cap) (some (.int .u64 lo)) none none).run Tryz.prog w= .ok (.slice (cutA A cap lo) (len-lo) (cap-lo)) w:=by
 rw[run_slice_l w t A len cap ht .u64 lo (by omega) (by omega),hs]
 simp[Result.andThen,sliced,cutA]
theorem cutu_lh (A:Option Addr)(len cap lo hi:Nat)(L H:Int)(hL:L=(lo:Int))(hH:H=(hi:Int))(h1:lo≤hi)(h2:hi≤cap)(w:World):
 (Instr.slice 24 (.slice A len cap) (some (.int .u64 L)) (some (.int .u64 H)) none).run Tryz.prog w= .ok (.slice (cutA A cap lo) (hi-lo) (cap-lo)) w:=by
 subst hL hH
 exact sliced_one_u _ A len cap lo hi w (by rw[elem8];exact sizeof8 w) (by rw[elem8];exact Tryz.underlying24) h1 h2
theorem cutu_l (A:Option Addr)(len cap lo:Nat)(h1:lo≤len)(w:World):
 (Instr.slice 24 (.slice A len cap) (some (.int .u64 lo)) none none).run Tryz.prog w= .ok (.slice (cutA A cap lo) (len-lo) (cap-lo)) w:=
 sliced_low_u _ A len cap lo w (by rw[elem8];exact sizeof8 w) (by rw[elem8];exact Tryz.underlying24) h1
abbrev frV (k s:Int):Value:= .agg #[.int .i64 k,.int .i64 0,.int .u64 s]
def FrTold (k s c:Int)(w:World)(e:Ending)(w':World):Prop:=e= .returned (.tuple #[frV k s,.int .i64 c])∧Below w.heap.size w w'
theorem getNo8 (a:Option Addr)(n cap:Nat)(w:World)(h:n<16):
 Calls Tryz.prog 69 #[.slice a n cap,.int .i64 8,.int .i64 8] w fun e w'=>e= .returned (.tuple #[.int .u64 0,.bool false])∧w=w':=
 get_no a n cap 8 8 w (by omega) (by simp[fits,isW];omega)
theorem read_any (A:Option Addr)(l:List Int)(n cap a:Nat)(w:World)(hb:Bytes w A l)(hL:l.length=n)(hn:n≤1000000)(hc:n≤cap)(hcm:cap≤maxLen)(ha:a≤18446744073709551615):
 Calls Tryz.prog 22 #[.slice A n cap,.int .u64 (a:Int)] w (FrTold (kindL l a) (sizeL l a) (code l a) w):=by
 have b0:Below w.heap.size w (w.alloc (.cells #[.int .i64 0,.int .i64 0,.int .u64 0] 46)):=(Below.refl w.heap.size w).alloc (yR _) _
 have HB0:=yH b0
 unfold maxLen at hcm
 have HK:Hid (kindL l a=if code l a=0 then l.getD a 0 else 0):=yH rfl
 have HS:Hid (sizeL l a=if code l a=0 then u8 l (a+8)else 0):=yH rfl
 have no: ∀c:Int,c≠0→code l a=c→kindL l a=0∧sizeL l a=0:=fun c h0 h=>⟨HK.out.trans (if_neg (by omega)),HS.out.trans (if_neg (by omega))⟩
 have HA:=yH hb.1
 by_cases h1:a%8≠0
 ·have hcd:code l a=3:=by unfold code;rw[if_pos h1]
  obtain⟨e1,e2⟩:=no 3 (by decide) hcd
  rw[hcd,e1,e2]
  have h1': ¬(a:Int)%8=0:=by omega
  clear hb no HK HS hcd e1 e2 hL h1
  go_enter Tryz.func22,Tryz.ntmps22
  go_wp2
  refine bodyPost_ret (v:= .tuple #[frV 0 0,.int .i64 3]) (by simp[results_cell_tmp Tryz.results22,go_sem,Result.andThen]) rfl ⟨rfl,?_⟩
  (repeat (first|(with_reducible exact HB0.out)|(with_reducible exact Below.refl _ _)|refine Below.setCell ?_ (by simp) _|refine Below.alloc ?_ (by simp) _|refine Below.drew ?_|refine below_drewN ?_ _))
 have h1':(a:Int)%8=0:=by omega
 by_cases h2:n<a+16
 ·have hcd:code l a=2:=by unfold code;rw[if_neg h1,if_pos (by omega)]
  obtain⟨e1,e2⟩:=no 2 (by decide) hcd
  rw[hcd,e1,e2]
  by_cases h3:n<a
  ·clear hb no HK HS hcd e1 e2 hL h1
   go_enter Tryz.func22,Tryz.ntmps22
   go_wp2
   refine bodyPost_ret (v:= .tuple #[frV 0 0,.int .i64 2]) (by simp[results_cell_tmp Tryz.results22,go_sem,Result.andThen]) rfl ⟨rfl,?_⟩
   (repeat (first|(with_reducible exact HB0.out)|(with_reducible exact Below.refl _ _)|refine Below.setCell ?_ (by simp) _|refine Below.alloc ?_ (by simp) _|refine Below.drew ?_|refine below_drewN ?_ _))
  ·have hcut:=cutu_l A n cap a (by omega)
   have HG:=yH fun(W:World)=>getNo8 (cutA A cap a) (n-a) (cap-a) W (by omega)
   generalize cutA A cap a=C at*
   clear hb no HK HS hcd e1 e2 hL h1
   go_enter Tryz.func22,Tryz.ntmps22
   go_wp2_with(go_at_call 69;(with_reducible refine(HG.out _).mono ?_);rintro e w' ⟨rfl,rfl⟩)
   refine bodyPost_ret (v:= .tuple #[frV 0 0,.int .i64 2]) (by simp[results_cell_tmp Tryz.results22,go_sem,Result.andThen]) rfl ⟨rfl,?_⟩
   (repeat (first|(with_reducible exact HB0.out)|(with_reducible exact Below.refl _ _)|refine Below.setCell ?_ (by simp) _|refine Below.alloc ?_ (by simp) _|refine Below.drew ?_|refine below_drewN ?_ _))
 obtain⟨b,off,rfl,hlt,hcell⟩:=hb.spot (by omega)
 have hcut:=cutu_l (some ⟨b,off,none⟩) n cap a (by omega)
 have HBC:=yH (Bytes.cut hb cap a (n-a) (by omega))
 rw[cutA_some,if_neg (by omega)]at hcut HBC
 have HLd:Hid (((l.drop a).take (n-a)).length=n-a):=yH (by simp;omega)
 have hu8:u8 ((l.drop a).take (n-a)) 8=u8 l (a+8):=by
  have e:(l.drop a).take (n-a)=l.drop a:=List.take_of_length_le (by simp;omega)
  unfold u8
  rw[e,List.drop_drop]
 have HG:=yH fun(W:World) (h:Below w.heap.size w W)=>get8 (some ⟨b,off+a,none⟩) _ (n-a) (cap-a) 8 8 W rfl HLd.out (by omega) (HBC.out.below h (yR _)) (by omega)
 rw[hu8]at HG
 have hk0:=hcell a (by omega)
 have hk1:=hcell (a+1) (by omega)
 rw[←Nat.add_assoc]at hk1
 obtain⟨ub0,ub1⟩:=u8_bd hb.1 (a+8)
 obtain⟨kb0,kb1⟩:=hb.1.at_ a
 obtain⟨fb0,fb1⟩:=hb.1.at_ (a+1)
 have hcode:code l a=if l.getD a 0<1∨7<l.getD a 0 then 4 else if l.getD (a+1) 0≠0 then 7 else if u8 l (a+8)<16 then 5 else if(n:Int)<a+u8 l (a+8)then 2 else 0:=by
  unfold code
  rw[if_neg h1,if_neg (by omega),hL]
 have HKi:=yH fun(W:World)=>isKind_any (l.getD a 0) W
 generalize u8 l (a+8)=s at*
 generalize l.getD a 0=k at*
 generalize l.getD (a+1) 0=f at*
 have h2':a+16≤n:=by omega
 have hn0:0<n-a:=by omega
 have hn1:1<n-a:=by omega
 have hn2:(1:Int)<((n-a:Nat):Int):=by omega
 have hb0:b<(w.alloc (.cells #[.int .i64 0,.int .i64 0,.int .u64 0] 46)).heap.size:=by simp;omega
 clear HBC HLd hb hcell hL h1 h2 hu8
 by_cases h3:k<1∨7<k
 ·have hcd:code l a=4:=by rw[hcode,if_pos h3]
  obtain⟨e1,e2⟩:=no 4 (by decide) hcd
  rw[hcd,e1,e2]
  have hkd:(decide (1≤k)&&decide (k≤7))=false:=by simp;omega
  rw[hkd]at HKi
  clear hkd h3
  clear no HK HS hcd e1 e2 hcode
  go_enter Tryz.func22,Tryz.ntmps22
  go_wp2_with(go_at_call 69;(with_reducible refine(HG.out _ HB0.out).mono ?_);rintro e w' ⟨rfl,rfl⟩)
  go_region
  all_goals
   go_wp2_with(go_at_call 70;(with_reducible refine(HKi.out _).mono ?_);rintro e w' ⟨rfl,rfl⟩)
   refine bodyPost_ret (v:= .tuple #[frV 0 0,.int .i64 4]) (by simp[results_cell_tmp Tryz.results22,go_sem,Result.andThen]) rfl ⟨rfl,?_⟩
   (repeat (first|(with_reducible exact HB0.out)|(with_reducible exact Below.refl _ _)|refine Below.setCell ?_ (by simp) _|refine Below.alloc ?_ (by simp) _|refine Below.drew ?_|refine below_drewN ?_ _))
 have hkd:(decide (1≤k)&&decide (k≤7))=true:=by simp;omega
 rw[hkd]at HKi
 by_cases h4:f≠0
 ·have hcd:code l a=7:=by rw[hcode,if_neg h3,if_pos h4]
  obtain⟨e1,e2⟩:=no 7 (by decide) hcd
  rw[hcd,e1,e2]
  clear hkd h3
  clear no HK HS hcd e1 e2 hcode
  go_enter Tryz.func22,Tryz.ntmps22
  go_wp2_with(go_at_call 69;(with_reducible refine(HG.out _ HB0.out).mono ?_);rintro e w' ⟨rfl,rfl⟩)
  go_region
  all_goals
   go_wp2_with(go_at_call 70;(with_reducible refine(HKi.out _).mono ?_);rintro e w' ⟨rfl,rfl⟩)
   refine bodyPost_ret (v:= .tuple #[frV 0 0,.int .i64 7]) (by simp[results_cell_tmp Tryz.results22,go_sem,Result.andThen]) rfl ⟨rfl,?_⟩
   (repeat (first|(with_reducible exact HB0.out)|(with_reducible exact Below.refl _ _)|refine Below.setCell ?_ (by simp) _|refine Below.alloc ?_ (by simp) _|refine Below.drew ?_|refine below_drewN ?_ _))
 by_cases h5:s<16
 ·have hcd:code l a=5:=by rw[hcode,if_neg h3,if_neg h4,if_pos h5]
  obtain⟨e1,e2⟩:=no 5 (by decide) hcd
  rw[hcd,e1,e2]
  have h4':f=0:=by omega
  subst h4'
  clear hkd h3 h4
  clear no HK HS hcd e1 e2 hcode
  go_enter Tryz.func22,Tryz.ntmps22
  go_wp2_with(go_at_call 69;(with_reducible refine(HG.out _ HB0.out).mono ?_);rintro e w' ⟨rfl,rfl⟩)
  go_region
  all_goals
   go_wp2_with(go_at_call 70;(with_reducible refine(HKi.out _).mono ?_);rintro e w' ⟨rfl,rfl⟩)
   refine bodyPost_ret (v:= .tuple #[frV 0 0,.int .i64 5]) (by simp[results_cell_tmp Tryz.results22,go_sem,Result.andThen]) rfl ⟨rfl,?_⟩
   (repeat (first|(with_reducible exact HB0.out)|(with_reducible exact Below.refl _ _)|refine Below.setCell ?_ (by simp) _|refine Below.alloc ?_ (by simp) _|refine Below.drew ?_|refine below_drewN ?_ _))
 by_cases h6:(n:Int)<a+s
 ·have hcd:code l a=2:=by rw[hcode,if_neg h3,if_neg h4,if_neg h5,if_pos h6]
  obtain⟨e1,e2⟩:=no 2 (by decide) hcd
  rw[hcd,e1,e2]
  have h4':f=0:=by omega
  have h6':((n-a:Nat):Int)<s:=by omega
  subst h4'
  clear hkd h3 h4 h6
  clear no HK HS hcd e1 e2 hcode
  go_enter Tryz.func22,Tryz.ntmps22
  go_wp2_with(go_at_call 69;(with_reducible refine(HG.out _ HB0.out).mono ?_);rintro e w' ⟨rfl,rfl⟩)
  go_region
  all_goals
   go_wp2_with(go_at_call 70;(with_reducible refine(HKi.out _).mono ?_);rintro e w' ⟨rfl,rfl⟩)
   refine bodyPost_ret (v:= .tuple #[frV 0 0,.int .i64 2]) (by simp[results_cell_tmp Tryz.results22,go_sem,Result.andThen]) rfl ⟨rfl,?_⟩
   (repeat (first|(with_reducible exact HB0.out)|(with_reducible exact Below.refl _ _)|refine Below.setCell ?_ (by simp) _|refine Below.alloc ?_ (by simp) _|refine Below.drew ?_|refine below_drewN ?_ _))
 ·have hcd:code l a=0:=by rw[hcode,if_neg h3,if_neg h4,if_neg h5,if_neg h6]
  have e1:=HK.out.trans (if_pos hcd)
  have e2:=HS.out.trans (if_pos hcd)
  rw[hcd,e1,e2]
  have h4':f=0:=by omega
  have h6': ¬((n-a:Nat):Int)<s:=by omega
  subst h4'
  clear hkd h3 h4 h6 no HK HS hcd e1 e2 hcode
  go_enter Tryz.func22,Tryz.ntmps22
  go_wp2_with(go_at_call 69;(with_reducible refine(HG.out _ HB0.out).mono ?_);rintro e w' ⟨rfl,rfl⟩)
  go_region
  all_goals
   go_wp2_with(go_at_call 70;(with_reducible refine(HKi.out _).mono ?_);rintro e w' ⟨rfl,rfl⟩)
   refine bodyPost_ret (v:= .tuple #[frV k s,.int .i64 0]) (by simp[results_cell_tmp Tryz.results22,go_sem,Result.andThen]) rfl ⟨rfl,?_⟩
   (repeat (first|(with_reducible exact HB0.out)|(with_reducible exact Below.refl _ _)|refine Below.setCell ?_ (by simp) _|refine Below.alloc ?_ (by simp) _|refine Below.drew ?_|refine below_drewN ?_ _))
end Og
namespace Gn
open Bytes8 Blk8 Own8 LeNum RefB Ob Od Rows2
def ints (f:Nat→Int)(k:Nat):List Int:=(List.range k).map f
theorem ints_succ (f:Nat→Int)(k:Nat):ints f (k+1)=ints f k++ [f k]:=by simp[ints,List.range_succ]
theorem ints_len (f:Nat→Int)(k:Nat):(ints f k).length=k:=by simp[ints]
theorem ints_nums (f:Nat→Int)(k:Nat):nums (ints f (k+1))=nums (ints f k)++lowB (f k) 8:=by rw[ints_succ,nums_snoc]
theorem rnums_in (Ai:Option Addr)(n cap:Nat)(f:Nat→Int)(w:World)(hi:InInts .u64 w Ai n f)(hmax:n≤100000):
 Calls Tryz.prog 139 #[.slice Ai n cap] w fun e w'=> ∃A c,e= .returned (.slice A (8*n) c)∧Own w' w.heap.size A (8*n) c (nums (ints f n))∧Below w.heap.size w w':=by
 have HI:=yH hi
 clear hi
 go_enter Tryz.func139,Tryz.ntmps139
 go_wp2
 go_loopw [3,4] (fun s i wr=> ∃(k:Nat) (A:Option Addr) (c:Nat),k≤n∧i= .int .i64 (k:Int)∧s= .slice A (8*k) c∧Hid (Own wr w.heap.size A (8*k) c (nums (ints f k)))∧Hid (Below w.heap.size w wr)) (fun _ i _=>n-(intOf i).toNat)
 case atStart=>exact⟨0,none,0,Nat.zero_le _,rfl,rfl,Own.nil w _ (yR _),Below.refl _ _⟩
 case round=>
  obtain⟨k,A,c,hk,rfl,rfl,ho,hbel⟩:=hrel
  by_cases hlt2:k<n
  ·obtain⟨b,off,rfl,hb,hc,hw⟩:=(HI.out.below hbel.out) k hlt2
   obtain⟨x0,x1⟩:=bounds_u64 hw
   have HN:=yH (ints_nums f k)
   have hsz:=hbel.out.size
   generalize f k=x at*
   have HLo:=yH fun(W:World)=>rlow_at x 8 8 W x0 x1 (by decide) rfl
   go_wp2_with(first|(go_at_call 138;(with_reducible refine(HLo.out _).mono ?_);rintro e w2 ⟨A2,c2,rfl,ho2,hbel2⟩;have HO2:=yH ho2;have HB2:=yH hbel2;clear ho2 hbel2)|(at_builtin;refine wpList_append_bytes rfl (.tmp 11) (.tmp 16) rfl w.heap.size A (8*k) c (nums (ints f k)) rfl (ho.out.kept HB2.out (yR _)) A2 8 c2 _ rfl HO2.out.bytes (lowB_len _ _) (by omega) ?_;intro A3 c3 w3 ho3 hbel3;have HO3:=yH ho3;have HB3:=yH hbel3;clear ho3 hbel3))
   go_roundw
   case rel=>
    refine⟨k+1,A3,c3,by omega,by go_num,rfl,?_,yH ((hbel.out.trans (HB2.out.mono hsz)).trans HB3.out)⟩
    rw[HN.out]
    exact HO3
   case measure=>simp[intOf];omega
  ·obtain rfl:k=n:=by omega
   go_wp2
   go_ret
   exact⟨A,c,rfl,ho.out,hbel.out⟩
end Gn
namespace Cl8
open Bytes8 Blk8 Own8 OwnE
theorem bytes_any (A:Option Addr)(l:List Int)(len cap:Nat)(w:World)(hb:Bytes w A l)(hL:l.length=len)(hmax:len≤1000000):
 Calls Tryz.prog 23 #[.slice A len cap] w fun e w'=> ∃A2 c2,e= .returned (.slice A2 len c2)∧Own w' w.heap.size A2 len c2 l∧Below w.heap.size w w':=by
 have HB:=yH (hb.below ((Below.refl w.heap.size w).alloc (yR _) (.cells #[] 5)) (yR _))
 have HL:=yH hL
 clear hb hL
 go_enter Tryz.func23,Tryz.ntmps23
 go_wp2_with(at_builtin;refine wpList_append_bytes rfl (.tmp 3) (.tmp 4) rfl w.heap.size _ 0 0 [] rfl (Own.made w _ (yR _)) A len cap l rfl HB.out HL.out (by omega) ?_;intro A2 c2 w2 ho2 hbel2;rw[Nat.zero_add,List.nil_append]at ho2;rw[Nat.zero_add];have HO2:=yH ho2;clear ho2)
 go_ret
 exact⟨A2,c2,rfl,HO2.out,((Below.refl _ _).alloc (yR _) _).trans hbel2⟩
end Cl8
namespace OwnA
open Bytes8 Own8
def ownB (A:Option Addr):Option Nat:=A.map (·.block)
theorem ownB_eq (A:Option Addr)(n c:Nat):(Value.slice A n c).ownBlock=ownB A:=by cases A<;>rfl
theorem own_kept {w w':World}{base n c:Nat}{row:Option Nat}{A:Option Addr}{l:List Int}(h:Own w base A n c l)(hg:w.grownBy w' row)(hne: ∀g,ownB A=some g→row≠some g):Own w' base A n c l:=by
 refine⟨h.1,h.2.1,Nat.le_trans h.2.2.1 hg.size,h.2.2.2.1,?_⟩
 rcases h.2.2.2.2 with h1|⟨k,cap,cur,h1,h2,h3,h4⟩
 ·exact .inl h1
 ·refine .inr ⟨k,cap,cur,h1,h2,?_,h4⟩
  have hk:k<w.heap.size:=by
   rcases Nat.lt_or_ge k w.heap.size with h|h
   ·exact h
   ·rw[Array.getElem?_eq_none h]at h3;cases h3
  injection h1 with e1 e2 e3
  subst e1
  rw[hg.block k hk (fun e=>hne k rfl e.symm)];exact h3
theorem run_append_at (w:World)(ty:TypeId)(base:Nat)(A:Option Addr)(n c:Nat)(l:List Int)(ho:Own w base A n c l)(A2:Option Addr)(m c2:Nat)(ys:List Int)(hb:Bytes w A2 ys)(hm:ys.length=m)(hsz:n+m≤70368744177664):
 ∃A' c' w',(Builtin.append_ #[24,24] ty #[.slice A n c,.slice A2 m c2]).run Tryz.prog w= .ok (.slice A' (n+m) c') w'∧Own w' base A' (n+m) c' (l++ys)∧w.grownBy w' (ownB A)∧(ownB A'=ownB A∨ownB A'=some w.heap.size):=by
 obtain⟨i,hi,hzz⟩:=Option.map_eq_some_iff.1 info8
 simp only[Prod.mk.injEq]at hzz
 obtain⟨hz,hs,hby⟩:=hzz
 have hown:=ho.2.2.2
 have done: ∀(v':Value) (w':World),w'.ownsRow base 5 1 v' (n+m) (l.map (Value.int .u8)++ys.map (Value.int .u8))→w.grownBy w' (Value.slice A n c).ownBlock→(v'.ownBlock=(Value.slice A n c).ownBlock∨v'.ownBlock=some w.heap.size)→
  ∃A' c',v'= .slice A' (n+m) c'∧Own w' base A' (n+m) c' (l++ys)∧w.grownBy w' (ownB A)∧(ownB A'=ownB A∨ownB A'=some w.heap.size):=by
  intro v' w' h2 h3 h4
  have hsize:=h3.size
  rw[ownB_eq]at h3 h4
  have hL:(l++ys).length=n+m:=by rw[List.length_append,ho.2.1,hm]
  rw[←List.map_append]at h2
  rcases h2.2 with⟨rfl,h0⟩|⟨g,cap,cur,rfl,_⟩
  ·rw[h0]at h2 hL⊢
   rw[ownB_eq]at h4
   exact⟨none,0,rfl,⟨ho.1.app hb.1,hL,Nat.le_trans ho.2.2.1 hsize,h2⟩,h3,h4⟩
  ·rw[ownB_eq]at h4
   exact⟨_,_,rfl,⟨ho.1.app hb.1,hL,Nat.le_trans ho.2.2.1 hsize,h2⟩,h3,h4⟩
 have hlen:(ys.map (Value.int .u8)).length=m*1:=by simp[hm]
 by_cases h0:0<ys.length
 ·obtain⟨ad,rfl,hsrc⟩:=hb.source w (Below.refl _ _) h0
  obtain⟨v',w',hr,h2,h3,_,h4⟩:=run_append_own_at (P:=Tryz.prog) w base 24 ty 5 i (.int .u8 0) 1 1 Tryz.underlying24 hi hz hs hby rfl (by decide) _ n _ hown ad m c2 (ys.map (Value.int .u8)) hlen
   (fun j u hu=>by
     rw[List.getElem?_map]at hu
     obtain⟨x,hx,rfl⟩:=Option.map_eq_some_iff.1 hu
     exact hsrc j x hx) (ones ys) (by unfold maxLen;omega) (by omega) ho.2.2.1
  obtain⟨A',c',rfl,h5⟩:=done v' w' h2 h3 h4
  exact⟨A',c',w',hr,h5⟩
 ·obtain rfl:ys=[]:=List.eq_nil_of_length_eq_zero (by omega)
  obtain rfl:m=0:=by simpa using hm.symm
  cases A2 with
  |some ad=>
   obtain⟨v',w',hr,h2,h3,_,h4⟩:=run_append_own_at (P:=Tryz.prog) w base 24 ty 5 i (.int .u8 0) 1 1 Tryz.underlying24 hi hz hs hby rfl (by decide) _ n _ hown ad 0 c2 [] rfl
    (fun j u hu=>by simp at hu) (fun u hu=>by cases hu) (by unfold maxLen;omega) (by omega) ho.2.2.1
   obtain⟨A',c',rfl,h5⟩:=done v' w' h2 h3 h4
   exact⟨A',c',w',hr,h5⟩
  |none=>
   refine⟨A,c,w,?_,?_,World.grownBy.refl _ _,.inl rfl⟩
   ·rcases hown.2 with⟨he,h0'⟩|⟨g,cap,cur,he,_,_,hnc,_⟩
    ·injection he with e1 e2 e3
     subst e1;subst e2;subst e3
     simp[Builtin.append_,run_underlying Tryz.underlying24,sizeOf,typeInfo,hi,Builtin.lenOf,Builtin.firstCells]
    ·injection he with e1 e2 e3
     subst e1;subst e3
     simp[Builtin.append_,run_underlying Tryz.underlying24,sizeOf,typeInfo,hi,Builtin.lenOf,Builtin.firstCells,hnc,storeCells]
   ·rw[Nat.add_zero,List.append_nil];exact ho
end OwnA
namespace Dc
open Bytes8 Blk8 Own8 OwnA OwnE
theorem run_append_elt_at {E S:TypeId}{size bytes:Nat}{z:Value}(he:Elt E S size bytes z)(w:World)(ty:TypeId)(base:Nat)(A:Option Addr)(n c:Nat)(xs:List Value)(ho:OwnE E size w base A n c xs)(ad:Addr)(m c2:Nat)(news:List Value)(hl:news.length=m*size)
 (hnews: ∀j u,news[j]? =some u→w.cell? (ad.add j)=some u)(h1: ∀u∈news,u.oneCell'=true)(h63:n+m≤4611686018427387904)(hbytes:(n+m)*bytes≤140737488355328)(hml:n+m≤maxLen):
 ∃A' c' w',(Builtin.append_ #[S,S] ty #[.slice A n c,.slice (some ad) m c2]).run Tryz.prog w= .ok (.slice A' (n+m) c') w'∧OwnE E size w' base A' (n+m) c' (xs++news)∧w.grownBy w' (ownB A)∧(ownB A'=ownB A∨ownB A'=some w.heap.size):=by
 obtain⟨i,hi,hzz⟩:=Option.map_eq_some_iff.1 he.info
 simp only[Prod.mk.injEq]at hzz
 obtain⟨hz,hs,hby⟩:=hzz
 obtain⟨v',w',hr,h2,h3,h4,h5⟩:=run_append_own_at (P:=Tryz.prog) w base S ty E i z size bytes he.under hi hz hs hby he.zero he.pos _ n xs ho.2 ad m c2 news hl hnews h1 hml hbytes ho.1
 rw[ownB_eq]at h3 h5
 rcases h2.2 with⟨rfl,h0⟩|⟨g,cap,cur,rfl,_⟩
 ·rw[h0]at h2⊢
  rw[ownB_eq]at h5
  exact⟨none,0,w',hr,⟨Nat.le_trans ho.1 h3.size,h2⟩,h3,h5⟩
 ·rw[ownB_eq]at h5
  exact⟨_,_,w',hr,⟨Nat.le_trans ho.1 h3.size,h2⟩,h3,h5⟩
theorem wpList_append_elt_at {E S:TypeId}{size bytes:Nat}{z:Value}(he:Elt E S size bytes z){w:World}{ops:Array Oper}{rest:List Oper}{o:Oper}{a:Act}{Q:Exit→Act→World→Prop}(hgd:o.guard=none)(s x:Operand)
 (hop:o.op= .call {callee:= .builtin .append,args:= #[s,x],argTypes:= #[S,S]})
 (base:Nat)(A:Option Addr)(n c:Nat)(xs:List Value)(hs:a.eval s= .slice A n c)(ho:OwnE E size w base A n c xs)(ad:Addr)(m c2:Nat)(news:List Value)(hx:a.eval x= .slice (some ad) m c2)(hl:news.length=m*size)
 (hnews: ∀j u,news[j]? =some u→w.cell? (ad.add j)=some u)(h1: ∀u∈news,u.oneCell'=true)(h63:n+m≤4611686018427387904)(hbytes:(n+m)*bytes≤140737488355328)(hml:n+m≤maxLen)
 (h: ∀A' c' w',OwnE E size w' base A' (n+m) c' (xs++news)→w.grownBy w' (ownB A)→(ownB A'=ownB A∨ownB A'=some w.heap.size)→wpList Tryz.prog ops Q rest (a.put o.dst (.slice A' (n+m) c')) w'):wpList Tryz.prog ops Q (o::rest) a w:=
 wpList_plain hgd fun _ hK=>by
  obtain⟨A',c',w',hr,h2,h3,h4⟩:=run_append_elt_at he w o.type base A n c xs ho ad m c2 news hl hnews h1 h63 hbytes hml
  unfold Oper.wp execOp
  simp only[hop,resolve,invoke,builtin,Sem.run_bind,Sem.run_pure,Result.andThen_ok,List.map_toArray,List.map_cons,List.map_nil,hs,hx,hr]
  exact hK _ _ (h A' c' w' h2 h3 h4)
theorem step_append_elt_at {E S:TypeId}{size bytes:Nat}{z:Value}(he:Elt E S size bytes z){w:World}{ops:Array Oper}{o:Oper}{a:Act}{K:Act→World→Prop}{Q:Exit→Act→World→Prop}{F:Prop}(hgd:o.guard=none)(s x:Operand)
 (hop:o.op= .call {callee:= .builtin .append,args:= #[s,x],argTypes:= #[S,S]})
 (base:Nat)(A:Option Addr)(n c:Nat)(xs:List Value)(hs:a.eval s= .slice A n c)(ho:OwnE E size w base A n c xs)(ad:Addr)(m c2:Nat)(news:List Value)(hx:a.eval x= .slice (some ad) m c2)(hl:news.length=m*size)
 (hnews: ∀j u,news[j]? =some u→w.cell? (ad.add j)=some u)(h1: ∀u∈news,u.oneCell'=true)(h63:n+m≤4611686018427387904)(hbytes:(n+m)*bytes≤140737488355328)(hml:n+m≤maxLen)
 (h: ∀A' c' w',OwnE E size w' base A' (n+m) c' (xs++news)→w.grownBy w' (ownB A)→(ownB A'=ownB A∨ownB A'=some w.heap.size)→K (a.put o.dst (.slice A' (n+m) c')) w'):
 if Region.wanted o (yielded ops a.tmps)=true then Oper.wp Tryz.prog o a w K Q else F:=by
 have hw:Region.wanted o (yielded ops a.tmps)=true:=by simp[Region.wanted,hgd]
 rw[if_pos hw]
 obtain⟨A',c',w',hr,h2,h3,h4⟩:=run_append_elt_at he w o.type base A n c xs ho ad m c2 news hl hnews h1 h63 hbytes hml
 unfold Oper.wp execOp
 simp only[hop,resolve,invoke,builtin,Sem.run_bind,Sem.run_pure,Result.andThen_ok,List.map_toArray,List.map_cons,List.map_nil,hs,hx,hr]
 exact h A' c' w' h2 h3 h4
theorem OwnE.keptG {E:TypeId}{size:Nat}{w w':World}{base n c:Nat}{row:Option Nat}{A:Option Addr}{xs:List Value}(h:OwnE E size w base A n c xs)(hg:w.grownBy w' row)(hne: ∀g,ownB A=some g→row≠some g):OwnE E size w' base A n c xs:=by
 refine⟨Nat.le_trans h.1 hg.size,h.2.1,?_⟩
 rcases h.2.2 with h1|⟨k,cap,cur,h1,h2,h3,h4⟩
 ·exact .inl h1
 ·refine .inr ⟨k,cap,cur,h1,h2,?_,h4⟩
  have hk:k<w.heap.size:=by
   rcases Nat.lt_or_ge k w.heap.size with h|h
   ·exact h
   ·rw[Array.getElem?_eq_none h]at h3;cases h3
  injection h1 with e1 e2 e3
  subst e1
  rw[hg.block k hk (fun e=>hne k rfl e.symm)];exact h3
theorem OwnE.ltB {E:TypeId}{size:Nat}{w:World}{base n c:Nat}{A:Option Addr}{xs:List Value}(h:OwnE E size w base A n c xs): ∀g,ownB A=some g→base≤g∧g<w.heap.size:=fun g hg=>h.lt g (by rw[ownB_eq];exact hg)
end Dc
namespace Sa
open Bytes8 Blk8 Hm Ha
theorem round_any (p q r s:Int)(w:World)(h:(⟨p,q,r,s⟩:Quad).ok):
 Calls Tryz.prog 215 #[.agg #[.int .u64 p,.int .u64 q,.int .u64 r,.int .u64 s]] w fun e w'=>e= .returned (.agg #[.int .u64 (round ⟨p,q,r,s⟩).p,.int .u64 (round ⟨p,q,r,s⟩).q,.int .u64 (round ⟨p,q,r,s⟩).r,.int .u64 (round ⟨p,q,r,s⟩).s])∧Below w.heap.size w w':=by
 obtain⟨⟨p0,p1⟩,⟨q0,q1⟩,⟨r0,r1⟩,⟨s0,s1⟩⟩:=h
 simp only at p0 p1 q0 q1 r0 r1 s0 s1
 go_enter Tryz.func215,Tryz.ntmps215
 go_wp2
 go_quiet (fail)
 go_wp2_with(go_at_call 249;(with_reducible refine(rotl64 _ _ _ (by first|assumption|exact(b64 _ _ _).1|exact(rot64_bd _ _).1|exact(wrap64_bd _).1|omega) (by first|assumption|exact(b64 _ _ _).2|exact(rot64_bd _ _).2|exact(wrap64_bd _).2|omega) (by decide) (by decide)).mono ?_);rintro e w' ⟨rfl,rfl⟩)
 refine bodyPost_ret (v:= .agg #[.int .u64 (round ⟨p,q,r,s⟩).p,.int .u64 (round ⟨p,q,r,s⟩).q,.int .u64 (round ⟨p,q,r,s⟩).r,.int .u64 (round ⟨p,q,r,s⟩).s]) (by simp[results,Tryz.results215,go_sem,round,add64,xor64,IntKind.wrap_u64]) rfl ⟨rfl,?_⟩
 repeat (first|exact Below.refl _ _|refine Below.setCell ?_ (by simp) _|refine Below.alloc ?_ (by simp) _|refine below_drewN ?_ _)
theorem round_q (f:Quad)(w:World)(h:f.ok):
 Calls Tryz.prog 215 #[.agg #[.int .u64 f.p,.int .u64 f.q,.int .u64 f.r,.int .u64 f.s]] w fun e w'=>e= .returned (.agg #[.int .u64 (round f).p,.int .u64 (round f).q,.int .u64 (round f).r,.int .u64 (round f).s])∧Below w.heap.size w w':=round_any f.p f.q f.r f.s w h
theorem qplus_any (p q r s m:Int)(w:World)(h:(⟨p,q,r,s⟩:Quad).ok):
 Calls Tryz.prog 214 #[.agg #[.int .u64 p,.int .u64 q,.int .u64 r,.int .u64 s],.int .u64 m] w fun e w'=>e= .returned (.agg #[.int .u64 (quadPlus ⟨p,q,r,s⟩ m).p,.int .u64 (quadPlus ⟨p,q,r,s⟩ m).q,.int .u64 (quadPlus ⟨p,q,r,s⟩ m).r,.int .u64 (quadPlus ⟨p,q,r,s⟩ m).s])∧Below w.heap.size w w':=by
 have HR:=yH fun w=>round_any p q r (bits .xor .u64 s m) w ⟨h.1,h.2.1,h.2.2.1,b64 .xor s m⟩
 have HE:=yH (show quadPlus ⟨p,q,r,s⟩ m=⟨xor64 (round (round ⟨p,q,r,bits .xor .u64 s m⟩)).p m,(round (round ⟨p,q,r,bits .xor .u64 s m⟩)).q,(round (round ⟨p,q,r,bits .xor .u64 s m⟩)).r,(round (round ⟨p,q,r,bits .xor .u64 s m⟩)).s⟩from rfl)
 have HX:=yH (round_ok ⟨p,q,r,bits .xor .u64 s m⟩)
 generalize quadPlus ⟨p,q,r,s⟩ m=Z at*
 generalize round ⟨p,q,r,bits .xor .u64 s m⟩=X at*
 go_enter Tryz.func214,Tryz.ntmps214
 go_wp2_with(first|(go_at_call 215;(with_reducible refine(HR.out _).mono ?_);rintro e w1 ⟨rfl,hb1⟩;have hz1:=hb1.size;simp at hz1)|(go_at_call 215;(with_reducible refine(round_q X _ HX.out).mono ?_);rintro e w2 ⟨rfl,hb2⟩;have hz2:=hb2.size;have c0:w2.cell? ⟨w.heap.size,0,none⟩=some (.int .u64 p):=(hb2.cell (p:=⟨w.heap.size,0,none⟩) (by simp;omega)).trans ((hb1.cell (p:=⟨w.heap.size,0,none⟩) (by simp;omega)).trans (by go_simp));have f0:w2.frozen? ⟨w.heap.size,0,none⟩=false:=(hb2.frozen (p:=⟨w.heap.size,0,none⟩) (by simp;omega)).trans ((hb1.frozen (p:=⟨w.heap.size,0,none⟩) (by simp;omega)).trans (by go_simp));have d0:w2.cell? ⟨w.heap.size+1,0,none⟩=some (.int .u64 0):=(hb2.cell (p:=⟨w.heap.size+1,0,none⟩) (by simp;omega)).trans ((hb1.cell (p:=⟨w.heap.size+1,0,none⟩) (by simp)).trans (by go_simp));have h0:w2.frozen? ⟨w.heap.size+1,0,none⟩=false:=(hb2.frozen (p:=⟨w.heap.size+1,0,none⟩) (by simp;omega)).trans ((hb1.frozen (p:=⟨w.heap.size+1,0,none⟩) (by simp)).trans (by go_simp));have c1:w2.cell? ⟨w.heap.size,1,none⟩=some (.int .u64 q):=(hb2.cell (p:=⟨w.heap.size,1,none⟩) (by simp;omega)).trans ((hb1.cell (p:=⟨w.heap.size,1,none⟩) (by simp;omega)).trans (by go_simp));have f1:w2.frozen? ⟨w.heap.size,1,none⟩=false:=(hb2.frozen (p:=⟨w.heap.size,1,none⟩) (by simp;omega)).trans ((hb1.frozen (p:=⟨w.heap.size,1,none⟩) (by simp;omega)).trans (by go_simp));have d1:w2.cell? ⟨w.heap.size+1,1,none⟩=some (.int .u64 0):=(hb2.cell (p:=⟨w.heap.size+1,1,none⟩) (by simp;omega)).trans ((hb1.cell (p:=⟨w.heap.size+1,1,none⟩) (by simp)).trans (by go_simp));have h1:w2.frozen? ⟨w.heap.size+1,1,none⟩=false:=(hb2.frozen (p:=⟨w.heap.size+1,1,none⟩) (by simp;omega)).trans ((hb1.frozen (p:=⟨w.heap.size+1,1,none⟩) (by simp)).trans (by go_simp));have c2:w2.cell? ⟨w.heap.size,2,none⟩=some (.int .u64 r):=(hb2.cell (p:=⟨w.heap.size,2,none⟩) (by simp;omega)).trans ((hb1.cell (p:=⟨w.heap.size,2,none⟩) (by simp;omega)).trans (by go_simp));have f2:w2.frozen? ⟨w.heap.size,2,none⟩=false:=(hb2.frozen (p:=⟨w.heap.size,2,none⟩) (by simp;omega)).trans ((hb1.frozen (p:=⟨w.heap.size,2,none⟩) (by simp;omega)).trans (by go_simp));have d2:w2.cell? ⟨w.heap.size+1,2,none⟩=some (.int .u64 0):=(hb2.cell (p:=⟨w.heap.size+1,2,none⟩) (by simp;omega)).trans ((hb1.cell (p:=⟨w.heap.size+1,2,none⟩) (by simp)).trans (by go_simp));have h2:w2.frozen? ⟨w.heap.size+1,2,none⟩=false:=(hb2.frozen (p:=⟨w.heap.size+1,2,none⟩) (by simp;omega)).trans ((hb1.frozen (p:=⟨w.heap.size+1,2,none⟩) (by simp)).trans (by go_simp));have c3:w2.cell? ⟨w.heap.size,3,none⟩=some (.int .u64 (bits .xor .u64 s m)):=(hb2.cell (p:=⟨w.heap.size,3,none⟩) (by simp;omega)).trans ((hb1.cell (p:=⟨w.heap.size,3,none⟩) (by simp;omega)).trans (by go_simp));have f3:w2.frozen? ⟨w.heap.size,3,none⟩=false:=(hb2.frozen (p:=⟨w.heap.size,3,none⟩) (by simp;omega)).trans ((hb1.frozen (p:=⟨w.heap.size,3,none⟩) (by simp;omega)).trans (by go_simp));have d3:w2.cell? ⟨w.heap.size+1,3,none⟩=some (.int .u64 0):=(hb2.cell (p:=⟨w.heap.size+1,3,none⟩) (by simp;omega)).trans ((hb1.cell (p:=⟨w.heap.size+1,3,none⟩) (by simp)).trans (by go_simp));have h3:w2.frozen? ⟨w.heap.size+1,3,none⟩=false:=(hb2.frozen (p:=⟨w.heap.size+1,3,none⟩) (by simp;omega)).trans ((hb1.frozen (p:=⟨w.heap.size+1,3,none⟩) (by simp)).trans (by go_simp))))
 refine bodyPost_ret (v:= .agg #[.int .u64 (bits .xor .u64 (round X).p m),.int .u64 (round X).q,.int .u64 (round X).r,.int .u64 (round X).s]) (by simp[results,Tryz.results214,go_sem,d0,d1,d2,d3]) rfl ⟨by rw[HE.out];rfl,?_⟩
 have hb:Below w.heap.size w w2:=by
  refine Below.trans ?_ ((hb1.mono (B':=w.heap.size) (by simp;omega)).trans (hb2.mono (B':=w.heap.size) (by omega)))
  repeat (first|exact Below.refl _ _|refine Below.setCell ?_ (by simp) _|refine Below.alloc ?_ (by simp) _)
 repeat (first|(with_reducible exact hb)|refine Below.setCell ?_ (by simp) _)
theorem qplus_q (f:Quad)(m:Int)(w:World)(h:f.ok):
 Calls Tryz.prog 214 #[.agg #[.int .u64 f.p,.int .u64 f.q,.int .u64 f.r,.int .u64 f.s],.int .u64 m] w fun e w'=>e= .returned (.agg #[.int .u64 (quadPlus f m).p,.int .u64 (quadPlus f m).q,.int .u64 (quadPlus f m).r,.int .u64 (quadPlus f m).s])∧Below w.heap.size w w':=qplus_any f.p f.q f.r f.s m w h
end Sa
namespace Hd
open Bytes8 Blk8 Hm Ha Hb Hc
theorem look_nil_any (A:Option Addr)(cap:Nat)(w:World):
 Calls Tryz.prog 136 #[.slice A 0 cap] w fun e w'=>e= .returned (.int .u64 (lookS []))∧Below w.heap.size w w':=by
 have h0:(⟨3735928559,3735928559,3735928559⟩:Trio).ok:=by unfold Trio.ok;decide
 go_enter Tryz.func136,Tryz.ntmps136
 go_wp2_with(go_at_call 174;(with_reducible refine(answer_any _ _ _ _ h0).mono ?_);rintro e w1 ⟨rfl,hbel⟩)
 go_ret
 refine⟨ret_int (by decide+kernel),?_⟩
 have h1:=((Below.refl w.heap.size w).alloc (yR _) (.cells #[.int .u32 3735928559,.int .u32 3735928559,.int .u32 3735928559] 283))
 exact h1.trans (hbel.mono h1.size)
def Rest (w0:World)(g:Nat)(t:Trio)(w:World):Prop:=Blk w g [.int .u32 t.x,.int .u32 t.y,.int .u32 t.z] 283∧Below w0.heap.size w0 w
theorem w4_drop (l:List Int)(k o:Nat):w4 (l.drop k) o=w4 l (k+o):=by simp[w4,List.drop_drop]
theorem w4_take (l:List Int)(n o:Nat)(h:o+4≤n):w4 (l.take n) o=w4 l o:=by
 unfold w4
 rw[List.drop_take,List.take_take,Nat.min_eq_left (by omega)]
theorem plus3_drop (t:Trio)(l:List Int)(k:Nat):plus3 t (l.drop k) 0=plus3 t l k:=by
 simp only[plus3,w4_drop,Nat.add_zero]
theorem plus3_take (t:Trio)(l:List Int):plus3 t (l.take 12) 0=plus3 t l 0:=by
 simp only[plus3,w4_take l 12 0 (by omega),w4_take l 12 (0+4) (by omega),w4_take l 12 (0+8) (by omega)]
theorem plus_block (t:Trio)(a:Option Addr)(l:List Int)(cap:Nat)(w:World)(hb:Bytes w a l)(hlen:12≤l.length)(ht:t.ok):
 Calls Tryz.prog 175 #[.agg #[.int .u32 t.x,.int .u32 t.y,.int .u32 t.z],.slice a 12 cap] w fun e w'=>e= .returned (.agg #[.int .u32 (plus3 t l 0).x,.int .u32 (plus3 t l 0).y,.int .u32 (plus3 t l 0).z])∧Below w.heap.size w w':=by
 have hb':Bytes w a (l.take 12):=by
  have h:=hb.part 0 12 a (fun b off e _ _=>by rw[e];rfl)
  rwa[List.drop_zero]at h
 have h:=plus_any t.x t.y t.z a (l.take 12) 12 cap w hb' (by simp;omega) (by decide) ht
 rw[plus3_take]at h
 exact h
theorem mixed_block (t:Trio)(w:World)(ht:t.ok):
 Calls Tryz.prog 176 #[.agg #[.int .u32 t.x,.int .u32 t.y,.int .u32 t.z]] w fun e w'=>e= .returned (.agg #[.int .u32 (mix t).x,.int .u32 (mix t).y,.int .u32 (mix t).z])∧Below w.heap.size w w':=mixed_any t.x t.y t.z w ht
theorem rest_step (w0 w:World)(t t' t2:Trio)(he:t2=t')(h:Blk w w0.heap.size [.int .u32 t.x,.int .u32 t.y,.int .u32 t.z] 283)(hb:Below w0.heap.size w0 w):
 Rest w0 w0.heap.size t2 (((w.setCell ⟨w0.heap.size,0,none⟩ (.int .u32 t'.x)).setCell ⟨w0.heap.size,1,none⟩ (.int .u32 t'.y)).setCell ⟨w0.heap.size,2,none⟩ (.int .u32 t'.z)):=by
 subst he
 exact⟨((h.set_ 0 _).set_ 1 _).set_ 2 _,((hb.setCell (yR _) _).setCell (yR _) _).setCell (yR _) _⟩
theorem trioAt_succ (l:List Int)(k:Nat):trioAt l (k+1)=mix (plus3 (trioAt l k) (l.drop (12*k)) 0):=by
 rw[plus3_drop];rfl
theorem look_any (A:Option Addr)(l:List Int)(len cap:Nat)(w:World)(hb:Bytes w A l)(hL:l.length=len)(hpos:0<len)(hmax:len≤1000000)(hcap:len≤cap)(hcap2:cap≤maxLen):
 Calls Tryz.prog 136 #[.slice A len cap] w fun e w'=>e= .returned (.int .u64 (lookS l))∧Below w.heap.size w w':=by
 unfold maxLen at hcap2
 obtain⟨b,off,rfl,hlt,hc⟩:=hb.spot (by omega)
 clear hlt hc
 have HB:=yH hb
 have HL:=yH hL
 clear hb hL
 have HS:=yH (show lookInit l=⟨3735928559+(len:Int),3735928559+(len:Int),3735928559+(len:Int)⟩by
  have e:add32 3735928559 (l.length:Int)=3735928559+(len:Int):=by have:=HL.out;unfold add32;omega
  unfold lookInit;rw[e])
 have hne:((len:Int)==0)=false:=by simp;omega
 go_enter Tryz.func136,Tryz.ntmps136
 go_wp2
 go_loopw [0] (fun s wr=> ∃k n c:Nat,Hid (len=12*k+n∧cap=12*k+c)∧0<n∧n≤len∧c≤cap∧n≤c∧s= .slice (some ⟨b,off+12*k,none⟩) n c∧Hid (Rest w w.heap.size (trioAt l k) wr)) (fun s _=>match s with| .slice _ n _=>n|_=>0)
 case atStart=>exact⟨0,len,cap,yH ⟨by omega,by omega⟩,hpos,yR _,yR _,hcap,rfl,by show Hid (Rest _ _ (lookInit l) _);rw[HS.out];exact⟨Blk.new _ _ _,(Below.refl _ _).alloc (yR _) _⟩⟩
 case round=>
  obtain⟨k,n,c,hn,hn0,hn1,hc1,hnc,rfl,hr⟩:=hrel
  have R1:=yH hr.out.1
  have R2:=yH hr.out.2
  have g0:=hr.out.1.cell (i:=0) rfl
  have g1:=hr.out.1.cell (i:=1) rfl
  have g2:=hr.out.1.cell (i:=2) rfl
  have hz:=hr.out.2.size
  have hlt:=hr.out.1.lt
  have HK:=yH (HB.out.part (12*k) n (some ⟨b,off+12*k,none⟩) (fun b' off' e _ _=>by simp at e;obtain⟨rfl,rfl⟩:=e;rfl))
  rw[List.take_of_length_le (by have:=HL.out;have:=hn.out.1;simp;omega)]at HK
  have HKl:=yH (show(l.drop (12*k)).length=n by have:=HL.out;have:=hn.out.1;simp;omega)
  have HKd:=yH (HK.out.below R2.out (yR _)).drew
  by_cases h12:12<n
  ·have H12:=yH (show 12≤(l.drop (12*k)).length by have:=HKl.out;omega)
   have hd:decide ((12:Int)<(n:Int))=true:=by simp;omega
   go_wp2
   go_region_with (first|(go_at_call 175;(with_reducible refine(plus_block (trioAt l k) _ (l.drop (12*k)) _ _ HKd.out H12.out (trioAt_ok l k)).mono ?_);rintro e w2 ⟨rfl,hb2⟩)|(go_at_call 176;(with_reducible refine(mixed_block _ _ (plus3_ok _ _ _)).mono ?_);rintro e w3 ⟨rfl,hb3⟩;have hR3:=yH ((R1.out.drew.below hb2 hlt).below hb3 (yL hlt hb2.size));have e0:=hR3.out.cell (i:=0) rfl;have e1:=hR3.out.cell (i:=1) rfl;have e2:=hR3.out.cell (i:=2) rfl;have f0:=hR3.out.frozen 0;have f1:=hR3.out.frozen 1;have f2:=hR3.out.frozen 2))
   all_goals
    go_wp2
    go_roundw
    case rel=>
     have:=hn.out.1
     have:=hn.out.2
     refine⟨k+1,n-12,c-12,yH ⟨by omega,by omega⟩,by omega,by omega,by omega,by omega,by first|rfl|(congr 3;omega),?_⟩
     exact rest_step w w3 (trioAt l k) _ _ (trioAt_succ l k) hR3.out ((R2.out.drew.trans (hb2.mono hz)).trans (hb3.mono (Nat.le_trans hz hb2.size)))
    case measure=>simp;omega
  ·have hd:decide ((12:Int)<(n:Int))=false:=by simp;omega
   have HE:=yH (show(l.length-1)/12=k by rw[HL.out,hn.out.1];omega)
   have hS:=yH (show lookS l=ans (fin (plus3 (trioAt l k) (l.drop (12*k)) 0))by
    unfold lookS
    rw[if_neg (by intro h;have:=HL.out;have:=hn.out.1;rw[h]at*;simp at*;omega),HE.out,plus3_drop])
   go_wp2_with(first|(go_at_call 175;(with_reducible refine(plus_any (trioAt l k).x (trioAt l k).y (trioAt l k).z _ (l.drop (12*k)) _ _ _ (HK.out.below R2.out (yR _)) HKl.out (by omega) (trioAt_ok l k)).mono ?_);rintro e w2 ⟨rfl,hb2⟩)|(go_at_call 177;(with_reducible refine(finished_any _ _ _ _ (plus3_ok _ _ _)).mono ?_);rintro e w3 ⟨rfl,hb3⟩)|(go_at_call 174;(with_reducible refine(answer_any _ _ _ _ (fin_ok _)).mono ?_);rintro e w4 ⟨rfl,hb4⟩))
   go_ret
   refine⟨ret_int hS.out.symm,?_⟩
   have h3:=R2.out.trans (hb2.mono hz)
   have h4:=h3.trans (hb3.mono h3.size)
   exact h4.trans (hb4.mono h4.size)
end Hd
namespace Se
open Bytes8 Hm Hd Hf
theorem look_all (A:Option Addr)(l:List Int)(len cap:Nat)(w:World)(hb:Bytes w A l)(hL:l.length=len)(hmax:len≤800000)(hcap:len≤cap)(hcap2:cap≤maxLen):
 Calls Tryz.prog 136 #[.slice A len cap] w fun e w'=>e= .returned (.int .u64 (lookS l))∧Below w.heap.size w w':=by
 by_cases h0:0<len
 ·exact look_any A l len cap w hb hL h0 (by omega) hcap hcap2
 ·obtain rfl:len=0:=by omega
  obtain rfl:l=[]:=List.eq_nil_of_length_eq_zero hL
  exact look_nil_any A cap w
theorem rlook_all (A:Option Addr)(l:List Int)(len cap:Nat)(w:World)(hb:Bytes w A l)(hL:l.length=len)(hmax:len≤800000):
 Calls Tryz.prog 152 #[.slice A len cap] w fun e w'=>e= .returned (.int .u64 (lookS l))∧w=w':=by
 by_cases h0:0<len
 ·exact rlook_any A l len cap w hb hL h0 (by omega)
 ·obtain rfl:len=0:=by omega
  obtain rfl:l=[]:=List.eq_nil_of_length_eq_zero hL
  exact rlook_nil A cap w
end Se
end Go.Proofs.YtiddkgcafpaekaaGreat
