/-
  Texts beneath the proof.
-/
import Derived.Deep.RegionHeld3
import Derived.Deep.CutBlock
import Derived.Test.YtiddkgcafpaekaaGreatJq5
set_option linter.unusedVariables false
set_option linter.unusedSimpArgs false
set_option maxRecDepth 100000
set_option maxHeartbeats 4000000
open Go.ChangeShapes Go.WideShapes Go.ChangeAt Go.RowKit
namespace Go.Proofs.YtiddkgcafpaekaaGreat
namespace Yp
open Bytes8 Blk8 Ob
def ecode (l:List Int)(a:Nat)(k:Int)(ah ea:Nat):Int:=
 if code l a≠0 then code l a else if kindL l a≠k then 4 else if(bodyL l a).length<ah+ea∨(bodyL l a).length%ea≠0 then 5 else 0
def risB (f:Nat→Int):Nat→Bool
 |0=>true
 |1=>true
 |n+2=>risB f (n+1)&&decide (f n<f (n+1))
theorem risB_succ (f:Nat→Int)(n:Nat)(h:0<n):risB f (n+1)=(risB f n&&decide (f (n-1)<f n)):=by
 cases n with
 |zero=>omega
 |succ n=>rfl
theorem risB_mono {f:Nat→Int}{n m:Nat}(h:risB f n=true)(hm:m≤n):risB f m=true:=by
 induction n with
 |zero=>obtain rfl:m=0:=by omega
        exact h
 |succ n ih=>
  rcases Nat.lt_or_ge m (n+1)with h1|h1
  ·refine ih ?_ (by omega)
   cases n with
   |zero=>rfl
   |succ n=>rw[risB]at h;exact(Bool.and_eq_true_iff.1 h).1
  ·obtain rfl:m=n+1:=by omega
   exact h
theorem risB_cong {f g:Nat→Int}{n:Nat}(h: ∀i,i<n→f i=g i):risB f n=risB g n:=by
 induction n with
 |zero=>rfl
 |succ n ih=>
  cases n with
  |zero=>rfl
  |succ n=>rw[risB,risB,ih (fun i hi=>h i (by omega)),h n (by omega),h (n+1) (by omega)]
def itA (bd:List Int)(i:Nat):Int:=u8 bd (48+16*i)
def itH (bd:List Int)(i:Nat):Int:=u8 bd (48+16*i+8)
def itN (bd:List Int):Nat:=(bd.length-48)/16
def itK (bd:List Int)(i:Nat):Int:=if i<16 then bd.getD (24+i) 0 else 0
def entC0 (l:List Int)(a:Nat):Int:=
 if ecode l a 3 48 16≠0 then ecode l a 3 48 16 else if u8 (bodyL l a) 0=0 then 13 else if risB (itA (bodyL l a)) (itN (bodyL l a))then 0 else 11
theorem itK_ok {bd:List Int}(h:AllB bd):IdOk (itK bd):=fun i=>by
 unfold itK
 split
 ·have:=h.at_ (24+i)
  omega
 ·omega
theorem itK_L (bd:List Int)(h:40≤bd.length):idL (itK bd)=(bd.drop 24).take 16:=by
 apply List.ext_getElem
 ·simp[idL];omega
 ·intro i h1 h2
  have h16:i<16:=h1
  rw[List.getElem_take,List.getElem_drop]
  have e:itK bd i=bd[24+i]'(by omega):=by
   unfold itK
   rw[if_pos h16,List.getD_eq_getElem?_getD,List.getElem?_eq_getElem (by omega)];rfl
  rw[←e]
  unfold idL
  rcases i with _|_|_|_|_|_|_|_|_|_|_|_|_|_|_|_|i
  all_goals first|rfl|omega
theorem ecode_there {l:List Int}{a n:Nat}{k:Int}{ah ea:Nat}(hL:l.length=n)(h:ecode l a k ah ea=0):code l a=0∧kindL l a=k∧ah+ea≤(bodyL l a).length∧(bodyL l a).length%ea=0∧(bodyL l a).length≤n:=by
 unfold ecode at h
 have h0:code l a=0:=by
  by_cases h0:code l a=0
  ·exact h0
  ·rw[if_pos h0]at h;exact h
 rw[if_neg (by omega)]at h
 have hk:kindL l a=k:=by
  by_cases hk:kindL l a=k
  ·exact hk
  ·rw[if_pos hk]at h;omega
 rw[if_neg (by omega)]at h
 split at h
 ·omega
 ·refine⟨h0,hk,by omega,by omega,?_⟩
  unfold bodyL
  simp
  omega
theorem body_all {l:List Int}{a:Nat}(h:AllB l):AllB (bodyL l a):=(h.drop _).take _
def arN (bd:List Int):Nat:=(bd.length-8)/8
def arF (bd:List Int)(i:Nat):Int:=u8 bd (8+8*i)
def taA (bd:List Int)(i:Nat):Int:=u8 bd (16*i)
def taB (bd:List Int)(i:Nat):Int:=u8 bd (16*i+8)
end Yp
namespace Oj
open Bytes8 Blk8 Own8 OwnE Ob Oc Od Oe
theorem six_I {x0 x1 x2 x3 x4 x5:Int}(h0:0≤x0∧x0≤18446744073709551615)(h1:0≤x1∧x1≤18446744073709551615)(h2:0≤x2∧x2≤18446744073709551615)(h3:0≤x3∧x3≤18446744073709551615)(h4:0≤x4∧x4≤18446744073709551615)(h5:0≤x5∧x5≤18446744073709551615):I64 [x0,x1,x2,x3,x4,x5]:=by
 intro v hv
 simp at hv
 rcases hv with rfl|rfl|rfl|rfl|rfl|rfl<;>assumption
theorem three_I {x0 x1 x2:Int}(h0:0≤x0∧x0≤18446744073709551615)(h1:0≤x1∧x1≤18446744073709551615)(h2:0≤x2∧x2≤18446744073709551615):I64 [x0,x1,x2]:=by
 intro v hv
 simp at hv
 rcases hv with rfl|rfl|rfl<;>assumption
theorem rnums_new (l:List Int)(n m:Nat)(w:World)(g:Nat)(hg:w.heap.size=g)(hv:I64 l)(hn:l.length=n)(hm:8*n=m)(hmax:n≤1000):
 Calls Tryz.prog 139 #[.slice (some ⟨g,0,none⟩) n n] (w.alloc (.cells (l.map (Value.int .u64)).toArray 27)) fun e w'=> ∃A c,e= .returned (.slice A m c)∧Own w' w.heap.size A m c (nums l)∧Below w.heap.size w w':=by
 subst hg hm
 have h:=rnums_any w.heap.size n n l 27 _ (Blk.new w _ _) hv hn hmax
 exact h.mono fun e w' ⟨A,c,h1,h2,h3⟩=>⟨A,c,h1,Own.base h2 (by simp),((Below.refl w.heap.size w).alloc (yR _) _).trans (h3.mono (by simp))⟩
theorem rnums6 (x0 x1 x2 x3 x4 x5:Int)(w:World)(g:Nat)(hg:w.heap.size=g)(hv:I64 [x0,x1,x2,x3,x4,x5]):
 Calls Tryz.prog 139 #[.slice (some ⟨g,0,none⟩) 6 6] (w.alloc (.cells #[.int .u64 x0,.int .u64 x1,.int .u64 x2,.int .u64 x3,.int .u64 x4,.int .u64 x5] 27)) fun e w'=> ∃A c,e= .returned (.slice A 48 c)∧Own w' w.heap.size A 48 c (nums [x0,x1,x2,x3,x4,x5])∧Below w.heap.size w w':=
 rnums_new [x0,x1,x2,x3,x4,x5] 6 48 w g hg hv rfl rfl (by decide)
theorem rnums3 (x0 x1 x2:Int)(w:World)(g:Nat)(hg:w.heap.size=g)(hv:I64 [x0,x1,x2]):
 Calls Tryz.prog 139 #[.slice (some ⟨g,0,none⟩) 3 3] (w.alloc (.cells #[.int .u64 x0,.int .u64 x1,.int .u64 x2] 27)) fun e w'=> ∃A c,e= .returned (.slice A 24 c)∧Own w' w.heap.size A 24 c (nums [x0,x1,x2])∧Below w.heap.size w w':=
 rnums_new [x0,x1,x2] 3 24 w g hg hv rfl rfl (by decide)
theorem rnumsd6 (x0 x1 x2 x3 x4 x5:Int)(w:World)(g:Nat)(hg:w.heap.size=g)(hv:I64 [x0,x1,x2,x3,x4,x5]):
 Calls Tryz.prog 139 #[.slice (some ⟨g,0,none⟩) 6 6] (w.alloc (.cells #[.int .u64 x0,.int .u64 x1,.int .u64 x2,.int .u64 x3,.int .u64 x4,.int .u64 x5] 27)).drew fun e w'=> ∃A c,e= .returned (.slice A 48 c)∧Own w' w.heap.size A 48 c (nums [x0,x1,x2,x3,x4,x5])∧Below w.heap.size w w':=
 (rnums6 x0 x1 x2 x3 x4 x5 w.drew g hg hv).mono fun e w' ⟨A,c,h1,h2,h3⟩=>⟨A,c,h1,h2,(Below.refl w.heap.size w).drew.trans h3⟩
theorem rnumsd3 (x0 x1 x2:Int)(w:World)(g:Nat)(hg:w.heap.size=g)(hv:I64 [x0,x1,x2]):
 Calls Tryz.prog 139 #[.slice (some ⟨g,0,none⟩) 3 3] (w.alloc (.cells #[.int .u64 x0,.int .u64 x1,.int .u64 x2] 27)).drew fun e w'=> ∃A c,e= .returned (.slice A 24 c)∧Own w' w.heap.size A 24 c (nums [x0,x1,x2])∧Below w.heap.size w w':=
 (rnums3 x0 x1 x2 w.drew g hg hv).mono fun e w' ⟨A,c,h1,h2,h3⟩=>⟨A,c,h1,h2,(Below.refl w.heap.size w).drew.trans h3⟩
abbrev dataV (x0 x1 x2 x3 x4 x5:Int)(A:Option Addr)(n c:Nat):Value:= .agg #[.int .u64 x0,.int .u64 x1,.int .u64 x2,.int .u64 x3,.int .u64 x4,.int .u64 x5,.slice A n c]
abbrev fieldV (x0 x1 x2:Int)(A:Option Addr)(n c:Nat):Value:= .agg #[.int .u64 x0,.int .u64 x1,.int .u64 x2,.slice A n c]
theorem rputData_any (x0 x1 x2 x3 x4 x5:Int)(A:Option Addr)(l:List Int)(n cap:Nat)(w:World)(hb:Bytes w A l)(hL:l.length=n)(hn:n≤900000)(hv:I64 [x0,x1,x2,x3,x4,x5]):
 Calls Tryz.prog 147 #[dataV x0 x1 x2 x3 x4 x5 A n cap] w (Owned (objB 1 (nums [x0,x1,x2,x3,x4,x5]++l)) (16+(48+n)+padN (48+n)) w):=by
 have HN:=yH fun(W:World) (g:Nat) (hg:W.heap.size=g)=>rnumsd6 x0 x1 x2 x3 x4 x5 W g hg hv
 have HL:=yH hL
 have HB:=yH hb
 have HP:=yH fun(A2:Option Addr) (c2:Nat) (W:World) (h:Bytes W A2 (nums [x0,x1,x2,x3,x4,x5]++l))=>rput_yes 1 A2 (nums [x0,x1,x2,x3,x4,x5]++l) (48+n) c2 W (by decide) h (by rw[List.length_append,nums_len,hL];rfl) (by omega)
 unfold Owned at HP
 have b0:=yH ((Below.refl w.heap.size w).alloc (yR _) (.cells #[.int .u64 x0,.int .u64 x1,.int .u64 x2,.int .u64 x3,.int .u64 x4,.int .u64 x5,.slice A n cap] 129))
 have R0:=yH (Blk.new w [.int .u64 x0,.int .u64 x1,.int .u64 x2,.int .u64 x3,.int .u64 x4,.int .u64 x5,.slice A n cap] 129)
 have u0:=R0.out.drew.cell (i:=0) rfl;have u1:=R0.out.drew.cell (i:=1) rfl;have u2:=R0.out.drew.cell (i:=2) rfl;have u3:=R0.out.drew.cell (i:=3) rfl;have u4:=R0.out.drew.cell (i:=4) rfl;have u5:=R0.out.drew.cell (i:=5) rfl;have u6:=R0.out.drew.cell (i:=6) rfl
 generalize nums [x0,x1,x2,x3,x4,x5]=N at*
 generalize padN (48+n)=p at*
 clear hb hL hv
 go_enter Tryz.func147,Tryz.ntmps147
 go_wp2
 go_region_held3 (fun w'=>w'.cell? ⟨w.heap.size,0,none⟩=some (.int .u64 x0)∧w'.cell? ⟨w.heap.size,1,none⟩=some (.int .u64 x1)∧w'.cell? ⟨w.heap.size,2,none⟩=some (.int .u64 x2)∧w'.cell? ⟨w.heap.size,3,none⟩=some (.int .u64 x3)∧w'.cell? ⟨w.heap.size,4,none⟩=some (.int .u64 x4)∧w'.cell? ⟨w.heap.size,5,none⟩=some (.int .u64 x5)∧w'.cell? ⟨w.heap.size,6,none⟩=some (.slice A n cap)) (first|(with_reducible exact⟨u0,u1,u2,u3,u4,u5,u6⟩)|(with_reducible exact⟨q0,q1,q2,q3,q4,q5,q6⟩)|(with_reducible exact⟨s0,s1,s2,s3,s4,s5,s6⟩)|(with_reducible exact⟨t0,t1,t2,t3,t4,t5,t6⟩)|go_keep) (first
  |(refine step_append_bytes (o:=⟨some 19,_,_,_,_,_⟩) rfl (.tmp 16) (.tmp 18) rfl _ _ 48 _ _ rfl HO2.out A n cap l rfl (HB.out.below (b0.out.trans (HB2.out.mono b0.out.size)) (yR _)) HL.out (by omega) ?_;intro A3 c3 w3 ho3 hbel3;have HO3:=yH ho3;have HB3:=yH hbel3;have R3:=yH (R2.out.below hbel3 R0.out.lt);have s0:=R3.out.cell (i:=0) rfl;have s1:=R3.out.cell (i:=1) rfl;have s2:=R3.out.cell (i:=2) rfl;have s3:=R3.out.cell (i:=3) rfl;have s4:=R3.out.cell (i:=4) rfl;have s5:=R3.out.cell (i:=5) rfl;have s6:=R3.out.cell (i:=6) rfl;clear ho3 hbel3)
  |(go_at_call 139;(with_reducible refine(HN.out _ _ (by simp)).mono ?_);rintro e w2 ⟨A2,c2,rfl,ho2,hbel2⟩;have HO2:=yH ho2;have HB2:=yH hbel2;have R2:=yH (R0.out.below hbel2 R0.out.lt);have q0:=R2.out.cell (i:=0) rfl;have q1:=R2.out.cell (i:=1) rfl;have q2:=R2.out.cell (i:=2) rfl;have q3:=R2.out.cell (i:=3) rfl;have q4:=R2.out.cell (i:=4) rfl;have q5:=R2.out.cell (i:=5) rfl;have q6:=R2.out.cell (i:=6) rfl;clear ho2 hbel2)
  |(go_at_call 145;(with_reducible refine(HP.out _ _ _ HO3.out.bytes).mono ?_);rintro e w4 ⟨A4,c4,rfl,ho4,hbel4⟩;have HO4:=yH ho4;have HB4:=yH hbel4;have R4:=yH (R3.out.below hbel4 R3.out.lt);have t0:=R4.out.cell (i:=0) rfl;have t1:=R4.out.cell (i:=1) rfl;have t2:=R4.out.cell (i:=2) rfl;have t3:=R4.out.cell (i:=3) rfl;have t4:=R4.out.cell (i:=4) rfl;have t5:=R4.out.cell (i:=5) rfl;have t6:=R4.out.cell (i:=6) rfl;clear ho4 hbel4))
 go_wp2
 go_ret
 have hb23:=(b0.out.trans (HB2.out.mono b0.out.size)).trans (HB3.out.mono b0.out.size)
 exact⟨A4,c4,rfl,Own.base HO4.out hb23.size,hb23.trans (HB4.out.mono hb23.size)⟩
theorem rputField_any (x0 x1 x2:Int)(A:Option Addr)(l:List Int)(n cap:Nat)(w:World)(hb:Bytes w A l)(hL:l.length=n)(hn:n≤900000)(hv:I64 [x0,x1,x2]):
 Calls Tryz.prog 184 #[fieldV x0 x1 x2 A n cap] w (Owned (objB 2 (nums [x0,x1,x2]++l)) (16+(24+n)+padN (24+n)) w):=by
 have HN:=yH fun(W:World) (g:Nat) (hg:W.heap.size=g)=>rnumsd3 x0 x1 x2 W g hg hv
 have HL:=yH hL
 have HB:=yH hb
 have HP:=yH fun(A2:Option Addr) (c2:Nat) (W:World) (h:Bytes W A2 (nums [x0,x1,x2]++l))=>rput_yes 2 A2 (nums [x0,x1,x2]++l) (24+n) c2 W (by decide) h (by rw[List.length_append,nums_len,hL];rfl) (by omega)
 unfold Owned at HP
 have b0:=yH ((Below.refl w.heap.size w).alloc (yR _) (.cells #[.int .u64 x0,.int .u64 x1,.int .u64 x2,.slice A n cap] 133))
 have R0:=yH (Blk.new w [.int .u64 x0,.int .u64 x1,.int .u64 x2,.slice A n cap] 133)
 have u0:=R0.out.drew.cell (i:=0) rfl;have u1:=R0.out.drew.cell (i:=1) rfl;have u2:=R0.out.drew.cell (i:=2) rfl;have u3:=R0.out.drew.cell (i:=3) rfl
 generalize nums [x0,x1,x2]=N at*
 generalize padN (24+n)=p at*
 clear hb hL hv
 go_enter Tryz.func184,Tryz.ntmps184
 go_wp2
 go_region_held3 (fun w'=>w'.cell? ⟨w.heap.size,0,none⟩=some (.int .u64 x0)∧w'.cell? ⟨w.heap.size,1,none⟩=some (.int .u64 x1)∧w'.cell? ⟨w.heap.size,2,none⟩=some (.int .u64 x2)∧w'.cell? ⟨w.heap.size,3,none⟩=some (.slice A n cap)) (first|(with_reducible exact⟨u0,u1,u2,u3⟩)|(with_reducible exact⟨q0,q1,q2,q3⟩)|(with_reducible exact⟨s0,s1,s2,s3⟩)|(with_reducible exact⟨t0,t1,t2,t3⟩)|go_keep) (first
  |(refine step_append_bytes (o:=⟨some 13,_,_,_,_,_⟩) rfl (.tmp 10) (.tmp 12) rfl _ _ 24 _ _ rfl HO2.out A n cap l rfl (HB.out.below (b0.out.trans (HB2.out.mono b0.out.size)) (yR _)) HL.out (by omega) ?_;intro A3 c3 w3 ho3 hbel3;have HO3:=yH ho3;have HB3:=yH hbel3;have R3:=yH (R2.out.below hbel3 R0.out.lt);have s0:=R3.out.cell (i:=0) rfl;have s1:=R3.out.cell (i:=1) rfl;have s2:=R3.out.cell (i:=2) rfl;have s3:=R3.out.cell (i:=3) rfl;clear ho3 hbel3)
  |(go_at_call 139;(with_reducible refine(HN.out _ _ (by simp)).mono ?_);rintro e w2 ⟨A2,c2,rfl,ho2,hbel2⟩;have HO2:=yH ho2;have HB2:=yH hbel2;have R2:=yH (R0.out.below hbel2 R0.out.lt);have q0:=R2.out.cell (i:=0) rfl;have q1:=R2.out.cell (i:=1) rfl;have q2:=R2.out.cell (i:=2) rfl;have q3:=R2.out.cell (i:=3) rfl;clear ho2 hbel2)
  |(go_at_call 145;(with_reducible refine(HP.out _ _ _ HO3.out.bytes).mono ?_);rintro e w4 ⟨A4,c4,rfl,ho4,hbel4⟩;have HO4:=yH ho4;have HB4:=yH hbel4;have R4:=yH (R3.out.below hbel4 R3.out.lt);have t0:=R4.out.cell (i:=0) rfl;have t1:=R4.out.cell (i:=1) rfl;have t2:=R4.out.cell (i:=2) rfl;have t3:=R4.out.cell (i:=3) rfl;clear ho4 hbel4))
 go_wp2
 go_ret
 have hb23:=(b0.out.trans (HB2.out.mono b0.out.size)).trans (HB3.out.mono b0.out.size)
 exact⟨A4,c4,rfl,Own.base HO4.out hb23.size,hb23.trans (HB4.out.mono hb23.size)⟩
end Oj
namespace Oh
open Bytes8 Blk8 Own8 OwnE Ob Oc Og
theorem rread_any (A:Option Addr)(l:List Int)(n cap a:Nat)(w:World)(hb:Bytes w A l)(hL:l.length=n)(hn:n≤1000000)(ha:a≤18446744073709551615):
 Calls Tryz.prog 56 #[.slice A n cap,.int .u64 (a:Int)] w (FrTold (kindL l a) (sizeL l a) (code l a) w):=by
 have b0:Below w.heap.size w (w.alloc (.cells #[.int .i64 0,.int .i64 0,.int .u64 0] 114)):=(Below.refl w.heap.size w).alloc (yR _) _
 have HB0:=yH b0
 have HK:Hid (kindL l a=if code l a=0 then l.getD a 0 else 0):=yH rfl
 have HS:Hid (sizeL l a=if code l a=0 then u8 l (a+8)else 0):=yH rfl
 have no: ∀c:Int,c≠0→code l a=c→kindL l a=0∧sizeL l a=0:=fun c h0 h=>⟨HK.out.trans (if_neg (by omega)),HS.out.trans (if_neg (by omega))⟩
 have HA:=yH hb.1
 by_cases h1:a%8≠0
 ·have hcd:code l a=3:=by unfold code;rw[if_pos h1]
  obtain⟨e1,e2⟩:=no 3 (by decide) hcd
  rw[hcd,e1,e2]
  have h1': ¬(a:Int)%8=0:=by omega
  clear hb no HK HS hcd e1 e2 hL h1
  go_enter Tryz.func56,Tryz.ntmps56
  go_wp2
  refine bodyPost_ret (v:= .tuple #[frV 0 0,.int .i64 3]) (by simp[results_cell_tmp Tryz.results56,go_sem,Result.andThen]) rfl ⟨rfl,?_⟩
  (repeat (first|(with_reducible exact HB0.out)|(with_reducible exact Below.refl _ _)|refine Below.setCell ?_ (by simp) _|refine Below.alloc ?_ (by simp) _|refine Below.drew ?_|refine below_drewN ?_ _))
 have h1':(a:Int)%8=0:=by omega
 by_cases h2:n<a+16
 ·have hcd:code l a=2:=by unfold code;rw[if_neg h1,if_pos (by omega)]
  obtain⟨e1,e2⟩:=no 2 (by decide) hcd
  rw[hcd,e1,e2]
  by_cases h3:n<a
  ·have h3':(n:Int)<(a:Int):=by omega
   clear hb no HK HS hcd e1 e2 hL h1
   go_enter Tryz.func56,Tryz.ntmps56
   go_wp2
   refine bodyPost_ret (v:= .tuple #[frV 0 0,.int .i64 2]) (by simp[results_cell_tmp Tryz.results56,go_sem,Result.andThen]) rfl ⟨rfl,?_⟩
   (repeat (first|(with_reducible exact HB0.out)|(with_reducible exact Below.refl _ _)|refine Below.setCell ?_ (by simp) _|refine Below.alloc ?_ (by simp) _|refine Below.drew ?_|refine below_drewN ?_ _))
  ·have h3': ¬(n:Int)<(a:Int):=by omega
   have h3'':(n:Int)-(a:Int)<16:=by omega
   clear hb no HK HS hcd e1 e2 hL h1
   go_enter Tryz.func56,Tryz.ntmps56
   go_wp2
   refine bodyPost_ret (v:= .tuple #[frV 0 0,.int .i64 2]) (by simp[results_cell_tmp Tryz.results56,go_sem,Result.andThen]) rfl ⟨rfl,?_⟩
   (repeat (first|(with_reducible exact HB0.out)|(with_reducible exact Below.refl _ _)|refine Below.setCell ?_ (by simp) _|refine Below.alloc ?_ (by simp) _|refine Below.drew ?_|refine below_drewN ?_ _))
 have HU:=yH fun(z:Int) (W:World) (h:Below w.heap.size w W) (hz:z=((a+8:Nat):Int))=>hz▸ru_any A l n cap (a+8) W (hb.below h (yR _)) hL (by omega) (by omega)
 obtain⟨b,off,rfl,hlt,hcell⟩:=hb.spot (by omega)
 have hk0:=hcell a (by omega)
 have hk1:=hcell (a+1) (by omega)
 obtain⟨ub0,ub1⟩:=u8_bd hb.1 (a+8)
 obtain⟨kb0,kb1⟩:=hb.1.at_ a
 obtain⟨fb0,fb1⟩:=hb.1.at_ (a+1)
 have hcode:code l a=if l.getD a 0<1∨7<l.getD a 0 then 4 else if l.getD (a+1) 0≠0 then 7 else if u8 l (a+8)<16 then 5 else if(n:Int)<a+u8 l (a+8)then 2 else 0:=by
  unfold code
  rw[if_neg h1,if_neg (by omega),hL]
 generalize u8 l (a+8)=s at*
 generalize l.getD a 0=k at*
 generalize l.getD (a+1) 0=f at*
 have h2':a+16≤n:=by omega
 have hn0:(a:Int)<(n:Int):=by omega
 have hn1:(a:Int)+1<(n:Int):=by omega
 have hn3: ¬(n:Int)<(a:Int):=by omega
 have hn4: ¬(n:Int)-(a:Int)<16:=by omega
 clear hb hcell hL h1 h2
 by_cases h3:k<1
 ·have hcd:code l a=4:=by rw[hcode,if_pos (Or.inl h3)]
  obtain⟨e1,e2⟩:=no 4 (by decide) hcd
  rw[hcd,e1,e2]
  clear no HK HS hcd e1 e2 hcode
  go_enter Tryz.func56,Tryz.ntmps56
  go_wp2_with(go_at_call 114;(with_reducible refine(HU.out _ _ HB0.out (by omega)).mono ?_);rintro e w' ⟨rfl,rfl⟩)
  refine bodyPost_ret (v:= .tuple #[frV 0 0,.int .i64 4]) (by simp[results_cell_tmp Tryz.results56,go_sem,Result.andThen]) rfl ⟨rfl,?_⟩
  (repeat (first|(with_reducible exact HB0.out)|(with_reducible exact Below.refl _ _)|refine Below.setCell ?_ (by simp) _|refine Below.alloc ?_ (by simp) _|refine Below.drew ?_|refine below_drewN ?_ _))
 by_cases h3b:7<k
 ·have hcd:code l a=4:=by rw[hcode,if_pos (Or.inr h3b)]
  obtain⟨e1,e2⟩:=no 4 (by decide) hcd
  rw[hcd,e1,e2]
  clear no HK HS hcd e1 e2 hcode
  go_enter Tryz.func56,Tryz.ntmps56
  go_wp2_with(go_at_call 114;(with_reducible refine(HU.out _ _ HB0.out (by omega)).mono ?_);rintro e w' ⟨rfl,rfl⟩)
  refine bodyPost_ret (v:= .tuple #[frV 0 0,.int .i64 4]) (by simp[results_cell_tmp Tryz.results56,go_sem,Result.andThen]) rfl ⟨rfl,?_⟩
  (repeat (first|(with_reducible exact HB0.out)|(with_reducible exact Below.refl _ _)|refine Below.setCell ?_ (by simp) _|refine Below.alloc ?_ (by simp) _|refine Below.drew ?_|refine below_drewN ?_ _))
 have h3c: ¬(k<1∨7<k):=by omega
 by_cases h4:f≠0
 ·have hcd:code l a=7:=by rw[hcode,if_neg h3c,if_pos h4]
  obtain⟨e1,e2⟩:=no 7 (by decide) hcd
  rw[hcd,e1,e2]
  clear h3c
  clear no HK HS hcd e1 e2 hcode
  go_enter Tryz.func56,Tryz.ntmps56
  go_wp2_with(go_at_call 114;(with_reducible refine(HU.out _ _ HB0.out (by omega)).mono ?_);rintro e w' ⟨rfl,rfl⟩)
  refine bodyPost_ret (v:= .tuple #[frV 0 0,.int .i64 7]) (by simp[results_cell_tmp Tryz.results56,go_sem,Result.andThen]) rfl ⟨rfl,?_⟩
  (repeat (first|(with_reducible exact HB0.out)|(with_reducible exact Below.refl _ _)|refine Below.setCell ?_ (by simp) _|refine Below.alloc ?_ (by simp) _|refine Below.drew ?_|refine below_drewN ?_ _))
 by_cases h5:s<16
 ·have hcd:code l a=5:=by rw[hcode,if_neg h3c,if_neg h4,if_pos h5]
  obtain⟨e1,e2⟩:=no 5 (by decide) hcd
  rw[hcd,e1,e2]
  have h4':f=0:=by omega
  subst h4'
  clear h3c h4
  clear no HK HS hcd e1 e2 hcode
  go_enter Tryz.func56,Tryz.ntmps56
  go_wp2_with(go_at_call 114;(with_reducible refine(HU.out _ _ HB0.out (by omega)).mono ?_);rintro e w' ⟨rfl,rfl⟩)
  refine bodyPost_ret (v:= .tuple #[frV 0 0,.int .i64 5]) (by simp[results_cell_tmp Tryz.results56,go_sem,Result.andThen]) rfl ⟨rfl,?_⟩
  (repeat (first|(with_reducible exact HB0.out)|(with_reducible exact Below.refl _ _)|refine Below.setCell ?_ (by simp) _|refine Below.alloc ?_ (by simp) _|refine Below.drew ?_|refine below_drewN ?_ _))
 by_cases h6:(n:Int)<a+s
 ·have hcd:code l a=2:=by rw[hcode,if_neg h3c,if_neg h4,if_neg h5,if_pos h6]
  obtain⟨e1,e2⟩:=no 2 (by decide) hcd
  rw[hcd,e1,e2]
  have h4':f=0:=by omega
  have h6':(n:Int)-(a:Int)<s:=by omega
  subst h4'
  clear h3c h4 h6
  clear no HK HS hcd e1 e2 hcode
  go_enter Tryz.func56,Tryz.ntmps56
  go_wp2_with(go_at_call 114;(with_reducible refine(HU.out _ _ HB0.out (by omega)).mono ?_);rintro e w' ⟨rfl,rfl⟩)
  refine bodyPost_ret (v:= .tuple #[frV 0 0,.int .i64 2]) (by simp[results_cell_tmp Tryz.results56,go_sem,Result.andThen]) rfl ⟨rfl,?_⟩
  (repeat (first|(with_reducible exact HB0.out)|(with_reducible exact Below.refl _ _)|refine Below.setCell ?_ (by simp) _|refine Below.alloc ?_ (by simp) _|refine Below.drew ?_|refine below_drewN ?_ _))
 ·have hcd:code l a=0:=by rw[hcode,if_neg h3c,if_neg h4,if_neg h5,if_neg h6]
  have e1:=HK.out.trans (if_pos hcd)
  have e2:=HS.out.trans (if_pos hcd)
  rw[hcd,e1,e2]
  have h4':f=0:=by omega
  have h6': ¬(n:Int)-(a:Int)<s:=by omega
  have hwk:=yH (show IntKind.i64.wrap k=k from IntWalk.i64_in _ (by omega))
  have hw8:=yH (show IntKind.u64.wrap ((a:Int)+8)=((a+8:Nat):Int)by rw[IntKind.wrap_u64];omega)
  subst h4'
  clear h3c h4 h6 no HK HS hcd e1 e2 hcode
  go_enter Tryz.func56,Tryz.ntmps56
  go_wp2_with(go_at_call 114;(with_reducible refine(HU.out _ _ HB0.out (by omega)).mono ?_);rintro e w' ⟨rfl,rfl⟩)
  go_region_held3 (fun w'=>w'.cell? ⟨b,off+a,none⟩=some (.int .u8 k)) (go_keep) ((go_at_call 114;(with_reducible refine(HU.out _ _ HB0.out.drew hw8.out).mono ?_);rintro e w' ⟨rfl,rfl⟩))
  rw[hwk.out]
  go_wp2
  refine bodyPost_ret (v:= .tuple #[frV k s,.int .i64 0]) (by simp[results_cell_tmp Tryz.results56,go_sem,Result.andThen]) rfl ⟨rfl,?_⟩
  (repeat (first|(with_reducible exact HB0.out)|(with_reducible exact Below.refl _ _)|refine Below.setCell ?_ (by simp) _|refine Below.alloc ?_ (by simp) _|refine Below.drew ?_|refine below_drewN ?_ _))
end Oh
namespace Oi
open Bytes8 Ob
theorem body_there {l:List Int}{a n:Nat}(hL:l.length=n)(h:code l a=0): ∃m:Nat,sizeL l a=((16+m:Nat):Int)∧(bodyL l a).length=m∧a+16+m≤n∧bodyL l a=(l.drop (a+16)).take m∧a%8=0:=by
 have hf:=code_fine h
 have hs:sizeL l a=u8 l (a+8):=by unfold sizeL;rw[if_pos h]
 have hl:=body_len h
 refine⟨(sizeL l a).toNat-16,by omega,by omega,by omega,rfl,hf.1⟩
end Oi
namespace Oi
open Bytes8 Blk8 Own8 OwnE Ob Og
def Bodied (l:List Int)(a:Nat)(k:Int)(c:Nat)(w:World)(e:Ending)(w':World):Prop:=
 ∃B m cb,e= .returned (.tuple #[.slice B m cb,.int .i64 (bcode l a k c)])∧Below w.heap.size w w'∧(bcode l a k c=0→Bytes w' B (bodyL l a)∧(bodyL l a).length=m∧m≤cb∧cb≤maxLen∧8*c<m∧m≤1000000)
theorem bodyOf_any (A:Option Addr)(l:List Int)(n cap a c:Nat)(k:Int)(w:World)(hb:Bytes w A l)(hL:l.length=n)(hn:n≤1000000)(hc:n≤cap)(hcm:cap≤maxLen)(ha:a≤18446744073709551615)(hcc:c≤1000):
 Calls Tryz.prog 81 #[.slice A n cap,.int .u64 (a:Int),.int .i64 k,.int .i64 (c:Int)] w (Bodied l a k c w):=by
 have HR:=yH (read_any A l n cap a w hb hL hn hc hcm ha)
 unfold FrTold at HR
 unfold Bodied
 have hbc:bcode l a k c=if code l a≠0 then code l a else if kindL l a≠k then 4 else if(bodyL l a).length≤8*c then 5 else 0:=rfl
 by_cases h1:code l a≠0
 ·rw[if_pos h1]at hbc
  rw[hbc]
  clear hbc
  generalize code l a=cd at*
  generalize kindL l a=kd at*
  generalize sizeL l a=s at*
  have HX:Hid (cd≠0):=yH h1
  clear hb hL
  go_enter Tryz.func81,Tryz.ntmps81
  go_wp2_with(go_at_call 22;(with_reducible refine HR.out.mono ?_);rintro e w2 ⟨rfl,hbel⟩;have HB:=yH hbel;clear hbel)
  go_ret2
  exact⟨none,0,0,rfl,HB.out.alloc HB.out.size _,fun h=>absurd h HX.out⟩
 have h0:code l a=0:=by omega
 obtain⟨m,hs,hbl,hfit,hbody,_⟩:=body_there hL h0
 rw[if_neg h1,hbl]at hbc
 have hs2:sizeL l a=16+(m:Int):=by omega
 rw[h0,hs2]at HR
 by_cases h2:kindL l a≠k
 ·rw[if_pos h2]at hbc
  rw[hbc]
  generalize kindL l a=kd at*
  clear hb hL hbc hs hs2 hbl hbody h1 h0
  go_enter Tryz.func81,Tryz.ntmps81
  go_wp2_with(go_at_call 22;(with_reducible refine HR.out.mono ?_);rintro e w2 ⟨rfl,hbel⟩;have HB:=yH hbel;clear hbel)
  go_ret2
  exact⟨none,0,0,rfl,HB.out.alloc HB.out.size _,fun h=>absurd h (by decide)⟩
 have h2':kindL l a=k:=by omega
 rw[if_neg h2]at hbc
 rw[h2']at HR
 have hcut:=cutu_lh A n cap (a+16) (a+16+m) ((a:Int)+16) ((a:Int)+(16+(m:Int))) (by omega) (by omega) (by omega) (by omega)
 have HBC:=yH (Bytes.cut hb cap (a+16) m (by omega))
 rw[←hbody]at HBC
 rw[show a+16+m-(a+16)=m by omega]at hcut
 have hcap:m≤cap-(a+16)∧cap-(a+16)≤maxLen:=by omega
 generalize cap-(a+16)=cb at*
 generalize cutA A cap (a+16)=C at*
 have HCap:=yH hcap
 have HBl:=yH hbl
 have ham:a+16+m≤1000000:=by omega
 unfold maxLen at hcm
 clear hb hL hs hs2 hbl hbody h1 h0 h2 h2' hcap
 by_cases h3:m≤8*c
 ·rw[if_pos h3]at hbc
  rw[hbc]
  have h3':(m:Int)≤(c:Int)*8:=by omega
  clear hbc
  go_enter Tryz.func81,Tryz.ntmps81
  go_wp2_with(go_at_call 22;(with_reducible refine HR.out.mono ?_);rintro e w2 ⟨rfl,hbel⟩;have HB:=yH hbel;clear hbel)
  go_ret2
  exact⟨none,0,0,rfl,HB.out.alloc HB.out.size _,fun h=>absurd h (by decide)⟩
 ·rw[if_neg h3]at hbc
  rw[hbc]
  have h3': ¬(m:Int)≤(c:Int)*8:=by omega
  clear hbc
  go_enter Tryz.func81,Tryz.ntmps81
  go_wp2_with(go_at_call 22;(with_reducible refine HR.out.mono ?_);rintro e w2 ⟨rfl,hbel⟩;have HB:=yH hbel;clear hbel)
  go_ret2
  exact⟨C,m,cb,rfl,HB.out.alloc HB.out.size _,fun _=>⟨HBC.out.below (HB.out.alloc HB.out.size _) (yR _),HBl.out,HCap.out.1,HCap.out.2,by omega,by omega⟩⟩
theorem bodyOf_at (A:Option Addr)(l:List Int)(n cap a c:Nat)(k z:Int)(w:World)(hb:Bytes w A l)(hL:l.length=n)(hn:n≤1000000)(hc:n≤cap)(hcm:cap≤maxLen)(ha:a≤18446744073709551615)(hcc:c≤1000)(hz:z=(c:Int)):
 Calls Tryz.prog 81 #[.slice A n cap,.int .u64 (a:Int),.int .i64 k,.int .i64 z] w (Bodied l a k c w):=by
 subst hz;exact bodyOf_any A l n cap a c k w hb hL hn hc hcm ha hcc
end Oi
namespace Oj
end Oj
namespace Ga
open Bytes8 Blk8 Own8 LeNum Ob
structure HD where
 cp:Int
 ic:Int
 st:Int
 I:Nat→Int
 N:Nat→Int
 ta:Int
 ti:Int
 te:Int
def HD.at_ (h:HD)(m i:Nat):Value:=
 if i<3 then(if i=0 then .int .u32 h.cp else if i=1 then .int .u32 h.ic else .int .i64 h.st)
 else if i<67 then .int .u8 (h.I (i-3))
 else if i<67+m then .int .u64 (h.N (i-67))
 else if i=67+m then .int .u32 h.ta
 else if i=68+m then .int .u32 h.ti
 else .int .u64 h.te
def HD.cells (h:HD)(m:Nat):List Value:=(List.range (70+m)).map (h.at_ m)
theorem HD.len (h:HD)(m:Nat):(h.cells m).length=70+m:=by simp[HD.cells]
theorem HD.get (h:HD)(m i:Nat)(hi:i<70+m):(h.cells m)[i]? =some (h.at_ m i):=by simp[HD.cells,hi]
theorem HD.get_I (h:HD)(m i:Nat)(hi:i<64):(h.cells m)[3+i]? =some (.int .u8 (h.I i)):=by
 rw[h.get m _ (by omega)]
 unfold HD.at_
 rw[if_neg (by omega),if_pos (by omega),show 3+i-3=i by omega]
theorem HD.get_N (h:HD)(m i:Nat)(hi:i<m):(h.cells m)[67+i]? =some (.int .u64 (h.N i)):=by
 rw[h.get m _ (by omega)]
 unfold HD.at_
 rw[if_neg (by omega),if_neg (by omega),if_pos (by omega),show 67+i-67=i by omega]
theorem HD.get_ta (h:HD)(m:Nat):(h.cells m)[67+m]? =some (.int .u32 h.ta):=by
 rw[h.get m _ (by omega)]
 unfold HD.at_
 rw[if_neg (by omega),if_neg (by omega),if_neg (by omega),if_pos rfl]
theorem HD.get_ti (h:HD)(m:Nat):(h.cells m)[68+m]? =some (.int .u32 h.ti):=by
 rw[h.get m _ (by omega)]
 unfold HD.at_
 rw[if_neg (by omega),if_neg (by omega),if_neg (by omega),if_neg (by omega),if_pos rfl]
theorem HD.get_te (h:HD)(m:Nat):(h.cells m)[69+m]? =some (.int .u64 h.te):=by
 rw[h.get m _ (by omega)]
 unfold HD.at_
 rw[if_neg (by omega),if_neg (by omega),if_neg (by omega),if_neg (by omega),if_neg (by omega)]
theorem HD.one (h:HD)(m:Nat):(h.cells m).toArray.all (·.oneCell')=true:=by
 rw[Array.all_eq_true_iff_forall_mem]
 intro x hx
 simp only[HD.cells,List.mem_toArray,List.mem_map,List.mem_range]at hx
 obtain⟨i,_,rfl⟩:=hx
 unfold HD.at_
 repeat' split
 all_goals rfl
structure HD.Ok (h:HD)(m:Nat):Prop where
 cp:0≤h.cp∧h.cp≤4294967295
 ic:0≤h.ic∧h.ic≤4294967295
 st: -9223372036854775808≤h.st∧h.st≤9223372036854775807
 I: ∀i,0≤h.I i∧h.I i<256
 N: ∀i,0≤h.N i∧h.N i≤18446744073709551615
 ta:0≤h.ta∧h.ta≤4294967295
 ti:0≤h.ti∧h.ti≤4294967295
 te:0≤h.te∧h.te≤18446744073709551615
def HD.id (h:HD)(k:Nat):List Int:=(List.range 16).map fun i=>h.I (16*k+i)
def HD.ids (h:HD)(k:Nat):List Int:=(List.range (16*k)).map h.I
def HD.nums (h:HD)(k:Nat):List Int:=(List.range k).map h.N
theorem HD.ids_succ (h:HD)(k:Nat):h.ids (k+1)=h.ids k++h.id k:=by
 unfold HD.ids HD.id
 rw[show 16*(k+1)=16*k+16 by omega,List.range_add,List.map_append,List.map_map]
 rfl
theorem HD.ids_len (h:HD)(k:Nat):(h.ids k).length=16*k:=by simp[HD.ids]
theorem HD.id_len (h:HD)(k:Nat):(h.id k).length=16:=by simp[HD.id]
theorem HD.nums_len (h:HD)(k:Nat):(h.nums k).length=k:=by simp[HD.nums]
theorem HD.id_all {h:HD}{m:Nat}(ok:h.Ok m)(k:Nat):AllB (h.id k):=fun n hn=>by
 simp only[HD.id,List.mem_map,List.mem_range]at hn
 obtain⟨i,_,rfl⟩:=hn
 exact ok.I _
theorem HD.id_at {w:World}{g:Nat}{T:TypeId}{h:HD}{m:Nat}(hb:Blk w g (h.cells m) T)(ok:h.Ok m)(k:Nat)(hk:k<4):Bytes w (some ⟨g,3+16*k,none⟩) (h.id k):=by
 refine⟨HD.id_all ok k,fun i hi=>⟨g,3+16*k,rfl,hb.lt,?_⟩⟩
 rw[HD.id_len]at hi
 rw[Nat.add_assoc]
 rw[hb.cell (h.get_I m (16*k+i) (by omega))]
 unfold HD.id
 simp[hi]
theorem HD.nums_at {w:World}{g:Nat}{T:TypeId}{h:HD}{m:Nat}(hb:Blk w g (h.cells m) T)(i:Nat)(hi:i<m):w.cell? ⟨g,67+i,none⟩=some (.int .u64 (h.N i)):=hb.cell (h.get_N m i hi)
def magicL:List Int:=[76,80,75,83,72,72,82,72]
def HD.front (h:HD):List Int:=magicL++lowB h.cp 4++lowB h.ic 4++lowB (h.st%256) 8
def HD.bytes (h:HD)(m:Nat):List Int:=h.front++h.ids 4++Ob.nums (h.nums m)++lowB h.ta 4++lowB h.ti 4++lowB h.te 8
theorem HD.front_len (h:HD):h.front.length=24:=by unfold HD.front;simp[lowB_len,magicL]
theorem HD.bytes_len (h:HD)(m:Nat):(h.bytes m).length=104+8*m:=by
 unfold HD.bytes
 simp only[List.length_append,HD.front_len,HD.ids_len,Ob.nums_len,HD.nums_len,lowB_len]
 omega
theorem magic_all:AllB magicL:=fun x hx=>by simp[magicL]at hx;omega
end Ga
namespace Gb
open Ob Ga
theorem wpList_build_as {P:Program}{ops:Array Oper}{rest:List Oper}{o:Oper}{a:Act}{w:World}{Q:Exit→Act→World→Prop}(hg:o.guard=none)(t:TypeId)(parts:Array (Nat×Operand))(ho:o.op= .build t parts)(cells:Array Value)
 (hb:P.built t (parts.map fun(i,x)=>(i,a.eval x)).toList=some cells)(h:wpList P ops Q rest (a.put o.dst (.agg cells)) w):wpList P ops Q (o::rest) a w:=
 wpList_build hg t parts ho (by rw[hb];rfl) (by rw[hb];exact h)
theorem at_slot (n:Nat){P:Program}{ops:Array Oper}{Q:Exit→Act→World→Prop}{rest:List Oper}{a:Act}{w:World}{op:Op}{ty:TypeId}{pos:String}{af:Array Edge}{gd:Option (Nat×Bool)}
 (h:wpList P ops Q (⟨some n,op,ty,pos,af,gd⟩::rest) a w):wpList P ops Q (⟨some n,op,ty,pos,af,gd⟩::rest) a w:=h
theorem at_store (x y:Operand){P:Program}{ops:Array Oper}{Q:Exit→Act→World→Prop}{rest:List Oper}{a:Act}{w:World}{t ty:TypeId}{pos:String}{af:Array Edge}{gd:Option (Nat×Bool)}
 (h:wpList P ops Q (⟨none,.store t x y,ty,pos,af,gd⟩::rest) a w):wpList P ops Q (⟨none,.store t x y,ty,pos,af,gd⟩::rest) a w:=h
theorem headInfo:(Tryz.prog.info? 39).map (·.size)=some 91:=by kernel_rfl
theorem rheadInfo:(Tryz.prog.info? 119).map (·.size)=some 90:=by kernel_rfl
theorem idInfo:(Tryz.prog.info? 37).map (·.size)=some 16:=by kernel_rfl
def HD.plus (h:HD)(d:Int):HD:={h with N:=fun i=>if i<20 then h.N i else d}
def idc (h:HD)(k:Nat):List Value:=(h.id k).map (Value.int .u8)
theorem cells_info (h:HD):(Tryz.prog.info? 39).map (·.size)=some (h.cells 21).toArray.size:=by rw[headInfo];simp[HD.len]
theorem zeros_size {h:HD}:Tryz.zeroCells39.size=(h.cells 21).toArray.size:=by rw[show Tryz.zeroCells39.size=91 by kernel_rfl];simp[HD.len]
attribute [local irreducible] idc HD.cells wpList Code.wp
end Gb
namespace Ma
open Bytes8 LeNum Ga
def put8 (b:List Int)(a:Nat)(v:Int):List Int:=over b a (lowB v 8)
theorem put8_len (b:List Int)(a:Nat)(v:Int)(h:a+8≤b.length):(put8 b a v).length=b.length:=over_len _ _ _ (by rw[lowB_len];exact h)
structure Kn where
 text:List Int
 at_:Nat
 slot:Nat
 count:Nat
 arrays:List Nat
structure Cf where
 F:Nat→Int
 M:Nat→Int
 S:Nat→Int
 ds:Nat
 fs:Nat
 most:Nat
 keyed:Bool
structure Mk where
 C:Cf
 h:HD
 depth:Nat
 b:List Int
 datas:List Kn
 fields:List Kn
 main:List Nat
def setN (h:HD)(i:Nat)(v:Int):HD:={h with N:=fun j=>if j=i then v else h.N j}
def Mk.object (m:Mk)(l:List Int):Mk:={m with b:=m.b++l,h:=setN (setN m.h 6 m.b.length) 7 (m.h.N 7+1)}
def inSlot (l:List Kn)(slot:Nat):Nat:=(l.filter fun k=>k.slot==slot).length
def lastIn (l:List Kn)(slot:Nat):Nat:=((l.filter fun k=>k.slot==slot).getLast?.map Kn.at_).getD 0
def hung (b:List Int)(l:List Kn)(table a slot:Nat):List Int:=
 put8 (if inSlot l slot=0 then put8 b (table+16*slot) a else put8 b (lastIn l slot+24) a) (table+16*slot+8) a
def roomN (k:Nat):Nat:=if k>6 then 256 else min (4*2^k) 256
def rooms (k:Nat):Nat:=((List.range k).map roomN).foldl (· + ·) 0
theorem rooms_succ (k:Nat):rooms (k+1)=rooms k+roomN k:=by simp[rooms,List.range_succ]
theorem inSlot_snoc (l:List Kn)(k:Kn)(slot:Nat):inSlot (l++ [k]) slot=inSlot l slot+if k.slot=slot then 1 else 0:=by
 unfold inSlot
 rw[List.filter_append,List.length_append]
 by_cases h:k.slot=slot
 ·simp[h]
 ·simp[h]
theorem lastIn_snoc (l:List Kn)(k:Kn)(slot:Nat):lastIn (l++ [k]) slot=if k.slot=slot then k.at_ else lastIn l slot:=by
 unfold lastIn
 rw[List.filter_append]
 by_cases h:k.slot=slot
 ·simp[h]
 ·simp[h]
theorem take_snoc_kn (l:List Kn)(i:Nat)(h:i<l.length):l.take (i+1)=l.take i++ [l[i]]:=by rw[List.take_succ_eq_append_getElem h]
end Ma
end Go.Proofs.YtiddkgcafpaekaaGreat
