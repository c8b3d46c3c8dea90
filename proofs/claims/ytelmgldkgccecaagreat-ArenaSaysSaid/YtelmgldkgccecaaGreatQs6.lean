/-
  Texts beneath the proof.
-/
import Derived.Deep.RegionHeld3
import Derived.IntWalk
import Derived.Deep.MidRow
import Derived.Deep.CutBlock
import Derived.Laws.ResultCell
import Derived.Deep.CutRange
import Derived.Test.YtelmgldkgccecaaGreatQs3
import Derived.Test.YtelmgldkgccecaaGreatQs5
import Derived.Test.YtelmgldkgccecaaGreatQs4
import Derived.Test.YtelmgldkgccecaaGreatQs1
set_option linter.unusedVariables false
set_option linter.unusedSimpArgs false
set_option maxRecDepth 100000
set_option maxHeartbeats 4000000
open Go.ChangeShapes Go.WideShapes Go.ChangeAt Go.RowKit
namespace Go.Proofs.YtelmgldkgccecaaGreat
namespace Oh
open Bytes8 Blk8 Own8 OwnE Ob Oc Og
theorem rread_any (A:Option Addr)(l:List Int)(n cap a:Nat)(w:World)(hb:Bytes w A l)(hL:l.length=n)(hn:n≤1000000)(ha:a≤18446744073709551615):
 Calls Tryz.prog 179 #[.slice A n cap,.int .u64 (a:Int)] w (FrTold (kindL l a) (sizeL l a) (code l a) w):=by
 have b0:Below w.heap.size w (w.alloc (.cells #[.int .i64 0,.int .i64 0,.int .u64 0] 265)):=(Below.refl w.heap.size w).alloc (jR _) _
 have HB0:=jH b0
 have HK:Hid (kindL l a=if code l a=0 then l.getD a 0 else 0):=jH rfl
 have HS:Hid (sizeL l a=if code l a=0 then u8 l (a+8)else 0):=jH rfl
 have no: ∀c:Int,c≠0→code l a=c→kindL l a=0∧sizeL l a=0:=fun c h0 h=>⟨HK.out.trans (if_neg (by omega)),HS.out.trans (if_neg (by omega))⟩
 have HA:=jH hb.1
 by_cases h1:a%8≠0
 ·have hcd:code l a=3:=by unfold code;rw[if_pos h1]
  obtain⟨e1,e2⟩:=no 3 (by decide) hcd
  rw[hcd,e1,e2]
  have h1': ¬(a:Int)%8=0:=by omega
  clear hb no HK HS hcd e1 e2 hL h1
  go_enter Tryz.func179,Tryz.ntmps179
  go_wp2
  refine bodyPost_ret (v:= .tuple #[frV 0 0,.int .i64 3]) (by simp[results_cell_tmp Tryz.results179,go_sem,Result.andThen]) rfl ⟨rfl,?_⟩
  (repeat (first|(with_reducible exact HB0.out)|(with_reducible exact Below.refl _ _)|refine Below.setCell ?_ (by simp) _|refine Below.alloc ?_ (by simp) _|refine Below.drew ?_|refine below_drewN ?_ _))
 have h1':(a:Int)%8=0:=by omega
 by_cases h2:n<a+16
 ·have hcd:code l a=2:=by unfold code;rw[if_neg h1,if_pos (by omega)]
  obtain⟨e1,e2⟩:=no 2 (by decide) hcd
  rw[hcd,e1,e2]
  by_cases h3:n<a
  ·have h3':(n:Int)<(a:Int):=by omega
   clear hb no HK HS hcd e1 e2 hL h1
   go_enter Tryz.func179,Tryz.ntmps179
   go_wp2
   refine bodyPost_ret (v:= .tuple #[frV 0 0,.int .i64 2]) (by simp[results_cell_tmp Tryz.results179,go_sem,Result.andThen]) rfl ⟨rfl,?_⟩
   (repeat (first|(with_reducible exact HB0.out)|(with_reducible exact Below.refl _ _)|refine Below.setCell ?_ (by simp) _|refine Below.alloc ?_ (by simp) _|refine Below.drew ?_|refine below_drewN ?_ _))
  ·have h3': ¬(n:Int)<(a:Int):=by omega
   have h3'':(n:Int)-(a:Int)<16:=by omega
   clear hb no HK HS hcd e1 e2 hL h1
   go_enter Tryz.func179,Tryz.ntmps179
   go_wp2
   refine bodyPost_ret (v:= .tuple #[frV 0 0,.int .i64 2]) (by simp[results_cell_tmp Tryz.results179,go_sem,Result.andThen]) rfl ⟨rfl,?_⟩
   (repeat (first|(with_reducible exact HB0.out)|(with_reducible exact Below.refl _ _)|refine Below.setCell ?_ (by simp) _|refine Below.alloc ?_ (by simp) _|refine Below.drew ?_|refine below_drewN ?_ _))
 have HU:=jH fun(z:Int) (W:World) (h:Below w.heap.size w W) (hz:z=((a+8:Nat):Int))=>hz▸ru_any A l n cap (a+8) W (hb.below h (jR _)) hL (by omega) (by omega)
 obtain⟨b,off,rfl,hlt,hcell⟩:=hb.spot (by omega)
 have hk0:=hcell a (by omega)
 have hk1:=hcell (a+1) (by omega)
 obtain⟨ub0,ub1⟩:=u8_bd hb.1 (a+8)
 obtain⟨kb0,kb1⟩:=hb.1.at_ a
 obtain⟨fb0,fb1⟩:=hb.1.at_ (a+1)
 have hcode:code l a=if l.getD a 0<1∨7<l.getD a 0 then 4 else if l.getD (a+1) 0≠0 then 7 else if u8 l (a+8)<16 then 5 else if(n:Int)<a+u8 l (a+8)then 2 else 0:=by
  unfold code
  rw[if_neg h1,if_neg (by omega),hL]
 generalize u8 l (a+8)=s at*
 generalize l.getD a 0=k at*
 generalize l.getD (a+1) 0=f at*
 have h2':a+16≤n:=by omega
 have hn0:(a:Int)<(n:Int):=by omega
 have hn1:(a:Int)+1<(n:Int):=by omega
 have hn3: ¬(n:Int)<(a:Int):=by omega
 have hn4: ¬(n:Int)-(a:Int)<16:=by omega
 clear hb hcell hL h1 h2
 by_cases h3:k<1
 ·have hcd:code l a=4:=by rw[hcode,if_pos (Or.inl h3)]
  obtain⟨e1,e2⟩:=no 4 (by decide) hcd
  rw[hcd,e1,e2]
  clear no HK HS hcd e1 e2 hcode
  go_enter Tryz.func179,Tryz.ntmps179
  go_wp2_with(go_at_call 119;(with_reducible refine(HU.out _ _ HB0.out (by omega)).mono ?_);rintro e w' ⟨rfl,rfl⟩)
  refine bodyPost_ret (v:= .tuple #[frV 0 0,.int .i64 4]) (by simp[results_cell_tmp Tryz.results179,go_sem,Result.andThen]) rfl ⟨rfl,?_⟩
  (repeat (first|(with_reducible exact HB0.out)|(with_reducible exact Below.refl _ _)|refine Below.setCell ?_ (by simp) _|refine Below.alloc ?_ (by simp) _|refine Below.drew ?_|refine below_drewN ?_ _))
 by_cases h3b:7<k
 ·have hcd:code l a=4:=by rw[hcode,if_pos (Or.inr h3b)]
  obtain⟨e1,e2⟩:=no 4 (by decide) hcd
  rw[hcd,e1,e2]
  clear no HK HS hcd e1 e2 hcode
  go_enter Tryz.func179,Tryz.ntmps179
  go_wp2_with(go_at_call 119;(with_reducible refine(HU.out _ _ HB0.out (by omega)).mono ?_);rintro e w' ⟨rfl,rfl⟩)
  refine bodyPost_ret (v:= .tuple #[frV 0 0,.int .i64 4]) (by simp[results_cell_tmp Tryz.results179,go_sem,Result.andThen]) rfl ⟨rfl,?_⟩
  (repeat (first|(with_reducible exact HB0.out)|(with_reducible exact Below.refl _ _)|refine Below.setCell ?_ (by simp) _|refine Below.alloc ?_ (by simp) _|refine Below.drew ?_|refine below_drewN ?_ _))
 have h3c: ¬(k<1∨7<k):=by omega
 by_cases h4:f≠0
 ·have hcd:code l a=7:=by rw[hcode,if_neg h3c,if_pos h4]
  obtain⟨e1,e2⟩:=no 7 (by decide) hcd
  rw[hcd,e1,e2]
  clear h3c
  clear no HK HS hcd e1 e2 hcode
  go_enter Tryz.func179,Tryz.ntmps179
  go_wp2_with(go_at_call 119;(with_reducible refine(HU.out _ _ HB0.out (by omega)).mono ?_);rintro e w' ⟨rfl,rfl⟩)
  refine bodyPost_ret (v:= .tuple #[frV 0 0,.int .i64 7]) (by simp[results_cell_tmp Tryz.results179,go_sem,Result.andThen]) rfl ⟨rfl,?_⟩
  (repeat (first|(with_reducible exact HB0.out)|(with_reducible exact Below.refl _ _)|refine Below.setCell ?_ (by simp) _|refine Below.alloc ?_ (by simp) _|refine Below.drew ?_|refine below_drewN ?_ _))
 by_cases h5:s<16
 ·have hcd:code l a=5:=by rw[hcode,if_neg h3c,if_neg h4,if_pos h5]
  obtain⟨e1,e2⟩:=no 5 (by decide) hcd
  rw[hcd,e1,e2]
  have h4':f=0:=by omega
  subst h4'
  clear h3c h4
  clear no HK HS hcd e1 e2 hcode
  go_enter Tryz.func179,Tryz.ntmps179
  go_wp2_with(go_at_call 119;(with_reducible refine(HU.out _ _ HB0.out (by omega)).mono ?_);rintro e w' ⟨rfl,rfl⟩)
  refine bodyPost_ret (v:= .tuple #[frV 0 0,.int .i64 5]) (by simp[results_cell_tmp Tryz.results179,go_sem,Result.andThen]) rfl ⟨rfl,?_⟩
  (repeat (first|(with_reducible exact HB0.out)|(with_reducible exact Below.refl _ _)|refine Below.setCell ?_ (by simp) _|refine Below.alloc ?_ (by simp) _|refine Below.drew ?_|refine below_drewN ?_ _))
 by_cases h6:(n:Int)<a+s
 ·have hcd:code l a=2:=by rw[hcode,if_neg h3c,if_neg h4,if_neg h5,if_pos h6]
  obtain⟨e1,e2⟩:=no 2 (by decide) hcd
  rw[hcd,e1,e2]
  have h4':f=0:=by omega
  have h6':(n:Int)-(a:Int)<s:=by omega
  subst h4'
  clear h3c h4 h6
  clear no HK HS hcd e1 e2 hcode
  go_enter Tryz.func179,Tryz.ntmps179
  go_wp2_with(go_at_call 119;(with_reducible refine(HU.out _ _ HB0.out (by omega)).mono ?_);rintro e w' ⟨rfl,rfl⟩)
  refine bodyPost_ret (v:= .tuple #[frV 0 0,.int .i64 2]) (by simp[results_cell_tmp Tryz.results179,go_sem,Result.andThen]) rfl ⟨rfl,?_⟩
  (repeat (first|(with_reducible exact HB0.out)|(with_reducible exact Below.refl _ _)|refine Below.setCell ?_ (by simp) _|refine Below.alloc ?_ (by simp) _|refine Below.drew ?_|refine below_drewN ?_ _))
 ·have hcd:code l a=0:=by rw[hcode,if_neg h3c,if_neg h4,if_neg h5,if_neg h6]
  have e1:=HK.out.trans (if_pos hcd)
  have e2:=HS.out.trans (if_pos hcd)
  rw[hcd,e1,e2]
  have h4':f=0:=by omega
  have h6': ¬(n:Int)-(a:Int)<s:=by omega
  have hwk:=jH (show IntKind.i64.wrap k=k from IntWalk.i64_in _ (by omega))
  have hw8:=jH (show IntKind.u64.wrap ((a:Int)+8)=((a+8:Nat):Int)by rw[IntKind.wrap_u64];omega)
  subst h4'
  clear h3c h4 h6 no HK HS hcd e1 e2 hcode
  go_enter Tryz.func179,Tryz.ntmps179
  go_wp2_with(go_at_call 119;(with_reducible refine(HU.out _ _ HB0.out (by omega)).mono ?_);rintro e w' ⟨rfl,rfl⟩)
  go_region_held3 (fun w'=>w'.cell? ⟨b,off+a,none⟩=some (.int .u8 k)) (go_keep) ((go_at_call 119;(with_reducible refine(HU.out _ _ HB0.out.drew hw8.out).mono ?_);rintro e w' ⟨rfl,rfl⟩))
  rw[hwk.out]
  go_wp2
  refine bodyPost_ret (v:= .tuple #[frV k s,.int .i64 0]) (by simp[results_cell_tmp Tryz.results179,go_sem,Result.andThen]) rfl ⟨rfl,?_⟩
  (repeat (first|(with_reducible exact HB0.out)|(with_reducible exact Below.refl _ _)|refine Below.setCell ?_ (by simp) _|refine Below.alloc ?_ (by simp) _|refine Below.drew ?_|refine below_drewN ?_ _))
end Oh
namespace Oi
open Bytes8 Blk8 Own8 OwnM OwnE Ob Od Og Oh
theorem made_at (w:World)(base g:Nat)(h:base≤w.heap.size)(hg:w.heap.size=g):Own (w.alloc (.cells #[] 5)) base (some ⟨g,0,none⟩) 0 0 []:=hg▸Own.made w base h
theorem body_there {l:List Int}{a n:Nat}(hL:l.length=n)(h:code l a=0): ∃m:Nat,sizeL l a=((16+m:Nat):Int)∧(bodyL l a).length=m∧a+16+m≤n∧bodyL l a=(l.drop (a+16)).take m∧a%8=0:=by
 have hf:=code_fine h
 have hs:sizeL l a=u8 l (a+8):=by unfold sizeL;rw[if_pos h]
 have hl:=body_len h
 refine⟨(sizeL l a).toNat-16,by omega,by omega,by omega,rfl,hf.1⟩
def RBodyNew (l:List Int)(a:Nat)(k:Int)(w:World)(e:Ending)(w':World):Prop:=
 ∃B m cb,e= .returned (.tuple #[.slice B m cb,.int .i64 (if code l a≠0 then code l a else if kindL l a≠k then 4 else 0)])∧Below w.heap.size w w'∧(code l a=0→kindL l a=k→Bytes w' B (bodyL l a)∧(bodyL l a).length=m∧m≤cb∧cb≤maxLen∧m≤1000000∧ ∀x,B=some x→w.heap.size≤x.block∧x.spot=none)
theorem rbody_new (A:Option Addr)(l:List Int)(n cap a:Nat)(k:Int)(w:World)(hb:Bytes w A l)(hL:l.length=n)(hn:n≤1000000)(hc:n≤cap)(hcm:cap≤maxLen)(ha:a≤18446744073709551615):
 Calls Tryz.prog 118 #[.slice A n cap,.int .u64 (a:Int),.int .i64 k] w (RBodyNew l a k w):=by
 have HR:=jH (rread_any A l n cap a w hb hL hn ha)
 unfold FrTold at HR
 unfold RBodyNew
 by_cases h1:code l a≠0
 ·rw[if_pos h1]
  generalize code l a=cd at*
  generalize kindL l a=kd at*
  generalize sizeL l a=s at*
  have HX:Hid (cd≠0):=jH h1
  clear hb hL
  go_enter Tryz.func118,Tryz.ntmps118
  go_wp2_with(go_at_call 179;(with_reducible refine HR.out.mono ?_);rintro e w2 ⟨rfl,hbel⟩;have HB:=jH hbel;clear hbel)
  go_ret2
  exact⟨none,0,0,rfl,HB.out.alloc HB.out.size _,fun h=>absurd h HX.out⟩
 have h0:code l a=0:=by omega
 obtain⟨m,hs,hbl,hfit,hbody,_⟩:=body_there hL h0
 rw[if_neg h1]
 have hs2:sizeL l a=16+(m:Int):=by omega
 rw[h0,hs2]at HR
 by_cases h2:kindL l a≠k
 ·rw[if_pos h2]
  have HX:=jH h2
  generalize kindL l a=kd at*
  clear hb hL hs hs2 hbl hbody h1 h0
  go_enter Tryz.func118,Tryz.ntmps118
  go_wp2_with(go_at_call 179;(with_reducible refine HR.out.mono ?_);rintro e w2 ⟨rfl,hbel⟩;have HB:=jH hbel;clear hbel)
  go_ret2
  exact⟨none,0,0,rfl,HB.out.alloc HB.out.size _,fun _ h=>absurd h HX.out⟩
 have h2':kindL l a=k:=by omega
 rw[if_neg h2]
 rw[h2']at HR
 have hcut:=cutu_lh A n cap (a+16) (a+16+m) ((a:Int)+16) ((a:Int)+(16+(m:Int))) (by omega) (by omega) (by omega) (by omega)
 have HBC:=jH (Bytes.cut hb cap (a+16) m (by omega))
 rw[←hbody]at HBC
 rw[show a+16+m-(a+16)=m by omega]at hcut
 generalize cap-(a+16)=cb at*
 generalize cutA A cap (a+16)=C at*
 have HBl:=jH hbl
 have ham:a+16+m≤1000000:=by omega
 unfold maxLen at hcm
 clear hb hL hs hs2 hbl hbody h1 h0 h2 h2'
 go_enter Tryz.func118,Tryz.ntmps118
 go_wp2_with(first
  |(go_at_call 179;(with_reducible refine HR.out.mono ?_);rintro e w2 ⟨rfl,hbel⟩;have HB:=jH (hbel.alloc hbel.size (.cells #[.int .i64 k,.int .i64 0,.int .u64 (16+(m:Int))] 265));clear hbel)
  |(at_builtin;refine wpList_append_bytes rfl (.tmp 23) (.tmp 31) rfl w.heap.size _ 0 0 [] rfl (made_at _ w.heap.size (w2.heap.size+1) HB.out.size (by simp)) C m cb (bodyL l a) rfl (HBC.out.below (HB.out.alloc HB.out.size _) (jR _)) HBl.out (by omega) ?_;intro A2 c2 w3 ho2 hbel2;rw[Nat.zero_add,List.nil_append]at ho2;rw[Nat.zero_add];have HO2:=jH ho2;have HB2:=jH hbel2;clear ho2 hbel2))
 go_ret2
 refine⟨A2,m,c2,rfl,(HB.out.alloc HB.out.size _).trans HB2.out,fun _ _=>⟨HO2.out.bytes,HBl.out,(own_cap HO2.out).1,(own_cap HO2.out).2,by omega,fun x h=>?_⟩⟩
 subst h
 rcases HO2.out.2.2.2.2 with⟨he,_⟩|⟨g,cap2,cur,he,hg,_⟩
 ·cases he
 ·injection he with e1
  injection e1 with e1
  subst e1
  exact⟨hg,rfl⟩
end Oi
namespace Oi
open Bytes8 Blk8 Own8 OwnE Ob Og
def Bodied (l:List Int)(a:Nat)(k:Int)(c:Nat)(w:World)(e:Ending)(w':World):Prop:=
 ∃B m cb,e= .returned (.tuple #[.slice B m cb,.int .i64 (bcode l a k c)])∧Below w.heap.size w w'∧(bcode l a k c=0→Bytes w' B (bodyL l a)∧(bodyL l a).length=m∧m≤cb∧cb≤maxLen∧8*c<m∧m≤1000000)
theorem bodyOf_any (A:Option Addr)(l:List Int)(n cap a c:Nat)(k:Int)(w:World)(hb:Bytes w A l)(hL:l.length=n)(hn:n≤1000000)(hc:n≤cap)(hcm:cap≤maxLen)(ha:a≤18446744073709551615)(hcc:c≤1000):
 Calls Tryz.prog 165 #[.slice A n cap,.int .u64 (a:Int),.int .i64 k,.int .i64 (c:Int)] w (Bodied l a k c w):=by
 have HR:=jH (read_any A l n cap a w hb hL hn hc hcm ha)
 unfold FrTold at HR
 unfold Bodied
 have hbc:bcode l a k c=if code l a≠0 then code l a else if kindL l a≠k then 4 else if(bodyL l a).length≤8*c then 5 else 0:=rfl
 by_cases h1:code l a≠0
 ·rw[if_pos h1]at hbc
  rw[hbc]
  clear hbc
  generalize code l a=cd at*
  generalize kindL l a=kd at*
  generalize sizeL l a=s at*
  have HX:Hid (cd≠0):=jH h1
  clear hb hL
  go_enter Tryz.func165,Tryz.ntmps165
  go_wp2_with(go_at_call 26;(with_reducible refine HR.out.mono ?_);rintro e w2 ⟨rfl,hbel⟩;have HB:=jH hbel;clear hbel)
  go_ret2
  exact⟨none,0,0,rfl,HB.out.alloc HB.out.size _,fun h=>absurd h HX.out⟩
 have h0:code l a=0:=by omega
 obtain⟨m,hs,hbl,hfit,hbody,_⟩:=body_there hL h0
 rw[if_neg h1,hbl]at hbc
 have hs2:sizeL l a=16+(m:Int):=by omega
 rw[h0,hs2]at HR
 by_cases h2:kindL l a≠k
 ·rw[if_pos h2]at hbc
  rw[hbc]
  generalize kindL l a=kd at*
  clear hb hL hbc hs hs2 hbl hbody h1 h0
  go_enter Tryz.func165,Tryz.ntmps165
  go_wp2_with(go_at_call 26;(with_reducible refine HR.out.mono ?_);rintro e w2 ⟨rfl,hbel⟩;have HB:=jH hbel;clear hbel)
  go_ret2
  exact⟨none,0,0,rfl,HB.out.alloc HB.out.size _,fun h=>absurd h (by decide)⟩
 have h2':kindL l a=k:=by omega
 rw[if_neg h2]at hbc
 rw[h2']at HR
 have hcut:=cutu_lh A n cap (a+16) (a+16+m) ((a:Int)+16) ((a:Int)+(16+(m:Int))) (by omega) (by omega) (by omega) (by omega)
 have HBC:=jH (Bytes.cut hb cap (a+16) m (by omega))
 rw[←hbody]at HBC
 rw[show a+16+m-(a+16)=m by omega]at hcut
 have hcap:m≤cap-(a+16)∧cap-(a+16)≤maxLen:=by omega
 generalize cap-(a+16)=cb at*
 generalize cutA A cap (a+16)=C at*
 have HCap:=jH hcap
 have HBl:=jH hbl
 have ham:a+16+m≤1000000:=by omega
 unfold maxLen at hcm
 clear hb hL hs hs2 hbl hbody h1 h0 h2 h2' hcap
 by_cases h3:m≤8*c
 ·rw[if_pos h3]at hbc
  rw[hbc]
  have h3':(m:Int)≤(c:Int)*8:=by omega
  clear hbc
  go_enter Tryz.func165,Tryz.ntmps165
  go_wp2_with(go_at_call 26;(with_reducible refine HR.out.mono ?_);rintro e w2 ⟨rfl,hbel⟩;have HB:=jH hbel;clear hbel)
  go_ret2
  exact⟨none,0,0,rfl,HB.out.alloc HB.out.size _,fun h=>absurd h (by decide)⟩
 ·rw[if_neg h3]at hbc
  rw[hbc]
  have h3': ¬(m:Int)≤(c:Int)*8:=by omega
  clear hbc
  go_enter Tryz.func165,Tryz.ntmps165
  go_wp2_with(go_at_call 26;(with_reducible refine HR.out.mono ?_);rintro e w2 ⟨rfl,hbel⟩;have HB:=jH hbel;clear hbel)
  go_ret2
  exact⟨C,m,cb,rfl,HB.out.alloc HB.out.size _,fun _=>⟨HBC.out.below (HB.out.alloc HB.out.size _) (jR _),HBl.out,HCap.out.1,HCap.out.2,by omega,by omega⟩⟩
theorem bodyOf_at (A:Option Addr)(l:List Int)(n cap a c:Nat)(k z:Int)(w:World)(hb:Bytes w A l)(hL:l.length=n)(hn:n≤1000000)(hc:n≤cap)(hcm:cap≤maxLen)(ha:a≤18446744073709551615)(hcc:c≤1000)(hz:z=(c:Int)):
 Calls Tryz.prog 165 #[.slice A n cap,.int .u64 (a:Int),.int .i64 k,.int .i64 z] w (Bodied l a k c w):=by
 subst hz;exact bodyOf_any A l n cap a c k w hb hL hn hc hcm ha hcc
end Oi
namespace Oj
end Oj
namespace Ga
open Bytes8 Blk8 Own8 LeNum Ob
structure HD where
 cp:Int
 ic:Int
 st:Int
 I:Nat→Int
 N:Nat→Int
 ta:Int
 ti:Int
 te:Int
def HD.at_ (h:HD)(m i:Nat):Value:=
 if i<3 then(if i=0 then .int .u32 h.cp else if i=1 then .int .u32 h.ic else .int .i64 h.st)
 else if i<67 then .int .u8 (h.I (i-3))
 else if i<67+m then .int .u64 (h.N (i-67))
 else if i=67+m then .int .u32 h.ta
 else if i=68+m then .int .u32 h.ti
 else .int .u64 h.te
def HD.cells (h:HD)(m:Nat):List Value:=(List.range (70+m)).map (h.at_ m)
theorem HD.len (h:HD)(m:Nat):(h.cells m).length=70+m:=by simp[HD.cells]
theorem HD.get (h:HD)(m i:Nat)(hi:i<70+m):(h.cells m)[i]? =some (h.at_ m i):=by simp[HD.cells,hi]
theorem HD.get_I (h:HD)(m i:Nat)(hi:i<64):(h.cells m)[3+i]? =some (.int .u8 (h.I i)):=by
 rw[h.get m _ (by omega)]
 unfold HD.at_
 rw[if_neg (by omega),if_pos (by omega),show 3+i-3=i by omega]
theorem HD.get_N (h:HD)(m i:Nat)(hi:i<m):(h.cells m)[67+i]? =some (.int .u64 (h.N i)):=by
 rw[h.get m _ (by omega)]
 unfold HD.at_
 rw[if_neg (by omega),if_neg (by omega),if_pos (by omega),show 67+i-67=i by omega]
theorem HD.get_ta (h:HD)(m:Nat):(h.cells m)[67+m]? =some (.int .u32 h.ta):=by
 rw[h.get m _ (by omega)]
 unfold HD.at_
 rw[if_neg (by omega),if_neg (by omega),if_neg (by omega),if_pos rfl]
theorem HD.get_ti (h:HD)(m:Nat):(h.cells m)[68+m]? =some (.int .u32 h.ti):=by
 rw[h.get m _ (by omega)]
 unfold HD.at_
 rw[if_neg (by omega),if_neg (by omega),if_neg (by omega),if_neg (by omega),if_pos rfl]
theorem HD.get_te (h:HD)(m:Nat):(h.cells m)[69+m]? =some (.int .u64 h.te):=by
 rw[h.get m _ (by omega)]
 unfold HD.at_
 rw[if_neg (by omega),if_neg (by omega),if_neg (by omega),if_neg (by omega),if_neg (by omega)]
theorem HD.one (h:HD)(m:Nat):(h.cells m).toArray.all (·.oneCell')=true:=by
 rw[Array.all_eq_true_iff_forall_mem]
 intro x hx
 simp only[HD.cells,List.mem_toArray,List.mem_map,List.mem_range]at hx
 obtain⟨i,_,rfl⟩:=hx
 unfold HD.at_
 repeat' split
 all_goals rfl
structure HD.Ok (h:HD)(m:Nat):Prop where
 cp:0≤h.cp∧h.cp≤4294967295
 ic:0≤h.ic∧h.ic≤4294967295
 st: -9223372036854775808≤h.st∧h.st≤9223372036854775807
 I: ∀i,0≤h.I i∧h.I i<256
 N: ∀i,0≤h.N i∧h.N i≤18446744073709551615
 ta:0≤h.ta∧h.ta≤4294967295
 ti:0≤h.ti∧h.ti≤4294967295
 te:0≤h.te∧h.te≤18446744073709551615
def HD.id (h:HD)(k:Nat):List Int:=(List.range 16).map fun i=>h.I (16*k+i)
def HD.ids (h:HD)(k:Nat):List Int:=(List.range (16*k)).map h.I
def HD.nums (h:HD)(k:Nat):List Int:=(List.range k).map h.N
theorem HD.ids_succ (h:HD)(k:Nat):h.ids (k+1)=h.ids k++h.id k:=by
 unfold HD.ids HD.id
 rw[show 16*(k+1)=16*k+16 by omega,List.range_add,List.map_append,List.map_map]
 rfl
theorem HD.ids_len (h:HD)(k:Nat):(h.ids k).length=16*k:=by simp[HD.ids]
theorem HD.id_len (h:HD)(k:Nat):(h.id k).length=16:=by simp[HD.id]
theorem HD.nums_len (h:HD)(k:Nat):(h.nums k).length=k:=by simp[HD.nums]
theorem HD.id_all {h:HD}{m:Nat}(ok:h.Ok m)(k:Nat):AllB (h.id k):=fun n hn=>by
 simp only[HD.id,List.mem_map,List.mem_range]at hn
 obtain⟨i,_,rfl⟩:=hn
 exact ok.I _
theorem HD.id_at {w:World}{g:Nat}{T:TypeId}{h:HD}{m:Nat}(hb:Blk w g (h.cells m) T)(ok:h.Ok m)(k:Nat)(hk:k<4):Bytes w (some ⟨g,3+16*k,none⟩) (h.id k):=by
 refine⟨HD.id_all ok k,fun i hi=>⟨g,3+16*k,rfl,hb.lt,?_⟩⟩
 rw[HD.id_len]at hi
 rw[Nat.add_assoc]
 rw[hb.cell (h.get_I m (16*k+i) (by omega))]
 unfold HD.id
 simp[hi]
theorem HD.nums_at {w:World}{g:Nat}{T:TypeId}{h:HD}{m:Nat}(hb:Blk w g (h.cells m) T)(i:Nat)(hi:i<m):w.cell? ⟨g,67+i,none⟩=some (.int .u64 (h.N i)):=hb.cell (h.get_N m i hi)
def magicL:List Int:=[76,80,75,83,72,72,82,72]
def HD.front (h:HD):List Int:=magicL++lowB h.cp 4++lowB h.ic 4++lowB (h.st%256) 8
def HD.bytes (h:HD)(m:Nat):List Int:=h.front++h.ids 4++Ob.nums (h.nums m)++lowB h.ta 4++lowB h.ti 4++lowB h.te 8
theorem HD.front_len (h:HD):h.front.length=24:=by unfold HD.front;simp[lowB_len,magicL]
theorem HD.bytes_len (h:HD)(m:Nat):(h.bytes m).length=104+8*m:=by
 unfold HD.bytes
 simp only[List.length_append,HD.front_len,HD.ids_len,Ob.nums_len,HD.nums_len,lowB_len]
 omega
theorem magic_all:AllB magicL:=fun x hx=>by simp[magicL]at hx;omega
end Ga
namespace Gb
open Ob Ga
theorem wpList_build_as {P:Program}{ops:Array Oper}{rest:List Oper}{o:Oper}{a:Act}{w:World}{Q:Exit→Act→World→Prop}(hg:o.guard=none)(t:TypeId)(parts:Array (Nat×Operand))(ho:o.op= .build t parts)(cells:Array Value)
 (hb:P.built t (parts.map fun(i,x)=>(i,a.eval x)).toList=some cells)(h:wpList P ops Q rest (a.put o.dst (.agg cells)) w):wpList P ops Q (o::rest) a w:=
 wpList_build hg t parts ho (by rw[hb];rfl) (by rw[hb];exact h)
theorem at_slot (n:Nat){P:Program}{ops:Array Oper}{Q:Exit→Act→World→Prop}{rest:List Oper}{a:Act}{w:World}{op:Op}{ty:TypeId}{pos:String}{af:Array Edge}{gd:Option (Nat×Bool)}
 (h:wpList P ops Q (⟨some n,op,ty,pos,af,gd⟩::rest) a w):wpList P ops Q (⟨some n,op,ty,pos,af,gd⟩::rest) a w:=h
theorem at_store (x y:Operand){P:Program}{ops:Array Oper}{Q:Exit→Act→World→Prop}{rest:List Oper}{a:Act}{w:World}{t ty:TypeId}{pos:String}{af:Array Edge}{gd:Option (Nat×Bool)}
 (h:wpList P ops Q (⟨none,.store t x y,ty,pos,af,gd⟩::rest) a w):wpList P ops Q (⟨none,.store t x y,ty,pos,af,gd⟩::rest) a w:=h
theorem headInfo:(Tryz.prog.info? 59).map (·.size)=some 91:=by kernel_rfl
theorem rheadInfo:(Tryz.prog.info? 114).map (·.size)=some 90:=by kernel_rfl
theorem idInfo:(Tryz.prog.info? 57).map (·.size)=some 16:=by kernel_rfl
def HD.plus (h:HD)(d:Int):HD:={h with N:=fun i=>if i<20 then h.N i else d}
def idc (h:HD)(k:Nat):List Value:=(h.id k).map (Value.int .u8)
theorem cells_info (h:HD):(Tryz.prog.info? 59).map (·.size)=some (h.cells 21).toArray.size:=by rw[headInfo];simp[HD.len]
theorem zeros_size {h:HD}:Tryz.zeroCells59.size=(h.cells 21).toArray.size:=by rw[show Tryz.zeroCells59.size=91 by kernel_rfl];simp[HD.len]
attribute [local irreducible] idc HD.cells wpList Code.wp
end Gb
namespace Ma
open Bytes8 LeNum Ga
def put8 (b:List Int)(a:Nat)(v:Int):List Int:=over b a (lowB v 8)
theorem put8_len (b:List Int)(a:Nat)(v:Int)(h:a+8≤b.length):(put8 b a v).length=b.length:=over_len _ _ _ (by rw[lowB_len];exact h)
structure Kn where
 text:List Int
 at_:Nat
 slot:Nat
 count:Nat
 arrays:List Nat
structure Cf where
 F:Nat→Int
 M:Nat→Int
 S:Nat→Int
 ds:Nat
 fs:Nat
 most:Nat
 keyed:Bool
structure Mk where
 C:Cf
 h:HD
 depth:Nat
 b:List Int
 datas:List Kn
 fields:List Kn
 main:List Nat
def setN (h:HD)(i:Nat)(v:Int):HD:={h with N:=fun j=>if j=i then v else h.N j}
def Mk.object (m:Mk)(l:List Int):Mk:={m with b:=m.b++l,h:=setN (setN m.h 6 m.b.length) 7 (m.h.N 7+1)}
def inSlot (l:List Kn)(slot:Nat):Nat:=(l.filter fun k=>k.slot==slot).length
def lastIn (l:List Kn)(slot:Nat):Nat:=((l.filter fun k=>k.slot==slot).getLast?.map Kn.at_).getD 0
def hung (b:List Int)(l:List Kn)(table a slot:Nat):List Int:=
 put8 (if inSlot l slot=0 then put8 b (table+16*slot) a else put8 b (lastIn l slot+24) a) (table+16*slot+8) a
def roomN (k:Nat):Nat:=if k>6 then 256 else min (4*2^k) 256
def rooms (k:Nat):Nat:=((List.range k).map roomN).foldl (· + ·) 0
theorem rooms_succ (k:Nat):rooms (k+1)=rooms k+roomN k:=by simp[rooms,List.range_succ]
theorem inSlot_snoc (l:List Kn)(k:Kn)(slot:Nat):inSlot (l++ [k]) slot=inSlot l slot+if k.slot=slot then 1 else 0:=by
 unfold inSlot
 rw[List.filter_append,List.length_append]
 by_cases h:k.slot=slot
 ·simp[h]
 ·simp[h]
theorem lastIn_snoc (l:List Kn)(k:Kn)(slot:Nat):lastIn (l++ [k]) slot=if k.slot=slot then k.at_ else lastIn l slot:=by
 unfold lastIn
 rw[List.filter_append]
 by_cases h:k.slot=slot
 ·simp[h]
 ·simp[h]
theorem take_snoc_kn (l:List Kn)(i:Nat)(h:i<l.length):l.take (i+1)=l.take i++ [l[i]]:=by rw[List.take_succ_eq_append_getElem h]
end Ma
namespace Sd
open Bytes8 Blk8 Hm Sa Sm Sc
def QuadAt (w0:World)(g:Nat)(f:Quad)(w:World):Prop:=Blk w g [.int .u64 f.p,.int .u64 f.q,.int .u64 f.r,.int .u64 f.s] 296∧Below w0.heap.size w0 w
theorem quad_step {w0 w:World}{g:Nat}{p q r s:Value}(h:Blk w g [p,q,r,s] 296)(hb:Below w0.heap.size w0 w)(hg:w0.heap.size≤g)(f:Quad):
 QuadAt w0 g f ((((w.setCell ⟨g,0,none⟩ (.int .u64 f.p)).setCell ⟨g,1,none⟩ (.int .u64 f.q)).setCell ⟨g,2,none⟩ (.int .u64 f.r)).setCell ⟨g,3,none⟩ (.int .u64 f.s)):=
 ⟨(((h.set_ 0 _).set_ 1 _).set_ 2 _).set_ 3 _,(((hb.setCell hg _).setCell hg _).setCell hg _).setCell hg _⟩
theorem sipEnd_four (f:Quad)(m:Int)(G:Quad)(hG:quadPlus f m=G):sipEnd f m=bits .xor .u64 (bits .xor .u64 (bits .xor .u64 (rounds ⟨G.p,G.q,bits .xor .u64 G.r 255,G.s⟩ 4).p (rounds ⟨G.p,G.q,bits .xor .u64 G.r 255,G.s⟩ 4).q) (rounds ⟨G.p,G.q,bits .xor .u64 G.r 255,G.s⟩ 4).r) (rounds ⟨G.p,G.q,bits .xor .u64 G.r 255,G.s⟩ 4).s:=by subst hG;rfl
theorem six_of {w:World}{g:Nat}{a b c d e f:Value}{T:TypeId}(h:Blk w g [a,b,c,d,e,f] T):
 w.cell? ⟨g,0,none⟩=some a∧w.cell? ⟨g,1,none⟩=some b∧w.cell? ⟨g,2,none⟩=some c∧w.cell? ⟨g,3,none⟩=some d∧w.cell? ⟨g,4,none⟩=some e∧w.cell? ⟨g,5,none⟩=some f:=
 ⟨h.cell (i:=0) rfl,h.cell (i:=1) rfl,h.cell (i:=2) rfl,h.cell (i:=3) rfl,h.cell (i:=4) rfl,h.cell (i:=5) rfl⟩
theorem four_far {w:World}{g b:Nat}{vs:List Value}{T:TypeId}(h:Blk w g vs T)(hg:g≠b)(p q r s:Value):
 Blk ((((w.setCell ⟨b,0,none⟩ p).setCell ⟨b,1,none⟩ q).setCell ⟨b,2,none⟩ r).setCell ⟨b,3,none⟩ s) g vs T:=
 (((h.far (p:=⟨b,0,none⟩) hg _).far (p:=⟨b,1,none⟩) hg _).far (p:=⟨b,2,none⟩) hg _).far (p:=⟨b,3,none⟩) hg _
theorem zero_blk {w w3:World}(hb3:Below (World.drew (World.alloc w (.cells #[.int .u64 0,.int .u64 0,.int .u64 0,.int .u64 0] 296))).heap.size (World.drew (World.alloc w (.cells #[.int .u64 0,.int .u64 0,.int .u64 0,.int .u64 0] 296))) w3):Blk w3 w.heap.size [.int .u64 0,.int .u64 0,.int .u64 0,.int .u64 0] 296:=(Blk.new_at w _ _ _ rfl).drew.below hb3 (by simp)
theorem zero_below {w w3:World}(hb3:Below (World.drew (World.alloc w (.cells #[.int .u64 0,.int .u64 0,.int .u64 0,.int .u64 0] 296))).heap.size (World.drew (World.alloc w (.cells #[.int .u64 0,.int .u64 0,.int .u64 0,.int .u64 0] 296))) w3):Below w.heap.size w w3:=((Below.refl _ _).alloc (jR _) _).drew.trans (hb3.mono (by simp))
theorem zero_cell {w w3:World}(hb3:Below (World.drew (World.alloc w (.cells #[.int .u64 0,.int .u64 0,.int .u64 0,.int .u64 0] 296))).heap.size (World.drew (World.alloc w (.cells #[.int .u64 0,.int .u64 0,.int .u64 0,.int .u64 0] 296))) w3)(i:Nat)(hi:i<4):w3.cell? ⟨w.heap.size,i,none⟩=some (.int .u64 0):=by
 have hB:Blk w3 w.heap.size [.int .u64 0,.int .u64 0,.int .u64 0,.int .u64 0] 296:=(Blk.new_at w _ _ _ rfl).drew.below hb3 (by simp)
 match i,hi with
 |0,_=>exact hB.cell rfl
 |1,_=>exact hB.cell rfl
 |2,_=>exact hB.cell rfl
 |3,_=>exact hB.cell rfl
theorem zero_frozen {w w3:World}(hb3:Below (World.drew (World.alloc w (.cells #[.int .u64 0,.int .u64 0,.int .u64 0,.int .u64 0] 296))).heap.size (World.drew (World.alloc w (.cells #[.int .u64 0,.int .u64 0,.int .u64 0,.int .u64 0] 296))) w3)(i:Nat):w3.frozen? ⟨w.heap.size,i,none⟩=false:=by
 have hB:Blk w3 w.heap.size [.int .u64 0,.int .u64 0,.int .u64 0,.int .u64 0] 296:=(Blk.new_at w _ _ _ rfl).drew.below hb3 (by simp)
 exact hB.frozen i
set_option maxRecDepth 100000 in
theorem value_any (K:Nat→Int)(g:Nat)(l:List Int)(w:World)(hs:SumAt w g (idL K) l):
 Calls Tryz.prog 187 #[.pointer (some ⟨g,0,none⟩)] w fun e w'=>e= .returned (.int .u64 (sipS (idL K) l))∧Below w.heap.size w w':=by
 obtain⟨hA,hB⟩:=hs
 obtain⟨z,hz⟩: ∃z,(l.length:Int)%256=z:=⟨_,rfl⟩
 obtain⟨M,hM⟩: ∃M,last8 l=M:=⟨_,rfl⟩
 obtain⟨G,hG⟩: ∃G,quadPlus (quadAt (idL K) l (l.length/8)) M=G:=⟨_,rfl⟩
 have hE:=sipEnd_four _ _ _ hG
 have hS:sipS (idL K) l=sipEnd (quadAt (idL K) l (l.length/8)) M:=by unfold sipS;rw[hM]
 have HE:=jH (hS.trans hE)
 rw[last8_left,hz]at hM
 rw[hz]at hB
 have z0:0≤z:=by omega
 have z1:z≤255:=by omega
 have hM2:bits .or .u64 (left8 l) (IntKind.u64.wrap (z*72057594037927936))=M:=by rw[IntKind.wrap_u64,show z*72057594037927936%18446744073709551616=z*72057594037927936 by omega];exact hM
 have hwz:IntKind.u64.wrap z=z:=by rw[IntKind.wrap_u64];omega
 have hp:=fun w=>qplus_q (quadAt (idL K) l (l.length/8)) M w (quadAt_ok _ _ _)
 rw[hG]at hp
 have HP:=jH hp
 clear hp
 have HO:Hid G.ok:=by rw[←hG];exact jH (quadPlus_ok _ _)
 generalize quadAt (idL K) l (l.length/8)=F at*
 generalize left8 l=L at*
 clear hz hG hE hS hA
 have g0:=hB.cell (i:=0) rfl
 have g1:=hB.cell (i:=1) rfl
 have g2:=hB.cell (i:=2) rfl
 have g3:=hB.cell (i:=3) rfl
 have g4:=hB.cell (i:=4) rfl
 have g5:=hB.cell (i:=5) rfl
 have R:=jH hB
 have hgl:=hB.lt
 have hgne:g≠w.heap.size:=by omega
 clear hB
 go_enter Tryz.func187,Tryz.ntmps187
 go_wp2
 go_cut [3]from 4 to 19 (fun f wx=> ∃gq,f= .pointer (some ⟨gq,0,none⟩)∧w.heap.size≤gq∧Hid (QuadAt w gq G wx))
 case first=>
  go_region_held3 (fun w'=>w'.cell? ⟨g,0,none⟩=some (.int .u64 F.p)∧w'.cell? ⟨g,1,none⟩=some (.int .u64 F.q)∧w'.cell? ⟨g,2,none⟩=some (.int .u64 F.r)∧w'.cell? ⟨g,3,none⟩=some (.int .u64 F.s)∧w'.cell? ⟨g,4,none⟩=some (.int .u64 L)∧w'.cell? ⟨g,5,none⟩=some (.int .u8 z)) (first|(with_reducible exact⟨g0,g1,g2,g3,g4,g5⟩)|(with_reducible exact r3)|(with_reducible exact six_of (four_far R3 hgne _ _ _ _))|(with_reducible exact six_of (R3.alloc _))|go_keep)
   (first|(go_at_call 211;(with_reducible refine(HP.out _).mono ?_);rintro e w3 ⟨rfl,hb3⟩;first|((with_reducible replace hb3:Below (World.drew (World.alloc w (.cells #[.int .u64 0,.int .u64 0,.int .u64 0,.int .u64 0] 296))).heap.size (World.drew (World.alloc w (.cells #[.int .u64 0,.int .u64 0,.int .u64 0,.int .u64 0] 296))) w3:=hb3);have hB3:=zero_below hb3;have R3:=R.out.below hB3 hgl;have hg3:=R3.lt;have r3:=six_of R3;have q0:=zero_cell hb3 0 (by decide);have y0:=zero_frozen hb3 0;have q1:=zero_cell hb3 1 (by decide);have y1:=zero_frozen hb3 1;have q2:=zero_cell hb3 2 (by decide);have y2:=zero_frozen hb3 2;have q3:=zero_cell hb3 3 (by decide);have y3:=zero_frozen hb3 3)|(have hB3:=(Below.refl _ w).drew.trans hb3;have R3:=R.out.below hB3 hgl;have hg3:=R3.lt;have r3:=six_of R3)))
  all_goals
   go_wp2_with fail
   go_meet
   case rel=>
    first
     |exact⟨_,rfl,hB3.size,jH ⟨Blk.new_at w3 _ _ _ rfl,hB3.alloc hB3.size _⟩⟩
     |exact⟨_,rfl,jR _,jH (quad_step (zero_blk hb3) hB3 (jR _) G)⟩
 case rest=>
  obtain⟨gq,rfl,hgq,hq⟩:=hcut
  have Q1:=jH hq.out.1
  have Q2:=jH hq.out.2
  have v0:=Q1.out.cell (i:=2) rfl
  have v1:=Q1.out.frozen 2
  clear hM hM2 hwz g0 g1 g2 g3 g4 g5 hgl hgne hq
  have HRn:=jH fun k=>rounds_ok ⟨G.p,G.q,bits .xor .u64 G.r 255,G.s⟩ ⟨HO.out.1,HO.out.2.1,b64 .xor _ _,HO.out.2.2.2⟩ k
  go_wp2
  clear v0 v1
  have Q3:QuadAt w gq ⟨G.p,G.q,bits .xor .u64 G.r 255,G.s⟩ (wc.setCell ⟨gq,2,none⟩ (.int .u64 (bits .xor .u64 G.r 255))):=⟨Q1.out.set_ 2 _,Q2.out.setCell hgq _⟩
  generalize wc.setCell ⟨gq,2,none⟩ (.int .u64 (bits .xor .u64 G.r 255))=w5 at Q3⊢
  have Q3:=jH Q3
  generalize (⟨G.p,G.q,bits .xor .u64 G.r 255,G.s⟩:Quad)=Y at*
  go_loopw [24] (fun i wr=> ∃k:Nat,k≤4∧i= .int .i64 k∧Hid (QuadAt w gq (rounds Y k) wr)) (fun i _=>4-(intOf i).toNat)
  case atStart=>exact⟨0,by omega,rfl,Q3⟩
  case round=>
   obtain⟨k,hk,rfl,hr⟩:=hrel
   have P1:=jH hr.out.1
   have P2:=jH hr.out.2
   have g0:=P1.out.cell (i:=0) rfl
   have g1:=P1.out.cell (i:=1) rfl
   have g2:=P1.out.cell (i:=2) rfl
   have g3:=P1.out.cell (i:=3) rfl
   have hz:=P1.out.lt
   by_cases hlt:k<4
   ·have hd:decide (k<4)=true:=by simpa using hlt
    have HR:=jH fun W=>round_q (rounds Y k) W (HRn.out k)
    have HN:rounds Y (k+1)=round (rounds Y k):=rfl
    have HN:=jH HN
    go_wp2_with(go_at_call 212;(with_reducible refine(HR.out _).mono ?_);rintro e w6 ⟨rfl,hb6⟩;have R6:=jH (P1.out.below hb6 hz);have a0:=R6.out.cell (i:=0) rfl;have a1:=R6.out.cell (i:=1) rfl;have a2:=R6.out.cell (i:=2) rfl;have a3:=R6.out.cell (i:=3) rfl;have b0:=R6.out.frozen 0;have b1:=R6.out.frozen 1;have b2:=R6.out.frozen 2;have b3:=R6.out.frozen 3)
    go_roundw
    case rel=>exact⟨k+1,by omega,by go_num,jH (quad_step R6.out (P2.out.trans (hb6.mono P2.out.size)) hgq (round (rounds Y k)))⟩
    case measure=>simp[intOf];omega
   ·obtain rfl:k=4:=by omega
    have hd:decide (4<4)=false:=rfl
    go_wp2
    go_ret
    exact⟨ret_int HE.out.symm,P2.out⟩
end Sd
namespace Se
open Bytes8 Blk8 Own8 Hm Sc Sd
theorem new_at (K:Nat→Int)(w:World)(n:Nat)(hn:w.heap.size+1=n)(hk:IdOk K):
 Calls Tryz.prog 185 #[idV K] w fun e w'=>e= .returned (.pointer (some ⟨n,0,none⟩))∧SumAt w' n (idL K) []∧Below w.heap.size w w':=by
 subst hn;exact new_any K w hk
theorem bytes_spot {w:World}{A:Option Addr}{l:List Int}(h:Bytes w A l){B:Nat}(hB:w.heap.size≤B):0<l.length→ ∀b off,A=some ⟨b,off,none⟩→b≠B:=by
 intro hp b off e
 obtain⟨b',off',e',hlt,_⟩:=h.spot hp
 rw[e]at e';simp at e';obtain⟨rfl,rfl⟩:=e';omega
set_option maxRecDepth 100000 in
theorem sip_any (K:Nat→Int)(A:Option Addr)(l:List Int)(len cap:Nat)(w:World)(hk:IdOk K)(hb:Bytes w A l)(hL:l.length=len)(hmax:len≤800000):
 Calls Tryz.prog 135 #[idV K,.slice A len cap] w fun e w'=>e= .returned (.int .u64 (sipS (idL K) l))∧Below w.heap.size w w':=by
 have HNew:=jH (new_at K (w.alloc (idC 57 K)) (w.heap.size+1+1) (by simp) hk)
 have HB:=jH hb
 have HL:=jH hL
 have HSp:=jH (bytes_spot hb (B:=w.heap.size+1+1) (by omega))
 clear hb hL
 go_enter Tryz.func135,Tryz.ntmps135
 go_wp2_with(first|(go_at_call 185;(with_reducible refine HNew.out.mono ?_);rintro e w1 ⟨rfl,hs1,hb1⟩;have HS1:=jH hs1;clear hs1;have k1:=((Below.refl w.heap.size w).alloc (jR _) (idC 57 K)).trans (hb1.mono (by simp));have HAdd:=jH (add_any K _ A [] l len cap w1 HS1.out (HB.out.below k1 (jR _)) HL.out (by omega) (by rw[←HL.out];exact HSp.out)))|(go_at_call 186;(with_reducible refine HAdd.out.mono ?_);rintro e w2 ⟨rfl,hs2,hg2⟩;rw[List.nil_append]at hs2;have HV:=jH (value_any K _ l w2 hs2);clear hs2)|(go_at_call 187;(with_reducible refine HV.out.mono ?_);rintro e w3 ⟨rfl,hb3⟩))
 go_ret
 have k2:=k1.grown hg2 k1.size (fun k h=>by injection h with h;omega)
 exact⟨rfl,k2.trans (hb3.mono k2.size)⟩
end Se
namespace Sf
end Sf
namespace Sg
open Bytes8 Blk8 Own8 Se
theorem of_any (t:Bool)(K:Nat→Int)(A:Option Addr)(l:List Int)(len cap:Nat)(w:World)(hk:IdOk K)(hb:Bytes w A l)(hL:l.length=len)(hmax:len≤800000)(hcap:len≤cap)(hcap2:cap≤maxLen):
 Calls Tryz.prog 72 #[.bool t,idV K,.slice A len cap] w fun e w'=>e= .returned (.int .u64 (ofS t (idL K) l))∧Below w.heap.size w w':=by
 have HB:=jH hb
 cases t with
 |true=>
  have HC:=jH (sip_any K A l len cap (w.alloc (idC 57 K)) hk (hb.below ((Below.refl _ _).alloc (jR _) _) (jR _)) hL hmax)
  clear hb
  go_enter Tryz.func72,Tryz.ntmps72
  go_wp2_with(go_at_call 135;(with_reducible refine HC.out.mono ?_);rintro e w1 ⟨rfl,hb1⟩)
  go_ret
  exact⟨rfl,((Below.refl w.heap.size w).alloc (jR _) _).trans (hb1.mono (by simp))⟩
 |false=>
  have HC:=jH (look_all A l len cap (w.alloc (idC 57 K)) (hb.below ((Below.refl _ _).alloc (jR _) _) (jR _)) hL hmax hcap hcap2)
  clear hb hcap2
  go_enter Tryz.func72,Tryz.ntmps72
  go_wp2_with(go_at_call 136;(with_reducible refine HC.out.mono ?_);rintro e w1 ⟨rfl,hb1⟩)
  go_ret
  exact⟨rfl,((Below.refl w.heap.size w).alloc (jR _) _).trans (hb1.mono (by simp))⟩
end Sg
end Go.Proofs.YtelmgldkgccecaaGreat
