/-
  Texts beneath the proof.
-/
import Derived.Lib.SlBytesConst
import Derived.Lib.AppendZerosOnto
import Derived.Test.YtjecmgkmcfkcjaaGreatQd5
set_option linter.unusedVariables false
set_option linter.unusedSimpArgs false
set_option maxRecDepth 100000
set_option maxHeartbeats 1000000
open Go.ChangeShapes Go.WideShapes Go.ChangeAt Go.RowKit
namespace Go.Proofs.YtjecmgkmcfkcjaaGreat
namespace Ya
open Bytes8 Blk8 Own8 OwnE Hm Se Rows2
theorem ans_bd (t:Trio):0≤ans t∧ans t≤18446744073709551615:=b64 _ _ _
theorem lookS_bd (l:List Int):0≤lookS l∧lookS l≤18446744073709551615:=by
 unfold lookS
 split<;>exact ans_bd _
def lookN (l:List Int):Nat:=(lookS l).toNat
theorem lookN_is (l:List Int):lookS l=(lookN l:Int):=by unfold lookN;have:=lookS_bd l;omega
theorem lookN_lt (l:List Int):lookN l<2^64:=by unfold lookN;have:=lookS_bd l;omega
def xr (l:List (List Int)):Nat:=l.foldr (fun p v=>v^^^lookN p) 0
theorem xr_nil:xr []=0:=rfl
theorem xr_cons (p:List Int)(l:List (List Int)):xr (p::l)=xr l^^^lookN p:=rfl
theorem xr_lt (l:List (List Int)):xr l<2^64:=by
 induction l with
 |nil=>decide
 |cons p l ih=>rw[xr_cons];exact Nat.xor_lt_two_pow ih (lookN_lt p)
theorem xr_app (l m:List (List Int)):xr (l++m)=xr l^^^xr m:=by
 induction l with
 |nil=>simp[xr_nil]
 |cons p l ih=>rw[List.cons_append,xr_cons,xr_cons,ih,Nat.xor_assoc,Nat.xor_assoc,Nat.xor_comm (xr m)]
theorem xr_snoc (l:List (List Int))(p:List Int):xr (l++ [p])=xr l^^^lookN p:=by rw[xr_app,xr_cons,xr_nil,Nat.zero_xor]
def rowsL (P:Nat→List Int)(k:Nat):List (List Int):=(List.range k).map P
theorem rowsL_succ (P:Nat→List Int)(k:Nat):rowsL P (k+1)=rowsL P k++ [P k]:=by simp[rowsL,List.range_succ]
theorem xr_step (P:Nat→List Int)(k:Nat):xr (rowsL P (k+1))=xr (rowsL P k)^^^lookN (P k):=by rw[rowsL_succ,xr_snoc]
theorem xr_bits (P:Nat→List Int)(k:Nat):bits .xor .u64 ((xr (rowsL P k):Nat):Int) (lookS (P k))=((xr (rowsL P (k+1)):Nat):Int):=by
 rw[lookN_is,xr_step]
 exact u64_xor_nat _ _ (xr_lt _) (lookN_lt _)
theorem xor_any (a:Option Addr)(n cap:Nat)(A:Nat→Option Addr)(L C:Nat→Nat)(P:Nat→List Int)(w:World)(h:InRows w a n A L C P)(hn:n≤1000000)(hL: ∀r,r<n→L r≤800000):
 Calls Tryz.prog 195 #[.slice a n cap] w fun e w'=>e= .returned (.int .u64 ((xr (rowsL P n):Nat):Int))∧Below w.heap.size w w':=by
 have HR:=Lib.hid h
 clear h
 go_enter Tryz.func195,Tryz.ntmps195
 go_wp2
 go_loopw [3,8] (fun s i wr=> ∃k:Nat,k≤n∧i= .int .i64 (k:Int)∧s= .int .u64 ((xr (rowsL P k):Nat):Int)∧Hid (Below w.heap.size w wr)) (fun _ i _=>n-(intOf i).toNat)
 case atStart=>exact⟨0,Nat.zero_le _,rfl,rfl,Below.refl _ _⟩
 case round=>
  obtain⟨k,hk,rfl,rfl,hbel⟩:=hrel
  by_cases hlt:k<n
  ·obtain⟨b,off,rfl,hb,hc,hby,hl,hcap,hmax⟩:=(HR.out.below hbel.out) k hlt
   have HLk:=hL k hlt
   have HLook:=Lib.hid (look_all (A k) (P k) (L k) (C k) wr hby hl (by omega) hcap hmax)
   have HX:=Lib.hid (xr_bits P k)
   have hz:=hbel.out.size
   clear hby hl hcap hmax
   go_wp2_with(go_at_call 173;(with_reducible refine HLook.out.mono ?_);rintro e w2 ⟨rfl,hb2⟩;have HB2:=Lib.hid hb2;clear hb2)
   go_roundw
   case rel=>
    exact⟨k+1,by omega,by go_num,by rw[HX.out],Lib.hid (hbel.out.trans (HB2.out.mono hz))⟩
   case measure=>simp[intOf];omega
  ·obtain rfl:k=n:=by omega
   go_wp2
   go_ret
   exact⟨rfl,hbel.out⟩
end Ya
namespace Yb
open OwnE
theorem rowElt:Elt 23 195 1 24 (.slice none 0 0):=⟨Tryz.underlying195,by kernel_rfl,rfl,by decide⟩
end Yb
namespace Kf
open Bytes8 Blk8 Own8 OwnA
structure KeptF (F:Nat→Prop)(w w':World):Prop where
 os:w'.os=w.os
 tape:w'.tape=w.tape
 output:w'.output=w.output
 size:w.heap.size≤w'.heap.size
 block: ∀k,k<w.heap.size→ ¬F k→w'.heap[k]? =w.heap[k]?
def None' (k:Nat):Prop:=False
def One (g:Nat)(k:Nat):Prop:=k=g
theorem KeptF.refl (F:Nat→Prop)(w:World):KeptF F w w:=⟨rfl,rfl,rfl,Nat.le_refl _,fun _ _ _=>rfl⟩
theorem KeptF.trans {F G:Nat→Prop}{a b c:World}(h:KeptF F a b)(k:KeptF G b c)(hG: ∀i,i<a.heap.size→G i→F i):KeptF F a c:=
 ⟨k.os.trans h.os,k.tape.trans h.tape,k.output.trans h.output,Nat.le_trans h.size k.size,fun i hi hF=>(k.block i (Nat.lt_of_lt_of_le hi h.size) (fun hg=>hF (hG i hi hg))).trans (h.block i hi hF)⟩
theorem KeptF.mono {F G:Nat→Prop}{w w':World}(h:KeptF F w w')(hG: ∀i,F i→G i):KeptF G w w':=
 ⟨h.os,h.tape,h.output,h.size,fun i hi hg=>h.block i hi (fun hf=>hg (hG i hf))⟩
theorem KeptF.of_below {F:Nat→Prop}{w w':World}(h:Below w.heap.size w w'):KeptF F w w':=⟨h.os,h.tape,h.output,h.size,fun k hk _=>h.block k hk⟩
theorem KeptF.below {F:Nat→Prop}{B:Nat}{w w':World}(h:KeptF F w w')(hB:B≤w.heap.size)(hF: ∀k,F k→B≤k):Below B w w':=
 ⟨h.os,h.tape,h.output,h.size,fun k hk=>h.block k (by omega) (fun hf=>by have:=hF k hf;omega)⟩
theorem KeptF.alloc {F:Nat→Prop}{a w:World}(h:KeptF F a w)(o:Obj):KeptF F a (w.alloc o):=
 h.trans (G:=None') (KeptF.of_below ((Below.refl _ _).alloc (Nat.le_refl _) o)) fun _ _ h=>h.elim
theorem KeptF.drew {F:Nat→Prop}{a w:World}(h:KeptF F a w):KeptF F a w.drew:=⟨h.os,h.tape,h.output,h.size,h.block⟩
theorem KeptF.setCell {F:Nat→Prop}{a w:World}(h:KeptF F a w){p:Addr}(hp:p.block<a.heap.size→F p.block)(u:Value):KeptF F a (w.setCell p u):=
 ⟨h.os,h.tape,h.output,Nat.le_trans h.size (by simp[World.setCell]),fun k hk hF=>(Below.heap_setCell _ _ _ _ (fun e=>hF (by rw[e];exact hp (by omega)))).trans (h.block k hk hF)⟩
theorem KeptF.set1 (w:World)(g i:Nat)(u:Value):KeptF (One g) w (w.setCell ⟨g,i,none⟩ u):=(KeptF.refl (One g) w).setCell (p:=⟨g,i,none⟩) (fun _=>(rfl:g=g)) u
theorem KeptF.grown {F:Nat→Prop}{a w w':World}{row:Option Nat}(h:KeptF F a w)(hg:w.grownBy w' row)(hr: ∀k,row=some k→k<a.heap.size→F k):KeptF F a w':=
 ⟨hg.os.trans h.os,hg.tape.trans h.tape,hg.output.trans h.output,Nat.le_trans h.size hg.size,fun k hk hF=>(hg.block k (Nat.lt_of_lt_of_le hk h.size) (fun e=>hF (hr k e.symm hk))).trans (h.block k hk hF)⟩
theorem KeptF.grow {w w':World}(row:Option Nat)(hg:w.grownBy w' row):KeptF (fun k=>row=some k) w w':=(KeptF.refl _ w).grown hg fun _ h _=>h
theorem Blk.keptF {F:Nat→Prop}{w w':World}{g:Nat}{vs:List Value}{T:TypeId}(h:Blk w g vs T)(hk:KeptF F w w')(hF: ¬F g):Blk w' g vs T:=(hk.block g h.lt hF).trans h
theorem Own.keptF {F:Nat→Prop}{w w':World}{base n c:Nat}{A:Option Addr}{l:List Int}(h:Own w base A n c l)(hk:KeptF F w w')(hF: ∀g,ownB A=some g→ ¬F g):Own w' base A n c l:=by
 refine⟨h.1,h.2.1,Nat.le_trans h.2.2.1 hk.size,h.2.2.2.1,?_⟩
 rcases h.2.2.2.2 with h1|⟨k,cap,cur,h1,h2,h3,h4⟩
 ·exact .inl h1
 ·refine .inr ⟨k,cap,cur,h1,h2,?_,h4⟩
  have hk2:k<w.heap.size:=by
   rcases Nat.lt_or_ge k w.heap.size with h|h
   ·exact h
   ·rw[Array.getElem?_eq_none h]at h3;cases h3
  injection h1 with e1 e2 e3
  subst e1
  rw[hk.block k hk2 (hF k rfl)];exact h3
end Kf
namespace Yc
open Bytes8 Blk8 Own8 OwnE LeNum RefB Ob Od Rows2 Kf
def ints (f:Nat→Int)(k:Nat):List Int:=(List.range k).map f
theorem ints_succ (f:Nat→Int)(k:Nat):ints f (k+1)=ints f k++ [f k]:=by simp[ints,List.range_succ]
theorem ints_len (f:Nat→Int)(k:Nat):(ints f k).length=k:=by simp[ints]
theorem ints_nums (f:Nat→Int)(k:Nat):nums (ints f (k+1))=nums (ints f k)++lowB (f k) 8:=by rw[ints_succ,nums_snoc]
theorem nums_ints_len (f:Nat→Int)(k:Nat):(nums (ints f k)).length=8*k:=by rw[nums_len,ints_len]
theorem rnums_in (Ai:Option Addr)(n cap:Nat)(f:Nat→Int)(w:World)(hi:InInts .u64 w Ai n f)(hmax:n≤100000):
 Calls Tryz.prog 144 #[.slice Ai n cap] w fun e w'=> ∃A c,e= .returned (.slice A (8*n) c)∧Own w' w.heap.size A (8*n) c (nums (ints f n))∧Below w.heap.size w w':=by
 have HI:=Lib.hid hi
 clear hi
 go_enter Tryz.func144,Tryz.ntmps144
 go_wp2
 go_loopw [3,4] (fun s i wr=> ∃(k:Nat) (A:Option Addr) (c:Nat),k≤n∧i= .int .i64 (k:Int)∧s= .slice A (8*k) c∧Hid (Own wr w.heap.size A (8*k) c (nums (ints f k)))∧Hid (Below w.heap.size w wr)) (fun _ i _=>n-(intOf i).toNat)
 case atStart=>exact⟨0,none,0,Nat.zero_le _,rfl,rfl,Own.nil w _ (Nat.le_refl _),Below.refl _ _⟩
 case round=>
  obtain⟨k,A,c,hk,rfl,rfl,ho,hbel⟩:=hrel
  by_cases hlt2:k<n
  ·obtain⟨b,off,rfl,hb,hc,hw⟩:=(HI.out.below hbel.out) k hlt2
   obtain⟨x0,x1⟩:=bounds_u64 hw
   have HN:=Lib.hid (ints_nums f k)
   have hsz:=hbel.out.size
   generalize f k=x at*
   have HLo:=Lib.hid fun(W:World)=>rlow_at x 8 8 W x0 x1 (by decide) rfl
   go_wp2_with(first|(go_at_call 143;(with_reducible refine(HLo.out _).mono ?_);rintro e w2 ⟨A2,c2,rfl,ho2,hbel2⟩;have HO2:=Lib.hid ho2;have HB2:=Lib.hid hbel2;clear ho2 hbel2)|(at_builtin;refine wpList_append_bytes rfl (.tmp 11) (.tmp 16) rfl w.heap.size A (8*k) c (nums (ints f k)) rfl (ho.out.kept HB2.out (Nat.le_refl _)) A2 8 c2 _ rfl HO2.out.bytes (lowB_len _ _) (by omega) ?_;intro A3 c3 w3 ho3 hbel3;have HO3:=Lib.hid ho3;have HB3:=Lib.hid hbel3;clear ho3 hbel3))
   go_roundw
   case rel=>
    refine⟨k+1,A3,c3,by omega,by go_num,rfl,?_,Lib.hid ((hbel.out.trans (HB2.out.mono hsz)).trans HB3.out)⟩
    rw[HN.out]
    exact HO3
   case measure=>simp[intOf];omega
  ·obtain rfl:k=n:=by omega
   go_wp2
   go_ret
   exact⟨A,c,rfl,ho.out,hbel.out⟩
def In2 (w:World)(a:Option Addr)(n:Nat)(f g:Nat→Int):Prop:=
 ∀i,i<n→ ∃b off,a=some ⟨b,off,none⟩∧b<w.heap.size∧w.cell? ⟨b,off+i*2,none⟩=some (.int .u64 (f i))∧w.cell? ⟨b,off+i*2+1,none⟩=some (.int .u64 (g i))∧(0≤f i∧f i≤18446744073709551615)∧(0≤g i∧g i≤18446744073709551615)
theorem In2.keep {w w':World}{a:Option Addr}{n:Nat}{f g:Nat→Int}(h:In2 w a n f g)(hb:Below w.heap.size w w'):In2 w' a n f g:=fun i hi=>by
 obtain⟨b,off,e,h1,h2,h3,h4⟩:=h i hi
 exact⟨b,off,e,Nat.lt_of_lt_of_le h1 hb.size,(hb.cell (p:=⟨b,off+i*2,none⟩) h1).trans h2,(hb.cell (p:=⟨b,off+i*2+1,none⟩) h1).trans h3,h4⟩
def prs (f g:Nat→Int)(k:Nat):List Int:=(List.range k).flatMap fun i=>[f i,g i]
theorem prs_zero (f g:Nat→Int):prs f g 0=[]:=rfl
theorem prs_succ (f g:Nat→Int)(k:Nat):prs f g (k+1)=prs f g k++ [f k,g k]:=by simp[prs,List.range_succ,List.flatMap_append]
theorem prs_len (f g:Nat→Int)(k:Nat):(prs f g k).length=2*k:=by
 induction k with
 |zero=>rfl
 |succ k ih=>rw[prs_succ,List.length_append,ih];simp;omega
theorem nums_prs (f g:Nat→Int)(k:Nat):nums (prs f g (k+1))=nums (prs f g k)++nums [f k,g k]:=by rw[prs_succ,nums_app]
theorem nums_prs_len (f g:Nat→Int)(k:Nat):(nums (prs f g k)).length=16*k:=by rw[nums_len,prs_len];omega
end Yc
namespace Yp
open Bytes8 Blk8 Ob
def ecode (l:List Int)(a:Nat)(k:Int)(ah ea:Nat):Int:=
 if code l a≠0 then code l a else if kindL l a≠k then 4 else if(bodyL l a).length<ah+ea∨(bodyL l a).length%ea≠0 then 5 else 0
def risB (f:Nat→Int):Nat→Bool
 |0=>true
 |1=>true
 |n+2=>risB f (n+1)&&decide (f n<f (n+1))
theorem risB_succ (f:Nat→Int)(n:Nat)(h:0<n):risB f (n+1)=(risB f n&&decide (f (n-1)<f n)):=by
 cases n with
 |zero=>omega
 |succ n=>rfl
theorem risB_mono {f:Nat→Int}{n m:Nat}(h:risB f n=true)(hm:m≤n):risB f m=true:=by
 induction n with
 |zero=>obtain rfl:m=0:=by omega
        exact h
 |succ n ih=>
  rcases Nat.lt_or_ge m (n+1)with h1|h1
  ·refine ih ?_ (by omega)
   cases n with
   |zero=>rfl
   |succ n=>rw[risB]at h;exact(Bool.and_eq_true_iff.1 h).1
  ·obtain rfl:m=n+1:=by omega
   exact h
def itA (bd:List Int)(i:Nat):Int:=u8 bd (48+16*i)
def itH (bd:List Int)(i:Nat):Int:=u8 bd (48+16*i+8)
def itN (bd:List Int):Nat:=(bd.length-48)/16
def itK (bd:List Int)(i:Nat):Int:=if i<16 then bd.getD (24+i) 0 else 0
def entC0 (l:List Int)(a:Nat):Int:=
 if ecode l a 3 48 16≠0 then ecode l a 3 48 16 else if u8 (bodyL l a) 0=0 then 13 else if risB (itA (bodyL l a)) (itN (bodyL l a))then 0 else 11
theorem itK_ok {bd:List Int}(h:AllB bd):IdOk (itK bd):=fun i=>by
 unfold itK
 split
 ·have:=h.at_ (24+i)
  omega
 ·omega
theorem itK_L (bd:List Int)(h:40≤bd.length):idL (itK bd)=(bd.drop 24).take 16:=by
 apply List.ext_getElem
 ·simp[idL];omega
 ·intro i h1 h2
  have h16:i<16:=h1
  rw[List.getElem_take,List.getElem_drop]
  have e:itK bd i=bd[24+i]'(by omega):=by
   unfold itK
   rw[if_pos h16,List.getD_eq_getElem?_getD,List.getElem?_eq_getElem (by omega)];rfl
  rw[←e]
  unfold idL
  rcases i with _|_|_|_|_|_|_|_|_|_|_|_|_|_|_|_|i
  all_goals first|rfl|omega
theorem ecode_there {l:List Int}{a n:Nat}{k:Int}{ah ea:Nat}(hL:l.length=n)(h:ecode l a k ah ea=0):code l a=0∧kindL l a=k∧ah+ea≤(bodyL l a).length∧(bodyL l a).length%ea=0∧(bodyL l a).length≤n:=by
 unfold ecode at h
 have h0:code l a=0:=by
  by_cases h0:code l a=0
  ·exact h0
  ·rw[if_pos h0]at h;exact h
 rw[if_neg (by omega)]at h
 have hk:kindL l a=k:=by
  by_cases hk:kindL l a=k
  ·exact hk
  ·rw[if_pos hk]at h;omega
 rw[if_neg (by omega)]at h
 split at h
 ·omega
 ·refine⟨h0,hk,by omega,by omega,?_⟩
  unfold bodyL
  simp
  omega
theorem body_all {l:List Int}{a:Nat}(h:AllB l):AllB (bodyL l a):=(h.drop _).take _
def arN (bd:List Int):Nat:=(bd.length-8)/8
def arF (bd:List Int)(i:Nat):Int:=u8 bd (8+8*i)
def taA (bd:List Int)(i:Nat):Int:=u8 bd (16*i)
def taB (bd:List Int)(i:Nat):Int:=u8 bd (16*i+8)
end Yp
namespace Sfa
end Sfa
namespace Sfb
end Sfb
namespace Sfc
end Sfc
namespace Sra
end Sra
namespace Sfd
end Sfd
namespace Srq
end Srq
namespace Srq
open Bytes8 Blk8 Rows2 Do8
theorem same_ints (a b:Option Addr)(f:Nat→Int)(n c d:Nat)(w:World)(ha:InInts .i64 w a n f)(hb:InInts .i64 w b n f)(hn:n≤1000000):
 Calls Tryz.prog 46 #[.slice a n c,.slice b n d] w fun e w'=>e= .returned (.bool true)∧ ∃q,w'=w.drewN q:=by
 have HA:=Lib.hid ha
 have HB:=Lib.hid hb
 clear ha hb
 go_enter Tryz.func46,Tryz.ntmps46
 go_wp2
 go_loopw [5] (fun i W=> ∃k q:Nat,k≤n∧i= .int .i64 (k:Int)∧W=w.drewN q) (fun i _=>n-(intOf i).toNat)
 case atStart=>exact⟨0,0,Nat.zero_le _,rfl,rfl⟩
 case round=>
  obtain⟨k,q,hk,rfl,rfl⟩:=hrel
  rcases Nat.lt_or_ge k n with hlt|hge
  ·have hin:(k:Int)<(n:Int):=by omega
   obtain⟨b1,o1,rfl,_,hc1,_⟩:=HA.out k hlt
   obtain⟨b2,o2,rfl,_,hc2,_⟩:=HB.out k hlt
   have d1:(w.drewN q).cell? ⟨b1,o1+k,none⟩=some (.int .i64 (f k)):=hc1
   have d2:(w.drewN q).cell? ⟨b2,o2+k,none⟩=some (.int .i64 (f k)):=hc2
   generalize f k=x at*
   go_wp2_with fail
   go_quiet (fail)
   go_wp2
   go_round
   case rel=>exact⟨k+1,q+nq,by omega,by go_num,rfl⟩
   case measure=>simp[intOf];omega
  ·obtain rfl:k=n:=by omega
   go_wp2
   go_ret
   exact⟨rfl,q,rfl⟩
end Srq
end Go.Proofs.YtjecmgkmcfkcjaaGreat
