/-
  Texts beneath the proof.
-/
import Derived.Test.YtiddkgcafpaekaaGreatJq15
set_option linter.unusedVariables false
set_option linter.unusedSimpArgs false
set_option maxRecDepth 100000
set_option maxHeartbeats 2000000
open Go.ChangeShapes Go.WideShapes Go.ChangeAt Go.RowKit
namespace Go.Proofs.YtiddkgcafpaekaaGreat
namespace Fb
open Bytes8 Fa
theorem rname_any (l:List Int)(hA:AllB l)(hmax:l.length≤9223372036854775807)(w:World):Calls Tryz.prog 117 #[.string (T l)] w fun e w'=>e= .returned (.bool (nmB l))∧w=w':=by
 have hsz:=T_size l
 have HI:=yH (index_at l hA)
 have HC:=yH fun j=>hA.at_ j
 have HN:=yH (fun j (hj:j<l.length) (h:okC (l.getD j 0)=false∨j=0∧isDig (l.getD j 0)=true)=>(by
  rcases h with h|⟨rfl,h⟩
  ·exact nmB_no hj h
  ·unfold nmB;rw[h];simp:nmB l=false))
 have HE:=yH (fun(h: ∀j,j<l.length→okC (l.getD j 0)=true∧(j=0→isDig (l.getD j 0)=false))=>(by
  rcases Nat.eq_zero_or_pos l.length with h0|h0
  ·obtain rfl:=List.eq_nil_of_length_eq_zero h0
   rfl
  ·unfold nmB
   rw[(h 0 h0).2 rfl,all_of fun j hj=>(h j hj).1]
   simp:nmB l=(decide (1≤l.length)&&decide (l.length≤64))))
 generalize hL:l.length=len at*
 have HL:=yH hL
 clear hL
 generalize T l=S at*
 go_enter Tryz.func117,Tryz.ntmps117
 go_wp2
 go_loop [3] (fun i=> ∃k:Nat,k≤len∧i= .int .i64 (k:Int)∧Hid (∀j,j<k→okC (l.getD j 0)=true∧(j=0→isDig (l.getD j 0)=false))) (fun i=>len-(intOf i).toNat)
 case atStart=>exact⟨0,by omega,rfl,yH fun j hj=>absurd hj (by omega)⟩
 case round=>
  obtain⟨k,hk,rfl,hall⟩:=hrel
  rcases Nat.lt_or_ge k len with hlt|hge
  ·have hidx:=HI.out k (by omega)
   have hin:(k:Int)<(len:Int):=by omega
   obtain⟨c1,c2⟩:=HC.out k
   have HNk:=yH (HN.out k (by omega))
   have HKk:=yH (fun(h:okC (l.getD k 0)=true∧(k=0→isDig (l.getD k 0)=false)) j (hj:j<k+1)=>(by
    rcases Nat.lt_or_ge j k with h1|h1
    ·exact hall.out j h1
    ·obtain rfl:j=k:=by omega
     exact h:okC (l.getD j 0)=true∧(j=0→isDig (l.getD j 0)=false)))
   clear hall
   generalize l.getD k 0=c at*
   have hgo:((48≤c∧c≤57∧0<k)∨(57<c∧65≤c∧c≤90)∨c=95)∧(okC c=true∧(k=0→isDig c=false))∨(c<48∨(48≤c∧c≤57∧k=0)∨(57<c∧c<65)∨(90<c∧c≠95))∧(okC c=false∨k=0∧isDig c=true):=by
    simp only[okC,isDig,isLet,Bool.or_eq_true,Bool.and_eq_true,decide_eq_true_eq,Bool.or_eq_false_iff,Bool.and_eq_false_iff,decide_eq_false_iff_not]
    omega
   rcases hgo with⟨hd,hok⟩|⟨hd,hok⟩
   ·have HK2:=yH (HKk.out hok)
    clear HNk HKk hok
    rcases hd with⟨d1,d2,d3⟩|⟨d1,d2,d3⟩|rfl
    all_goals
     go_wp2
     go_round
     case rel=>exact⟨k+1,by omega,by go_num,HK2⟩
     case measure=>simp[intOf];omega
   ·have HN2:=yH (HNk.out hok)
    clear HKk HNk hok
    rcases hd with d1|⟨d1,d2,d3⟩|⟨d1,d2⟩|⟨d1,d2⟩
    ·go_wp2
     go_ret
     exact⟨ret_bool HN2.out.symm,rfl⟩
    ·have hk0: ¬(0:Int)<(k:Int):=by omega
     have hk1: ¬0<k:=by omega
     clear d3
     go_wp2
     go_ret
     exact⟨ret_bool HN2.out.symm,rfl⟩
    ·go_wp2
     go_ret
     exact⟨ret_bool HN2.out.symm,rfl⟩
    ·have h95:(c==95)=false:=by simpa using d2
     clear d2
     go_wp2
     go_ret
     exact⟨ret_bool HN2.out.symm,rfl⟩
  ·obtain rfl:k=len:=by omega
   have HYk:=yH (HE.out (fun j hj=>hall.out j (by have:=HL.out;omega)))
   clear hall
   have h3:k=0∨(1≤k∧k≤64)∨64<k:=by omega
   rcases h3 with rfl|⟨h1,h2⟩|h1
   ·have HY2:=yH (HYk.out.trans (show(decide (1≤0)&&decide (0≤64))=false from rfl))
    clear HYk
    go_wp2
    go_ret
    exact⟨ret_bool HY2.out.symm,rfl⟩
   ·have HY2:=yH (HYk.out.trans (show(decide (1≤k)&&decide (k≤64))=true by rw[decide_eq_true h1,decide_eq_true h2];rfl))
    clear HYk
    have hdd:decide ((k:Int)≤64)=true:=by simp;omega
    go_wp2
    go_ret
    exact⟨ret_bool HY2.out.symm,rfl⟩
   ·have HY2:=yH (HYk.out.trans (show(decide (1≤k)&&decide (k≤64))=false by rw[decide_eq_false (show ¬k≤64 by omega)];simp))
    clear HYk
    have hdd:decide ((k:Int)≤64)=false:=by simp;omega
    go_wp2
    go_ret
    exact⟨ret_bool HY2.out.symm,rfl⟩
abbrev box (n v:List Int):Obj:= .cells #[.string (T n),.string (T v)] 77
end Fb
namespace Fb
open Bytes8 Fa
theorem isDigit_any (c:Int)(w:World):Calls Tryz.prog 235 #[.int .u8 c] w fun e w'=>e= .returned (.bool (isDig c))∧w=w':=by
 by_cases h1:48≤c<;>by_cases h2:c≤57
 all_goals
  go_enter Tryz.func235,Tryz.ntmps235
  go_wp2
  go_ret
  exact⟨by simp[isDig,h1,h2],rfl⟩
theorem isLetter_any (c:Int)(w:World):Calls Tryz.prog 236 #[.int .u8 c] w fun e w'=>e= .returned (.bool (isLet c))∧w=w':=by
 by_cases h1:65≤c<;>by_cases h2:c≤90
 all_goals
  go_enter Tryz.func236,Tryz.ntmps236
  go_wp2
  go_ret
  exact⟨by simp[isLet,h1,h2],rfl⟩
theorem name_any (l:List Int)(hA:AllB l)(w:World):Calls Tryz.prog 192 #[.string (T l)] w fun e w'=>e= .returned (.bool (nmB l))∧w=w':=by
 have hsz:=T_size l
 have HI:=yH (index_at l hA)
 have h0:(T l).toList.isEmpty=decide (l.length=0):=by
  rw[T_toList];cases l<;>rfl
 by_cases hlen:l.length=0
 ·have he:nmB l=false:=by
   obtain rfl:=List.eq_nil_of_length_eq_zero hlen
   rfl
  rw[he]
  rw[decide_eq_true hlen]at h0
  generalize T l=S at*
  clear HI
  go_enter Tryz.func192,Tryz.ntmps192
  go_wp2
  go_ret
  exact⟨rfl,rfl⟩
 rw[decide_eq_false hlen]at h0
 by_cases h64:64<l.length
 ·have he:nmB l=false:=by
   cases h:nmB l with
   |false=>rfl
   |true=>have:=nmB_len h;omega
  rw[he]
  generalize T l=S at*
  clear HI
  go_enter Tryz.func192,Tryz.ntmps192
  go_wp2
  go_ret
  exact⟨rfl,rfl⟩
 have HI0: ∀w,(Instr.index 9 (.string (T l)) (.int .i64 0)).run Tryz.prog w= .ok (.int .u8 (l.getD 0 0)) w:=HI.out 0 (by omega)
 have HD:=yH fun w=>isDigit_any (l.getD 0 0) w
 cases hd:isDig (l.getD 0 0)with
 |true=>
  have he:nmB l=false:=by unfold nmB;rw[hd];simp
  rw[he]
  rw[hd]at HD
  clear HI hd
  generalize l.getD 0 0=c0 at*
  generalize T l=S at*
  go_enter Tryz.func192,Tryz.ntmps192
  go_wp2_with(go_at_call 235;(with_reducible refine(HD.out _).mono ?_);rintro e w' ⟨rfl,rfl⟩)
  go_ret
  exact⟨rfl,rfl⟩
 |false=>
  have HY:=yH (fun h=>nmB_yes (l:=l) (by omega) (by omega) hd h)
  have HN:=yH (fun j hj h=>nmB_no (l:=l) (j:=j) hj h)
  rw[hd]at HD
  clear hd
  have HC:=yH fun j=>hA.at_ j
  generalize hL:l.length=len at*
  have HL:=yH hL
  clear hL
  generalize hc:l.getD 0 0=c0 at*
  clear hc
  generalize T l=S at*
  go_enter Tryz.func192,Tryz.ntmps192
  go_wp2_with(go_at_call 235;(with_reducible refine(HD.out _).mono ?_);rintro e w' ⟨rfl,rfl⟩)
  go_loop [18] (fun i=> ∃k:Nat,k≤len∧i= .int .i64 (k:Int)∧Hid (∀j,j<k→okC (l.getD j 0)=true)) (fun i=>len-(intOf i).toNat)
  case atStart=>exact⟨0,by omega,rfl,yH fun j hj=>absurd hj (by omega)⟩
  case round=>
   obtain⟨k,hk,rfl,hall⟩:=hrel
   rcases Nat.lt_or_ge k len with hlt|hge
   ·have hidx:=HI.out k (by omega)
    have hin:(k:Int)<(len:Int):=by omega
    have hk1:k≤64:=by omega
    have HDk:=yH fun w=>isDigit_any (l.getD k 0) w
    have HLk:=yH fun w=>isLetter_any (l.getD k 0) w
    obtain⟨c1,c2⟩:=HC.out k
    have HNk:=yH (HN.out k (by omega))
    have HKk:=yH (fun(h:okC (l.getD k 0)=true) j (hj:j<k+1)=>(by
     rcases Nat.lt_or_ge j k with h1|h1
     ·exact hall.out j h1
     ·obtain rfl:j=k:=by omega
      exact h:okC (l.getD j 0)=true))
    clear hall
    generalize l.getD k 0=c at*
    have hgo:okC c=true∧(isDig c=true∨isDig c=false∧isLet c=true∨isDig c=false∧isLet c=false∧c=95)∨okC c=false∧isDig c=false∧isLet c=false∧c≠95:=by
     unfold okC
     cases isDig c<;>cases isLet c<;>by_cases h3:c=95<;>simp[h3]
    rcases hgo with⟨hok,hd|⟨hd,hl⟩|⟨hd,hl,rfl⟩⟩|⟨hok,hd,hl,h95⟩
    ·rw[hd]at HDk
     clear hd
     have HKk:=yH (HKk.out hok)
     clear HNk hok
     go_wp2_with(go_at_call 235;(with_reducible refine(HDk.out _).mono ?_);rintro e w' ⟨rfl,rfl⟩)
     go_round
     case rel=>exact⟨k+1,by omega,by go_num,HKk⟩
     case measure=>simp[intOf];omega
    ·rw[hd]at HDk
     rw[hl]at HLk
     clear hd hl
     have HKk:=yH (HKk.out hok)
     clear HNk hok
     go_wp2_with(first|(go_at_call 235;(with_reducible refine(HDk.out _).mono ?_);rintro e w' ⟨rfl,rfl⟩)|(go_at_call 236;(with_reducible refine(HLk.out _).mono ?_);rintro e w' ⟨rfl,rfl⟩))
     go_round
     case rel=>exact⟨k+1,by omega,by go_num,HKk⟩
     case measure=>simp[intOf];omega
    ·rw[hd]at HDk
     rw[hl]at HLk
     clear hd hl
     have HKk:=yH (HKk.out hok)
     clear HNk hok
     go_wp2_with(first|(go_at_call 235;(with_reducible refine(HDk.out _).mono ?_);rintro e w' ⟨rfl,rfl⟩)|(go_at_call 236;(with_reducible refine(HLk.out _).mono ?_);rintro e w' ⟨rfl,rfl⟩))
     go_round
     case rel=>exact⟨k+1,by omega,by go_num,HKk⟩
     case measure=>simp[intOf];omega
    ·rw[hd]at HDk
     rw[hl]at HLk
     clear hd hl
     have HNk:=yH (HNk.out hok)
     clear HKk hok
     go_wp2_with(first|(go_at_call 235;(with_reducible refine(HDk.out _).mono ?_);rintro e w' ⟨rfl,rfl⟩)|(go_at_call 236;(with_reducible refine(HLk.out _).mono ?_);rintro e w' ⟨rfl,rfl⟩))
     go_ret
     exact⟨ret_bool HNk.out.symm,rfl⟩
   ·obtain rfl:k=len:=by omega
    have HYk:=yH (HY.out (fun j hj=>hall.out j (by have:=HL.out;omega)))
    clear hall
    go_wp2
    go_ret
    exact⟨ret_bool HYk.out.symm,rfl⟩
end Fb
namespace Fc
open Bytes8 Blk8 Fa Fb
theorem add_run (a b:List Int)(h:a.length+b.length≤1000000)(w:World):(Op.stringOp .add (T a) (T b)).run Tryz.prog w= .ok (.string (T (a++b))) w:=by
 rw[run_string_add_sum w _ _ (by rw[T_size,T_size];omega),T_app]
theorem rpayload_any (n v:List Int)(hmax:n.length+v.length≤900000)(w:World):
 Calls Tryz.prog 32 #[pv n v] w fun e w'=>e= .returned (.string (T (pay n v)))∧w.alloc (box n v)=w':=by
 have h1:=add_run n [61] (by simp;omega)
 have h2:=add_run (n++ [61]) v (by simp;omega)
 rw[←T_one]at h1
 have hp:pay n v=n++ [61]++v:=rfl
 rw[←hp]at h2
 dsimp only[pv,box]at*
 generalize T n=S at*
 generalize T v=V at*
 generalize T (n++ [61])=S1 at*
 generalize T (pay n v)=S2 at*
 clear hp
 go_enter Tryz.func32,Tryz.ntmps32
 go_wp2
 go_ret
 exact⟨rfl,rfl⟩
def joinL (n v:List Int):List Int:=if flawI n v=0 then pay n v else []
theorem flaw_len {n v:List Int}(h:flawI n v=0):n.length≤64∧v.length≤256:=by
 unfold flawI at h
 by_cases hn:nmB n=true
 ·rw[if_pos hn]at h
  have:=(nmB_len hn).2
  by_cases hv:256<v.length
  ·rw[if_pos hv]at h;cases h
  ·omega
 ·rw[if_neg hn]at h;cases h
def Joined (n v:List Int)(w:World)(e:Ending)(w':World):Prop:= ∃A c,e= .returned (.tuple #[.slice A (joinL n v).length c,.int .i64 (flawI n v)])∧Bytes w' A (joinL n v)∧Grew w w'
theorem rjoin_any (n v:List Int)(hn:AllB n)(hv:AllB v)(hmax:n.length≤9223372036854775807)(w:World):Calls Tryz.prog 146 #[pv n v] w (Joined n v w):=by
 have HN:=yH fun w=>rname_any n hn hmax w
 have hsz:=T_size v
 by_cases h:flawI n v=0
 ·have hL:joinL n v=pay n v:=if_pos h
  have hlen:=flaw_len h
  have hnm:nmB n=true:=by
   cases hnm:nmB n with
   |true=>rfl
   |false=>unfold flawI at h;rw[hnm]at h;cases h
  have HP:=yH fun w=>rpayload_any n v (by omega) w
  obtain⟨cf,mk,hmk⟩:=text_conv (pay n v) (pay_all hn hv)
  have hcv:=fun w=>(hmk w).1
  have HB:=yH fun w=>(hmk w).2
  clear hmk
  unfold Joined
  rw[hL,h]
  rw[hnm]at HN
  have hv256: ¬(256:Int)<(v.length:Int):=by omega
  dsimp only[pv,box]at*
  generalize T n=S at*
  generalize T v=V at*
  generalize T (pay n v)=P at*
  generalize pay n v=p at*
  generalize hpl:p.length=pl at*
  generalize v.length=vl at*
  clear h hL hlen hnm
  go_enter Tryz.func146,Tryz.ntmps146
  go_wp2_with(first|(go_at_call 117;(with_reducible refine(HN.out _).mono ?_);rintro e w' ⟨rfl,rfl⟩)|(go_at_call 32;(with_reducible refine(HP.out _).mono ?_);rintro e w' ⟨rfl,rfl⟩))
  go_ret2
  refine⟨_,_,rfl,(HB.out _).1 _ (by simp),?_⟩
  exact((Grew.refl w).alloc _).alloc _ |>.trans (HB.out _).2
 ·have hL:joinL n v=[]:=if_neg h
  have hG:=Grew.boxed w (box n v)
  unfold Joined
  rw[hL]
  cases hnm:nmB n with
  |false=>
   have hF:flawI n v=1:=by unfold flawI;rw[hnm];rfl
   rw[hF]
   rw[hnm]at HN
   dsimp only[pv,box]at*
   generalize T n=S at*
   generalize T v=V at*
   clear hL h hF hnm
   go_enter Tryz.func146,Tryz.ntmps146
   go_wp2_with(go_at_call 117;(with_reducible refine(HN.out _).mono ?_);rintro e w' ⟨rfl,rfl⟩)
   go_ret2
   exact⟨none,0,rfl,Bytes.nil _ _,hG⟩
  |true=>
   have h256:256<v.length:=by
    rcases Nat.lt_or_ge 256 v.length with h1|h1
    ·exact h1
    ·exact absurd (by unfold flawI;rw[if_pos hnm,if_neg (by omega)]) h
   have hF:flawI n v=21:=by unfold flawI;rw[if_pos hnm,if_pos h256]
   rw[hF]
   rw[hnm]at HN
   dsimp only[pv,box]at*
   generalize T n=S at*
   generalize T v=V at*
   generalize v.length=vl at*
   clear hL h hF hnm
   go_enter Tryz.func146,Tryz.ntmps146
   go_wp2_with(go_at_call 117;(with_reducible refine(HN.out _).mono ?_);rintro e w' ⟨rfl,rfl⟩)
   go_ret2
   exact⟨none,0,rfl,Bytes.nil _ _,hG⟩
end Fc
namespace Fc
end Fc
namespace Fo
open Bytes8 Fa Fb Fc
def lessP (n v m u:List Int):Bool:=ltL (pay n v) (pay m u)
theorem rpayload_grew (n v:List Int)(h:n.length+v.length≤900000)(w:World):
 Calls Tryz.prog 32 #[pv n v] w fun e w'=>e= .returned (.string (T (pay n v)))∧Grew w w':=
 (rpayload_any n v h w).mono (by rintro e w' ⟨rfl,rfl⟩;exact⟨rfl,Grew.boxed _ _⟩)
end Fo
namespace Xl
open Bytes8 Fa
theorem bytes_back {w:World}{A:Option Addr}{l:List Int}{m:Nat}(c:Nat)(h:Bytes w A l)(hl:l.length=m)(h0:l≠ []):(convert 24 9 (.slice A m c)).run Tryz.prog w= .ok (.string (T l)) w:=by
 subst hl
 have hpos:0<l.length:=List.length_pos_iff.2 h0
 obtain⟨b,off,rfl,_,_⟩:=h.2 0 hpos
 have q:=run_convert_bytes_back (P:=Tryz.prog) w 24 9 5 ⟨b,off,none⟩ c (l.map fun n=>n.toNat.toUInt8) Tryz.underlying24 Tryz.underlying5 Tryz.underlying9 (fun j hj=>by
  rw[List.length_map]at hj
  obtain⟨b2,off2,e,_,hc⟩:=h.2 j hj
  injection e with e
  injection e with e1 e2
  subst e1 e2
  rw[List.getElem_map]
  have hb:=h.1 l[j] (List.getElem_mem hj)
  have e3:((l[j].toNat.toUInt8).toNat:Int)=l[j]:=by
   simp
   omega
  rw[e3]
  have ha:(⟨b,off,none⟩:Addr).add j=⟨b,off+j,none⟩:=by simp[Addr.add]
  rw[ha,hc,List.getD_eq_getElem?_getD,List.getElem?_eq_getElem hj]
  rfl)
 rw[List.length_map]at q
 rw[q]
 congr 2
end Xl
namespace Seq8
open Bytes8 Blk8 Fa Fb Numb Rows2
def SeqIn (w:World)(gq:Nat)(a:Option Addr)(len cap:Nat)(f:Nat→Int)(k:Nat):Prop:=
 Blk w gq [.slice a len cap,.int .i64 (k:Int)] 62∧InInts .i64 w a len f∧(0<len→ ∀b off,a=some ⟨b,off,none⟩→b≠gq)∧k≤len∧len≤9223372036854775807
theorem SeqIn.below {w w':World}{gq:Nat}{a:Option Addr}{len cap:Nat}{f:Nat→Int}{k:Nat}(h:SeqIn w gq a len cap f k)(hb:Below w.heap.size w w'):SeqIn w' gq a len cap f k:=
 ⟨h.1.below hb h.1.lt,h.2.1.below hb,h.2.2⟩
theorem ints_keptB {kk:IntKind}{w w':World}{gq:Nat}{a:Option Addr}{len:Nat}{f:Nat→Int}(h:InInts kk w a len f)(hk:KeptB w.heap.size gq w w')(hne:0<len→ ∀b off,a=some ⟨b,off,none⟩→b≠gq):InInts kk w' a len f:=fun i hi=>by
 obtain⟨b,off,e,h1,h2,h3⟩:=h i hi
 exact⟨b,off,e,yL h1 hk.size,(World.cell?_of_block (hk.block b h1 (hne (by omega) b off e))).trans h2,h3⟩
set_option maxRecDepth 100000 in
theorem seqN_any (gq:Nat)(a:Option Addr)(len cap:Nat)(f:Nat→Int)(k:Nat)(b:Int)(w:World)(hb:1≤b)(hb2:b≤1000000)(h:SeqIn w gq a len cap f k):
 Calls Tryz.prog 76 #[.pointer (some ⟨gq,0,none⟩),.int .i64 b] w fun e w'=> ∃(r k':Nat),e= .returned (.int .i64 (r:Int))∧(r:Int)<b∧SeqIn w' gq a len cap f k'∧KeptB w.heap.size gq w w':=by
 obtain⟨hB,hI,hne,hk,hl⟩:=h
 have HB:=yH hB
 have c0:=HB.out.cell (i:=0) rfl
 have c1:=HB.out.cell (i:=1) rfl
 have f1:=HB.out.frozen 1
 by_cases hlt:k<len
 ·obtain⟨bb,off,rfl,hbl,hc,hwf⟩:=hI k hlt
  have hbq:=hne (by omega) bb off rfl
  obtain⟨r,hr,hrb⟩:=below_nat (f k) b hb
  have HNum:=yH fun w=>number_nat (f k) b r w hb (by omega) hr.out
  have hkk: ¬(len:Int)≤(k:Int):=by omega
  have hset: ∀v,(w.setCell ⟨gq,1,none⟩ v).cell? ⟨bb,off+k,none⟩=some (.int .i64 (f k)):=fun v=>by
   rw[←hc];exact World.cell?_of_block (Below.heap_setCell _ _ _ _ hbq)
  have HI:=yH hI
  have HNe:=yH hne
  have hm:Tryz.prog.follows .mixedOrders=true:=by kernel_rfl
  clear hI hne hB hr hwf
  generalize f k=x at*
  go_enter Tryz.func76,Tryz.ntmps76
  go_wp2_with fail
  go_quiet (fail)
  obtain⟨nq_1,hnq⟩: ∃x,x=nq:=⟨_,rfl⟩
  rw[←hnq]
  clear hnq nq
  go_wp2_with fail
  go_quiet ((go_at_call 20;exact quiet_kept (HNum.out _)))
  have HK:=yH ((((KeptB.refl w.heap.size gq w).drewN nq_1).setCell (Or.inr rfl) (.int .i64 ((k:Int)+1)) (p:=⟨gq,1,none⟩)).drewN nq)
  go_wp2
  go_ret
  refine⟨r,k+1,rfl,hrb,⟨?_,ints_keptB HI.out HK.out HNe.out,HNe.out,by omega,hl⟩,HK.out⟩
  exact((HB.out.drewN _).set_ 1 _).drewN _
 ·have hkk:(len:Int)≤(k:Int):=by omega
  have HI:=yH hI
  have HNe:=yH hne
  clear hI hne hB
  go_enter Tryz.func76,Tryz.ntmps76
  go_wp2_with fail
  go_quiet (fail)
  go_wp2
  go_ret
  refine⟨0,k,rfl,by omega,⟨HB.out.drewN _,HI.out,HNe.out,hk,hl⟩,(KeptB.refl _ _ _).drewN _⟩
abbrev nameLs:List (List Int):=[[65],[66],[77,69,83,83,65,71,69],[95,80,73,68],[88,95,49],[80,82,73,79,82,73,84,89]]
abbrev valueLs:List (List Int):=[[],[48],[49],[50,50],[97,61,98],[111,110,101,10,116,119,111],[0,255],[116,97,98,9,104,101,114,101],[108,111,110,103,32,108,111,110,103,32,108,111,110,103,32,108,111,110,103,32,108,111,110,103,32,108,111,110,103,32,108,111,110,103],[126,127,128]]
def texts (ls:List (List Int)):List Value:=ls.map fun l=> .string (T l)
theorem names_ok: ∀n∈nameLs,AllB n∧nmB n=true:=by
 intro n hn
 have h:nameLs.all (fun n=>n.all (fun x=>decide (0≤x)&&decide (x<256))&&nmB n)=true:=by decide+kernel
 have:=List.all_eq_true.1 h n hn
 simp only[Bool.and_eq_true]at this
 exact⟨Ff.small_all this.1,this.2⟩
theorem values_ok: ∀v∈valueLs,AllB v∧v.length≤256:=by
 intro n hn
 have h:valueLs.all (fun n=>n.all (fun x=>decide (0≤x)&&decide (x<256))&&decide (n.length≤256))=true:=by decide+kernel
 have:=List.all_eq_true.1 h n hn
 simp only[Bool.and_eq_true,decide_eq_true_eq]at this
 exact⟨Ff.small_all this.1,this.2⟩
theorem flaw_ok {n v:List Int}(hn:nmB n=true)(hv:v.length≤256):flawI n v=0:=by
 unfold flawI;rw[if_pos hn,if_neg (by omega)]
theorem names_any (w:World):Calls Tryz.prog 218 #[] w fun e w'=>e= .returned (.slice (some ⟨w.heap.size,0,none⟩) 6 6)∧Blk w' w.heap.size (texts nameLs) 9∧Below w.heap.size w w'∧w'.heap.size=w.heap.size+1:=by
 have h:texts nameLs=[.string {data:= #[65]},.string {data:= #[66]},.string {data:= #[77,69,83,83,65,71,69]},.string {data:= #[95,80,73,68]},.string {data:= #[88,95,49]},.string {data:= #[80,82,73,79,82,73,84,89]}]:=rfl
 rw[h]
 go_enter Tryz.func218,Tryz.ntmps218
 go_wp2
 go_ret
 exact⟨rfl,Blk.new w _ _,(Below.refl _ _).alloc (yR _) _,by simp⟩
set_option maxRecDepth 10000 in
theorem values_any (w:World):Calls Tryz.prog 219 #[] w fun e w'=>e= .returned (.slice (some ⟨w.heap.size,0,none⟩) 10 10)∧Blk w' w.heap.size (texts valueLs) 9∧Below w.heap.size w w'∧w'.heap.size=w.heap.size+1:=by
 have h:texts valueLs=[.string {data:= #[]},.string {data:= #[48]},.string {data:= #[49]},.string {data:= #[50,50]},.string {data:= #[97,61,98]},.string {data:= #[111,110,101,10,116,119,111]},.string {data:= #[0,255]},.string {data:= #[116,97,98,9,104,101,114,101]},.string {data:= #[108,111,110,103,32,108,111,110,103,32,108,111,110,103,32,108,111,110,103,32,108,111,110,103,32,108,111,110,103,32,108,111,110,103]},.string {data:= #[126,127,128]}]:=rfl
 rw[h]
 go_enter Tryz.func219,Tryz.ntmps219
 go_wp2
 go_ret
 exact⟨rfl,Blk.new w _ _,(Below.refl _ _).alloc (yR _) _,by simp⟩
end Seq8
namespace SeqP
open Bytes8 Blk8 Fa Fb Rows2 Seq8
theorem names_at (w:World)(g:Nat)(hg:w.heap.size=g):Calls Tryz.prog 218 #[] w fun e w'=>e= .returned (.slice (some ⟨g,0,none⟩) 6 6)∧Blk w' g (texts nameLs) 9∧Below w.heap.size w w'∧w'.heap.size=g+1:=by
 subst hg;exact names_any w
theorem values_at (w:World)(g:Nat)(hg:w.heap.size=g):Calls Tryz.prog 219 #[] w fun e w'=>e= .returned (.slice (some ⟨g,0,none⟩) 10 10)∧Blk w' g (texts valueLs) 9∧Below w.heap.size w w'∧w'.heap.size=g+1:=by
 subst hg;exact values_any w
theorem text_at {w:World}{g:Nat}{ls:List (List Int)}{T0:TypeId}(h:Blk w g (texts ls) T0)(i:Nat)(hi:i<ls.length):w.cell? ⟨g,i,none⟩=some (.string (T (ls.getD i []))):=by
 refine h.cell ?_
 unfold texts
 rw[List.getElem?_map,List.getElem?_eq_getElem hi]
 simp[List.getElem?_eq_getElem hi]
theorem text_is {w:World}{g:Nat}{ls:List (List Int)}{T0:TypeId}(h:Blk w g (texts ls) T0)(i:Nat)(hi:i<ls.length){nm:List Int}(hn:nm=ls.getD i []):w.cell? ⟨g,i,none⟩=some (.string (T nm)):=hn▸text_at h i hi
theorem getD_mem {ls:List (List Int)}{i:Nat}(hi:i<ls.length):ls.getD i []∈ls:=by
 rw[List.getD_eq_getElem?_getD,List.getElem?_eq_getElem hi]
 exact List.getElem_mem hi
def Paired (gq:Nat)(a:Option Addr)(len cap:Nat)(f:Nat→Int)(w:World)(e:Ending)(w':World):Prop:=
 ∃n v k',e= .returned (pv n v)∧(AllB n∧AllB v∧flawI n v=0)∧SeqIn w' gq a len cap f k'∧KeptB w.heap.size gq w w'
set_option maxRecDepth 100000 in
theorem pair_any (gq:Nat)(a:Option Addr)(len cap:Nat)(f:Nat→Int)(k:Nat)(w:World)(h:SeqIn w gq a len cap f k):
 Calls Tryz.prog 178 #[.pointer (some ⟨gq,0,none⟩)] w (Paired gq a len cap f w):=by
 have hgq:=h.1.lt
 have B0:=yH ((Below.refl w.heap.size w).alloc (yR _) (.cells #[.string {data:= #[]},.string {data:= #[]}] 77))
 have S0:=yH (h.below B0.out)
 have R0:=yH (Blk.new w [.string {data:= #[]},.string {data:= #[]}] 77)
 have HI:=yH h.2.1
 have HNe:=yH h.2.2.1
 clear h
 unfold Paired
 have hm:Tryz.prog.follows .mixedOrders=true:=by kernel_rfl
 go_enter Tryz.func178,Tryz.ntmps178
 go_wp2_with fail
 go_region_with (first
  |(go_at_call 218;(with_reducible refine(names_at _ (w.heap.size+1) (by simp)).mono ?_);rintro e w1 ⟨rfl,hN,hb1,hs1⟩;have N1:=yH hN;have S1:=yH (SeqIn.below (w:=(w.alloc (.cells #[.string {data:= #[]},.string {data:= #[]}] 77)).drew) S0.out hb1);have R1:=yH (Blk.below (w:=(w.alloc (.cells #[.string {data:= #[]},.string {data:= #[]}] 77)).drew) R0.out hb1 R0.out.lt);have B1:=yH (B0.out.drew.trans (hb1.mono B0.out.size));clear hN hb1)
  |(go_at_call 76;(with_reducible refine(seqN_any gq a len cap f k 6 w1 (by decide) (by decide) S1.out).mono ?_);rintro e w2 ⟨i,k2,rfl,hi,hS2,hK2⟩;have S2:=yH hS2;have N2:=yH (Blk.keptB N1.out hK2 N1.out.lt (by omega));have R2:=yH (Blk.keptB R1.out hK2 R1.out.lt (by omega));have K2:=yH ((KeptB.of_below (g:=gq) B1.out).trans (hK2.mono B1.out.size));obtain⟨nm,hnm⟩: ∃nm,nm=nameLs.getD i []:=⟨_,rfl⟩;have HNm:=yH hnm;clear hnm;have hi6:i<nameLs.length:=(by simp;omega);have HI6:=yH hi6;clear hi6;have x2:=text_is N2.out i HI6.out HNm.out;clear hS2 hK2)
  |(go_at_call 219;(with_reducible refine(values_at _ w2.heap.size rfl).mono ?_);rintro e w3 ⟨rfl,hV,hb3,hs3⟩;have V3:=yH hV;have S3:=yH (SeqIn.below S2.out hb3);have R3:=yH (R2.out.below hb3 R2.out.lt);have N3:=yH (N2.out.below hb3 N2.out.lt);have K3:=yH (K2.out.trans (KeptB.of_below (hb3.mono K2.out.size)));have x3:=text_is N3.out i HI6.out HNm.out;clear hV hb3)
  |(go_at_call 76;(with_reducible refine(seqN_any gq a len cap f k2 10 w3 (by decide) (by decide) S3.out).mono ?_);rintro e w4 ⟨j,k4,rfl,hj,hS4,hK4⟩;have S4:=yH hS4;have N4:=yH (Blk.keptB N3.out hK4 N3.out.lt (by omega));have R4:=yH (Blk.keptB R3.out hK4 R3.out.lt (by omega));have V4:=yH (Blk.keptB V3.out hK4 V3.out.lt (by have:=K2.out.size;omega));have K4:=yH (K3.out.trans (hK4.mono K3.out.size));have x4:=text_is N4.out i HI6.out HNm.out;obtain⟨vl,hvl⟩: ∃vl,vl=valueLs.getD j []:=⟨_,rfl⟩;have HVl:=yH hvl;clear hvl;have hj10:j<valueLs.length:=(by simp;omega);have HJ10:=yH hj10;clear hj10;have y4:=text_is V4.out j HJ10.out HVl.out;have f0:=R4.out.frozen 0;have f1:=R4.out.frozen 1;have c0:=R4.out.cell (i:=0) rfl;have c1:=R4.out.cell (i:=1) rfl;clear hS4 hK4))
 all_goals
  go_wp2
  obtain⟨n1,n2⟩:=names_ok nm (by rw[HNm.out];exact getD_mem HI6.out)
  obtain⟨v1,v2⟩:=values_ok vl (by rw[HVl.out];exact getD_mem HJ10.out)
  have HK:=(K4.out.setCell (p:=⟨w.heap.size,0,none⟩) (Or.inl (yR _)) (.string (T nm))).setCell (p:=⟨w.heap.size,1,none⟩) (Or.inl (yR _)) (.string (T vl))
  refine bodyPost_ret (v:=pv nm vl) (by simp[results,Tryz.results178,go_sem,c0,c1]) rfl ⟨nm,vl,k4,rfl,⟨n1,v1,flaw_ok n2 v2⟩,⟨?_,ints_keptB HI.out HK HNe.out,S4.out.2.2⟩,HK⟩
  exact(S4.out.1.far (p:=⟨w.heap.size,0,none⟩) (show gq≠w.heap.size by omega) _).far (p:=⟨w.heap.size,1,none⟩) (show gq≠w.heap.size by omega) _
end SeqP
namespace Fsp
open Bytes8 Blk8 Fa Fb OwnE
theorem get_T (l:List Int)(hA:AllB l)(i:Nat)(hi:i<l.length):((T l)[i]! ==(61:UInt8))=decide (l.getD i 0=61):=by
 have hsz:i<(T l).size:=by rw[T_size];exact hi
 have hlen:i<(T l).toList.length:=by rw[T_toList,List.length_map];exact hi
 have e0:(T l)[i]! =(T l)[i]'hsz:=getElem!_pos (T l) i hsz
 have e1:((T l)[i]'hsz)=(T l).toList[i]'hlen:=by
  have:(T l).toList=(T l).data.toList:=ByteArray.toList_eq _
  simp only[this]
  rfl
 have e2:(T l).toList[i]'hlen=(l[i]).toNat.toUInt8:=by simp only[T_toList,List.getElem_map]
 have hv:=hA l[i] (List.getElem_mem hi)
 have e3:l.getD i 0=l[i]:=by simp[List.getElem?_eq_getElem hi]
 rw[e0,e1,e2,e3]
 by_cases h:l[i]=61
 ·simp[h]
 ·have:(l[i]).toNat.toUInt8≠(61:UInt8):=fun e=>h (by
   have:=congrArg UInt8.toNat e
   simp at this
   omega)
  simp[h,this]
def idxI (l:List Int):Int:=if cutI l<l.length then(cutI l:Int)else -1
theorem first_cut (l:List Int)(hA:AllB l):firstIdx (T l) 61=idxI l:=by
 unfold firstIdx idxI
 rw[T_size]
 by_cases h:cutI l<l.length
 ·rw[if_pos h]
  have:(List.range l.length).find? (fun i=>(T l)[i]! ==(61:UInt8))=some (cutI l):=by
   rw[List.find?_range_eq_some]
   refine⟨?_,List.mem_range.2 h,fun j hj=>?_⟩
   ·show((T l)[cutI l]! ==(61:UInt8))=true
    rw[get_T l hA _ h,cutI_at h];rfl
   ·show(!((T l)[j]! ==(61:UInt8)))=true
    rw[get_T l hA _ (by omega),decide_eq_false (cutI_before hj)];rfl
  rw[this]
 ·rw[if_neg h]
  have:(List.range l.length).find? (fun i=>(T l)[i]! ==(61:UInt8))=none:=by
   rw[List.find?_range_eq_none]
   intro j hj
   show(!((T l)[j]! ==(61:UInt8)))=true
   rw[get_T l hA _ hj,decide_eq_false (cutI_before (by have:=cutI_le l;omega))];rfl
  rw[this]
theorem indexByte_any (l:List Int)(hA:AllB l)(w:World):
 Calls Tryz.prog 258 #[.string (T l),.int .u8 61] w fun e w'=>e= .returned (.int .i64 (idxI l))∧w=w':=by
 have hr: ∀w,(Extern.BytealgIndexByte.indexByte #[.string (T l),.int .u8 61]).run Tryz.prog w= .ok (.int .i64 (idxI l)) w:=fun w=>by
  rw[run_indexByte_string]
  show Result.ok (Value.int .i64 (firstIdx (T l) 61)) w=_
  rw[first_cut l hA]
 generalize T l=S at*
 generalize idxI l=I at*
 go_enter Tryz.func258,Tryz.ntmps258
 go_wp2
 rw[run_callFunc_extern Tryz.func262 (by kernel_rfl) (by kernel_rfl) (by kernel_rfl) (e:=Extern.BytealgIndexByte.indexByte) (by kernel_rfl),hr]
 simp only[Result.andThen]
 rw[Oper.upon_value]
 go_wp2
 go_ret
 exact⟨rfl,rfl⟩
theorem index_any (l:List Int)(hA:AllB l)(hmax:l.length≤1000000)(w:World):
 Calls Tryz.prog 257 #[.string (T l),.string {data:= #[61]}] w fun e w'=>e= .returned (.int .i64 (idxI l))∧w=w':=by
 have HB:=yH fun w=>indexByte_any l hA w
 have hq:([61]==(T l).toList)=decide ([61]=l):=by
  have h1:=T_beq (l:=[61]) (m:=l) (fun x hx=>by simp at hx;subst hx;decide) hA
  rw[←h1,show(T [61]).toList=[61]by rw[T_toList];rfl]
 have hi0: ∀w,(Instr.index 9 (.string {data:= #[61]}) (.int .i64 0)).run Tryz.prog w= .ok (.int .u8 61) w:=fun w=>by
  have:=index_at [61] (fun x hx=>by simp at hx;subst hx;decide) 0 (by decide) w
  rw[T_one];exact this
 by_cases h: [61]=l
 ·have hI:idxI l=0:=by subst h;decide
  rw[hI]
  rw[decide_eq_true h]at hq
  clear HB hi0 hI h
  generalize T l=S at*
  go_enter Tryz.func257,Tryz.ntmps257
  go_wp2
  go_ret
  exact⟨rfl,rfl⟩
 ·rw[decide_eq_false h]at hq
  clear h
  generalize T l=S at*
  generalize idxI l=I at*
  go_enter Tryz.func257,Tryz.ntmps257
  go_wp2_with(go_at_call 258;(with_reducible refine(HB.out _).mono ?_);rintro e w' ⟨rfl,rfl⟩)
  go_ret
  exact⟨rfl,rfl⟩
theorem slice_lo (l:List Int)(k:Nat)(hk:k≤l.length)(w:World):(Instr.slice 9 (.string (T l)) none (some (.int .i64 (k:Int))) none).run Tryz.prog w= .ok (.string (T (l.take k))) w:=by
 have hz:=T_size l
 have e:=T_cut l 0 k
 rw[List.drop_zero,Nat.sub_zero]at e
 rw[run_slice_string_to_if w 9 (T l) .i64 (k:Int) Tryz.underlying9,if_pos (by omega),Int.toNat_natCast,e]
theorem slice_hi (l:List Int)(k:Nat)(hk:k≤l.length)(w:World):(Instr.slice 9 (.string (T l)) (some (.int .i64 (k:Int))) none none).run Tryz.prog w= .ok (.string (T (l.drop k))) w:=by
 have hz:=T_size l
 have e:=T_cut l k l.length
 rw[List.take_of_length_le (by simp)]at e
 rw[run_slice_string_from_if w 9 (T l) .i64 (k:Int) Tryz.underlying9,if_pos (by omega),Int.toNat_natCast,hz,e]
def cutA1 (l:List Int):List Int:=if cutI l<l.length then l.take (cutI l)else l
def cutA2 (l:List Int):List Int:=if cutI l<l.length then l.drop (cutI l+1)else []
theorem lcut_any (l:List Int)(hA:AllB l)(hmax:l.length≤1000000)(w:World):
 Calls Tryz.prog 253 #[.string (T l),.string {data:= #[61]}] w fun e w'=>e= .returned (.tuple #[.string (T (cutA1 l)),.string (T (cutA2 l)),.bool (decide (cutI l<l.length))])∧Grew w w':=by
 have HI:=yH fun w=>index_any l hA hmax w
 have hsz:=T_size l
 by_cases h:cutI l<l.length
 ·have h1:cutA1 l=l.take (cutI l):=if_pos h
  have h2:cutA2 l=l.drop (cutI l+1):=if_pos h
  have h3:idxI l=(cutI l:Int):=if_pos h
  have s1:=slice_lo l (cutI l) (by omega)
  have s2: ∀w,(Instr.slice 9 (.string (T l)) (some (.int .i64 ((cutI l:Int)+1))) none none).run Tryz.prog w= .ok (.string (T (l.drop (cutI l+1)))) w:=slice_hi l (cutI l+1) (by omega)
  rw[h1,h2,decide_eq_true h]
  rw[h3]at HI
  have hk:cutI l≤1000000:=by omega
  clear h1 h2 h3 hA
  generalize l.length=len at*
  generalize T (l.take (cutI l))=S1 at*
  generalize T (l.drop (cutI l+1))=S2 at*
  generalize T l=S at*
  generalize cutI l=k at*
  go_enter Tryz.func253,Tryz.ntmps253
  go_wp2_with(go_at_call 257;(with_reducible refine(HI.out _).mono ?_);rintro e w' ⟨rfl,rfl⟩)
  go_quiet (fail)
  go_wp2
  go_ret3
  exact⟨rfl,(Grew.refl w).drewN _⟩
 ·have h1:cutA1 l=l:=if_neg h
  have h2:cutA2 l=[]:=if_neg h
  have h3:idxI l= -1:=if_neg h
  rw[h1,h2,decide_eq_false h,←T_nil]
  rw[h3]at HI
  clear h1 h2 h3 hA
  generalize T l=S at*
  go_enter Tryz.func253,Tryz.ntmps253
  go_wp2_with(go_at_call 257;(with_reducible refine(HI.out _).mono ?_);rintro e w' ⟨rfl,rfl⟩)
  go_ret3
  exact⟨rfl,Grew.refl w⟩
theorem cut_any (l:List Int)(hA:AllB l)(hmax:l.length≤1000000)(w:World):
 Calls Tryz.prog 230 #[.string (T l),.string {data:= #[61]}] w fun e w'=>e= .returned (.tuple #[.string (T (cutA1 l)),.string (T (cutA2 l)),.bool (decide (cutI l<l.length))])∧Grew w w':=by
 have HC:=yH fun w=>lcut_any l hA hmax w
 generalize T (cutA1 l)=S1 at*
 generalize T (cutA2 l)=S2 at*
 generalize decide (cutI l<l.length)=b at*
 generalize T l=S at*
 go_enter Tryz.func230,Tryz.ntmps230
 go_wp2_with(go_at_call 253;(with_reducible refine(HC.out _).mono ?_);rintro e w' ⟨rfl,hG⟩)
 go_ret3
 exact⟨rfl,hG⟩
def Splitted (l:List Int)(w:World)(e:Ending)(w':World):Prop:=e= .returned (.tuple #[pv (splitN l) (splitV l),.int .i64 (splitE l)])∧Below w.heap.size w w'
set_option maxRecDepth 100000 in
set_option maxRecDepth 100000 in
theorem split_any (a:Option Addr)(l:List Int)(len cap:Nat)(w:World)(hb:Bytes w a l)(hL:l.length=len)(hmax:len≤1000000):
 Calls Tryz.prog 190 #[.slice a len cap] w (Splitted l w):=by
 subst hL
 have hA:=hb.1
 have HC:=yH fun w=>cut_any l hA hmax w
 have hcv:(convert 24 9 (.slice a l.length cap)).run Tryz.prog (w.alloc (.cells #[.string {data:= #[]},.string {data:= #[]}] 77))= .ok (.string (T l)) (w.alloc (.cells #[.string {data:= #[]},.string {data:= #[]}] 77)):=
  (hb.below ((Below.refl w.heap.size w).alloc (yR _) _) (yR _)).string cap _ rfl
 unfold Splitted
 have hE:splitE l=if cutI l<l.length then(if nmB (l.take (cutI l))=true then(if 256<l.length-cutI l-1 then 21 else 0)else 20)else 20:=rfl
 have b0:Below w.heap.size w (w.alloc (.cells #[.string {data:= #[]},.string {data:= #[]}] 77)):=(Below.refl w.heap.size w).alloc (yR _) _
 by_cases h:cutI l<l.length
 ·have h1:cutA1 l=l.take (cutI l):=if_pos h
  have h2:cutA2 l=l.drop (cutI l+1):=if_pos h
  rw[h1,h2,decide_eq_true h]at HC
  rw[if_pos h]at hE
  have HN:=yH fun w=>name_any (l.take (cutI l)) (hA.take _) w
  have hvs:(T (l.drop (cutI l+1))).size=l.length-cutI l-1:=by rw[T_size,List.length_drop];omega
  cases hnm:nmB (l.take (cutI l))with
  |false=>
   rw[hnm]at HN hE
   have hF:splitE l=20:=hE
   obtain⟨e1,e2⟩:=split_not (l:=l) (by rw[hF];decide)
   dsimp only[pv]
   rw[hF,e1,e2,←T_nil]
   clear hE hF e1 e2 hnm h1 h2 hb hA hvs
   generalize l.length=len at*
   generalize T (l.take (cutI l))=S1 at*
   generalize T (l.drop (cutI l+1))=S2 at*
   generalize T l=S at*
   clear h
   go_enter Tryz.func190,Tryz.ntmps190
   go_wp2_with(first|(go_at_call 230;(with_reducible refine(HC.out _).mono ?_);rintro e w2 ⟨rfl,hG⟩;have HG:=yH (b0.trans (hG.below.mono b0.size));have R:=yH ((Blk.new w [.string {data:= #[]},.string {data:= #[]}] 77).below hG.below (by simp));have c0:=R.out.cell (i:=0) rfl;have c1:=R.out.cell (i:=1) rfl;have f0:=R.out.frozen 0;have f1:=R.out.frozen 1;clear hG)|(go_at_call 192;(with_reducible refine(HN.out _).mono ?_);rintro e w' ⟨rfl,rfl⟩))
   refine bodyPost_ret (v:= .tuple #[.agg #[.string {data:= #[]},.string {data:= #[]}],.int .i64 20]) (by simp[results_cell_tmp Tryz.results190,go_sem,c0,c1,f0,f1,Result.andThen]) rfl ⟨rfl,?_⟩
   (repeat (first|(with_reducible exact HG.out)|refine Below.setCell ?_ (by simp) _|refine Below.alloc ?_ (by simp) _|refine below_drewN ?_ _))
  |true=>
   rw[hnm]at HN hE
   rw[if_pos rfl]at hE
   by_cases hv:256<l.length-cutI l-1
   ·have hF:splitE l=21:=hE.trans (if_pos hv)
    obtain⟨e1,e2⟩:=split_not (l:=l) (by rw[hF];decide)
    dsimp only[pv]
    rw[hF,e1,e2,←T_nil]
    clear hE hF e1 e2 hnm h1 h2 hb hA
    generalize l.length-cutI l-1=lv at*
    generalize l.length=len at*
    generalize T (l.take (cutI l))=S1 at*
    generalize T (l.drop (cutI l+1))=S2 at*
    generalize T l=S at*
    clear h
    go_enter Tryz.func190,Tryz.ntmps190
    go_wp2_with(first|(go_at_call 230;(with_reducible refine(HC.out _).mono ?_);rintro e w2 ⟨rfl,hG⟩;have HG:=yH (b0.trans (hG.below.mono b0.size));have R:=yH ((Blk.new w [.string {data:= #[]},.string {data:= #[]}] 77).below hG.below (by simp));have c0:=R.out.cell (i:=0) rfl;have c1:=R.out.cell (i:=1) rfl;have f0:=R.out.frozen 0;have f1:=R.out.frozen 1;clear hG)|(go_at_call 192;(with_reducible refine(HN.out _).mono ?_);rintro e w' ⟨rfl,rfl⟩))
    refine bodyPost_ret (v:= .tuple #[.agg #[.string {data:= #[]},.string {data:= #[]}],.int .i64 21]) (by simp[results_cell_tmp Tryz.results190,go_sem,c0,c1,f0,f1,Result.andThen]) rfl ⟨rfl,?_⟩
    (repeat (first|(with_reducible exact HG.out)|refine Below.setCell ?_ (by simp) _|refine Below.alloc ?_ (by simp) _|refine below_drewN ?_ _))
   ·have hF:splitE l=0:=hE.trans (if_neg hv)
    have e1:splitN l=l.take (cutI l):=by unfold splitN;rw[if_pos hF]
    have e2:splitV l=l.drop (cutI l+1):=by unfold splitV;rw[if_pos hF]
    dsimp only[pv]
    rw[hF,e1,e2]
    clear hE hF e1 e2 hnm h1 h2 hb hA
    generalize l.length-cutI l-1=lv at*
    generalize l.length=len at*
    generalize T (l.take (cutI l))=S1 at*
    generalize T (l.drop (cutI l+1))=S2 at*
    generalize T l=S at*
    clear h
    go_enter Tryz.func190,Tryz.ntmps190
    go_wp2_with(first|(go_at_call 230;(with_reducible refine(HC.out _).mono ?_);rintro e w2 ⟨rfl,hG⟩;have HG:=yH (b0.trans (hG.below.mono b0.size));have R:=yH ((Blk.new w [.string {data:= #[]},.string {data:= #[]}] 77).below hG.below (by simp));have c0:=R.out.cell (i:=0) rfl;have c1:=R.out.cell (i:=1) rfl;have f0:=R.out.frozen 0;have f1:=R.out.frozen 1;clear hG)|(go_at_call 192;(with_reducible refine(HN.out _).mono ?_);rintro e w' ⟨rfl,rfl⟩))
    refine bodyPost_ret (v:= .tuple #[.agg #[.string S1,.string S2],.int .i64 0]) (by simp[results_cell_tmp Tryz.results190,go_sem,c0,c1,f0,f1,Result.andThen]) rfl ⟨rfl,?_⟩
    (repeat (first|(with_reducible exact HG.out)|refine Below.setCell ?_ (by simp) _|refine Below.alloc ?_ (by simp) _|refine below_drewN ?_ _))
 ·have h1:cutA1 l=l:=if_neg h
  have h2:cutA2 l=[]:=if_neg h
  rw[h1,h2,decide_eq_false h,←T_nil]at HC
  rw[if_neg h]at hE
  have hF:splitE l=20:=hE
  obtain⟨e1,e2⟩:=split_not (l:=l) (by rw[hF];decide)
  dsimp only[pv]
  rw[hF,e1,e2,←T_nil]
  clear hE hF e1 e2 h1 h2 hb hA
  have HN:=yH True.intro
  generalize l.length=len at*
  generalize T l=S at*
  clear h
  go_enter Tryz.func190,Tryz.ntmps190
  go_wp2_with(go_at_call 230;(with_reducible refine(HC.out _).mono ?_);rintro e w2 ⟨rfl,hG⟩;have HG:=yH (b0.trans (hG.below.mono b0.size));have R:=yH ((Blk.new w [.string {data:= #[]},.string {data:= #[]}] 77).below hG.below (by simp));have c0:=R.out.cell (i:=0) rfl;have c1:=R.out.cell (i:=1) rfl;have f0:=R.out.frozen 0;have f1:=R.out.frozen 1;clear hG)
  refine bodyPost_ret (v:= .tuple #[.agg #[.string {data:= #[]},.string {data:= #[]}],.int .i64 20]) (by simp[results_cell_tmp Tryz.results190,go_sem,c0,c1,f0,f1,Result.andThen]) rfl ⟨rfl,?_⟩
  (repeat (first|(with_reducible exact HG.out)|refine Below.setCell ?_ (by simp) _|refine Below.alloc ?_ (by simp) _|refine below_drewN ?_ _))
end Fsp
namespace Mi
open Bytes8 Blk8 Own8 OwnE Gb Gp Numb Seq8
def mkId (x:Int):Nat→Int:=fun i=>if i=0 then 94 else if i=15 then x else 0
theorem mkId_ok {x:Int}(h:0≤x∧x<256):IdOk (mkId x):=fun i=>by
 unfold mkId
 split
 ·decide
 ·split
  ·exact h
  ·decide
abbrev idR (x:Int):List Value:=(idL (mkId x)).map (Value.int .u8)
theorem idR_set (x:Int):(z16.set 0 (.int .u8 94)).set 15 (.int .u8 x)=idR x:=rfl
theorem idR_info (x:Int):(Tryz.prog.info? 37).map (·.size)=some (idR x).toArray.size:=by rw[idInfo];rfl
theorem idR_one (x:Int):(idR x).toArray.all (·.oneCell')=true:=by
 rw[Array.all_eq_true_iff_forall_mem]
 intro v hv
 simp only[List.mem_toArray,List.mem_map]at hv
 obtain⟨i,_,rfl⟩:=hv
 rfl
attribute [local irreducible] wpList Code.wp
theorem mid_any (n:Int)(w:World):
 Calls Tryz.prog 40 #[.int .i64 n] w fun e w'=> ∃x:Int,(0≤x∧x<5)∧e= .returned (idV (mkId x))∧Below w.heap.size w w':=by
 obtain⟨j,hj,hj5⟩:=below_nat n 5 (by decide)
 have HNum:=yH fun w=>number_nat n 5 j w (by decide) (by decide) hj.out
 clear hj
 have R0:=yH (show Blk ((w.alloc (.cells z16.toArray 37)).alloc (.cells z16.toArray 37)) w.heap.size z16 37 from(Blk.new w z16 _).alloc _)
 have Q0:=yH (show Blk ((w.alloc (.cells z16.toArray 37)).alloc (.cells z16.toArray 37)) (w.heap.size+1) z16 37 from Blk.new_at _ _ _ _ (by simp))
 have b0:=yH (((Below.refl w.heap.size w).alloc (yR _) (.cells z16.toArray 37)).alloc (by simp) (.cells z16.toArray 37))
 have S0:=yH (show((w.alloc (.cells z16.toArray 37)).alloc (.cells z16.toArray 37)).heap.size=w.heap.size+2 by simp)
 go_enter Tryz.func40,Tryz.ntmps40
 go_upto_region 2 with fail
 generalize (w.alloc (.cells z16.toArray 37)).alloc (.cells z16.toArray 37)=w0 at*
 have c0:=Q0.out.cell (i:=0) rfl
 have f0:=Q0.out.frozen 0
 have Q1:=yH (Q0.out.set_ 0 (.int .u8 94))
 have c15:=Q1.out.cell (i:=15) rfl
 have f15:=Q1.out.frozen 15
 go_upto_region 3 with(first|(go_at_call 20;(with_reducible refine(HNum.out _).mono ?_);rintro e w' ⟨rfl,rfl⟩)|fail)
 have Rz:=yH (show Blk _ (w.heap.size+1) (idR (j:Int)) 37 from idR_set (j:Int)▸Q1.out.set_ 15 (.int .u8 (j:Int)))
 have Bz:=yH ((b0.out.setCell (p:=⟨w.heap.size+1,0,none⟩) (Nat.le_succ _) (.int .u8 94)).setCell (p:=⟨w.heap.size+1,15,none⟩) (Nat.le_succ _) (.int .u8 (j:Int)))
 have Z:=yH ((R0.out.far (p:=⟨w.heap.size+1,0,none⟩) (by simp) (.int .u8 94)).far (p:=⟨w.heap.size+1,15,none⟩) (by simp) (.int .u8 (j:Int)))
 generalize (w0.setCell ⟨w.heap.size+1,0,none⟩ (.int .u8 94)).setCell ⟨w.heap.size+1,15,none⟩ (.int .u8 (j:Int))=w1 at*
 go_wp2_with(first
  |((with_reducible apply at_slot 9);refine wpList_load_row rfl 37 (.tmp 3) rfl (w.heap.size+1) rfl 37 (idR (j:Int)).toArray (0,0) _ Rz.out Tryz.underlying37 rfl (idR_info _) ?_)
  |((with_reducible apply at_store (.tmp 2) (.tmp 9));refine wpList_store_row rfl 37 (.tmp 2) (.tmp 9) rfl w.heap.size (idR (j:Int)).toArray rfl rfl 37 _ Z.out (idR_info _) rfl (idR_one _) ?_)
  |fail)
 refine bodyPost_ret (v:= .agg (idR (j:Int)).toArray) (by exact results_cell_row Tryz.results40 _ _ w.heap.size 37 _ (0,0) _ rfl (setRow_heap _ w.heap.size _ _ _ (0,0) Z.out) Tryz.underlying37 rfl (idR_info _)) rfl ?_
 exact⟨(j:Int),⟨by omega,hj5⟩,rfl,below_setRow Bz.out (yR _) _⟩
theorem more_any (gq:Nat)(a:Option Addr)(len cap:Nat)(f:Nat→Int)(k:Nat)(w:World)(h:SeqIn w gq a len cap f k):
 Calls Tryz.prog 77 #[.pointer (some ⟨gq,0,none⟩)] w fun e w'=>e= .returned (.bool (decide (k<len)))∧Below w.heap.size w w':=by
 have c0:=h.1.cell (i:=0) rfl
 have c1:=h.1.cell (i:=1) rfl
 clear h
 go_enter Tryz.func77,Tryz.ntmps77
 go_wp2
 go_region
 go_wp2
 go_ret
 exact⟨by simp,(Below.refl _ _).drew⟩
end Mi
end Go.Proofs.YtiddkgcafpaekaaGreat
