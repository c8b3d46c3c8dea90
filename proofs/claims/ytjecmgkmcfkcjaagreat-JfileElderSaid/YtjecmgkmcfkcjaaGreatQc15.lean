/-
  Texts beneath the proof.
-/
import Derived.Test.YtjecmgkmcfkcjaaGreatQc14
import Derived.Test.YtjecmgkmcfkcjaaGreatQc10
set_option linter.unusedVariables false
set_option linter.unusedSimpArgs false
set_option maxRecDepth 100000
set_option maxHeartbeats 2000000
open Go.ChangeShapes Go.WideShapes Go.ChangeAt Go.RowKit
namespace Go.Proofs.YtjecmgkmcfkcjaaGreat
namespace Fb
open Bytes8 Fa
theorem rname_any (l:List Int)(hA:AllB l)(hmax:l.length≤9223372036854775807)(w:World):Calls Tryz.prog 197 #[.string (T l)] w fun e w'=>e= .returned (.bool (nmB l))∧w=w':=by
 have hsz:=T_size l
 have HI:=Lib.hid (index_at l hA)
 have HC:=Lib.hid fun j=>hA.at_ j
 have HN:=Lib.hid (fun j (hj:j<l.length) (h:okC (l.getD j 0)=false∨j=0∧isDig (l.getD j 0)=true)=>(by
  rcases h with h|⟨rfl,h⟩
  ·exact nmB_no hj h
  ·unfold nmB;rw[h];simp:nmB l=false))
 have HE:=Lib.hid (fun(h: ∀j,j<l.length→okC (l.getD j 0)=true∧(j=0→isDig (l.getD j 0)=false))=>(by
  rcases Nat.eq_zero_or_pos l.length with h0|h0
  ·obtain rfl:=List.eq_nil_of_length_eq_zero h0
   rfl
  ·unfold nmB
   rw[(h 0 h0).2 rfl,all_of fun j hj=>(h j hj).1]
   simp:nmB l=(decide (1≤l.length)&&decide (l.length≤64))))
 generalize hL:l.length=len at*
 have HL:=Lib.hid hL
 clear hL
 generalize T l=S at*
 go_enter Tryz.func197,Tryz.ntmps197
 go_wp2
 go_loop [3] (fun i=> ∃k:Nat,k≤len∧i= .int .i64 (k:Int)∧Hid (∀j,j<k→okC (l.getD j 0)=true∧(j=0→isDig (l.getD j 0)=false))) (fun i=>len-(intOf i).toNat)
 case atStart=>exact⟨0,by omega,rfl,Lib.hid fun j hj=>absurd hj (by omega)⟩
 case round=>
  obtain⟨k,hk,rfl,hall⟩:=hrel
  rcases Nat.lt_or_ge k len with hlt|hge
  ·have hidx:=HI.out k (by omega)
   have hin:(k:Int)<(len:Int):=by omega
   obtain⟨c1,c2⟩:=HC.out k
   have HNk:=Lib.hid (HN.out k (by omega))
   have HKk:=Lib.hid (fun(h:okC (l.getD k 0)=true∧(k=0→isDig (l.getD k 0)=false)) j (hj:j<k+1)=>(by
    rcases Nat.lt_or_ge j k with h1|h1
    ·exact hall.out j h1
    ·obtain rfl:j=k:=by omega
     exact h:okC (l.getD j 0)=true∧(j=0→isDig (l.getD j 0)=false)))
   clear hall
   generalize l.getD k 0=c at*
   have hgo:((48≤c∧c≤57∧0<k)∨(57<c∧65≤c∧c≤90)∨c=95)∧(okC c=true∧(k=0→isDig c=false))∨(c<48∨(48≤c∧c≤57∧k=0)∨(57<c∧c<65)∨(90<c∧c≠95))∧(okC c=false∨k=0∧isDig c=true):=by
    simp only[okC,isDig,isLet,Bool.or_eq_true,Bool.and_eq_true,decide_eq_true_eq,Bool.or_eq_false_iff,Bool.and_eq_false_iff,decide_eq_false_iff_not]
    omega
   rcases hgo with⟨hd,hok⟩|⟨hd,hok⟩
   ·have HK2:=Lib.hid (HKk.out hok)
    clear HNk HKk hok
    rcases hd with⟨d1,d2,d3⟩|⟨d1,d2,d3⟩|rfl
    all_goals
     go_wp2
     go_round
     case rel=>exact⟨k+1,by omega,by go_num,HK2⟩
     case measure=>simp[intOf];omega
   ·have HN2:=Lib.hid (HNk.out hok)
    clear HKk HNk hok
    rcases hd with d1|⟨d1,d2,d3⟩|⟨d1,d2⟩|⟨d1,d2⟩
    ·go_wp2
     go_ret
     exact⟨ret_bool HN2.out.symm,rfl⟩
    ·have hk0: ¬(0:Int)<(k:Int):=by omega
     have hk1: ¬0<k:=by omega
     clear d3
     go_wp2
     go_ret
     exact⟨ret_bool HN2.out.symm,rfl⟩
    ·go_wp2
     go_ret
     exact⟨ret_bool HN2.out.symm,rfl⟩
    ·have h95:(c==95)=false:=by simpa using d2
     clear d2
     go_wp2
     go_ret
     exact⟨ret_bool HN2.out.symm,rfl⟩
  ·obtain rfl:k=len:=by omega
   have HYk:=Lib.hid (HE.out (fun j hj=>hall.out j (by have:=HL.out;omega)))
   clear hall
   have h3:k=0∨(1≤k∧k≤64)∨64<k:=by omega
   rcases h3 with rfl|⟨h1,h2⟩|h1
   ·have HY2:=Lib.hid (HYk.out.trans (show(decide (1≤0)&&decide (0≤64))=false from rfl))
    clear HYk
    go_wp2
    go_ret
    exact⟨ret_bool HY2.out.symm,rfl⟩
   ·have HY2:=Lib.hid (HYk.out.trans (show(decide (1≤k)&&decide (k≤64))=true by rw[decide_eq_true h1,decide_eq_true h2];rfl))
    clear HYk
    have hdd:decide ((k:Int)≤64)=true:=by simp;omega
    go_wp2
    go_ret
    exact⟨ret_bool HY2.out.symm,rfl⟩
   ·have HY2:=Lib.hid (HYk.out.trans (show(decide (1≤k)&&decide (k≤64))=false by rw[decide_eq_false (show ¬k≤64 by omega)];simp))
    clear HYk
    have hdd:decide ((k:Int)≤64)=false:=by simp;omega
    go_wp2
    go_ret
    exact⟨ret_bool HY2.out.symm,rfl⟩
abbrev box (n v:List Int):Obj:= .cells #[.string (T n),.string (T v)] 58
end Fb
namespace Fb
open Bytes8 Fa
theorem isDigit_any (c:Int)(w:World):Calls Tryz.prog 230 #[.int .u8 c] w fun e w'=>e= .returned (.bool (isDig c))∧w=w':=by
 by_cases h1:48≤c<;>by_cases h2:c≤57
 all_goals
  go_enter Tryz.func230,Tryz.ntmps230
  go_wp2
  go_ret
  exact⟨by simp[isDig,h1,h2],rfl⟩
theorem isLetter_any (c:Int)(w:World):Calls Tryz.prog 231 #[.int .u8 c] w fun e w'=>e= .returned (.bool (isLet c))∧w=w':=by
 by_cases h1:65≤c<;>by_cases h2:c≤90
 all_goals
  go_enter Tryz.func231,Tryz.ntmps231
  go_wp2
  go_ret
  exact⟨by simp[isLet,h1,h2],rfl⟩
theorem name_any (l:List Int)(hA:AllB l)(w:World):Calls Tryz.prog 220 #[.string (T l)] w fun e w'=>e= .returned (.bool (nmB l))∧w=w':=by
 have hsz:=T_size l
 have HI:=Lib.hid (index_at l hA)
 have h0:(T l).toList.isEmpty=decide (l.length=0):=by
  rw[T_toList];cases l<;>rfl
 by_cases hlen:l.length=0
 ·have he:nmB l=false:=by
   obtain rfl:=List.eq_nil_of_length_eq_zero hlen
   rfl
  rw[he]
  rw[decide_eq_true hlen]at h0
  generalize T l=S at*
  clear HI
  go_enter Tryz.func220,Tryz.ntmps220
  go_wp2
  go_ret
  exact⟨rfl,rfl⟩
 rw[decide_eq_false hlen]at h0
 by_cases h64:64<l.length
 ·have he:nmB l=false:=by
   cases h:nmB l with
   |false=>rfl
   |true=>have:=nmB_len h;omega
  rw[he]
  generalize T l=S at*
  clear HI
  go_enter Tryz.func220,Tryz.ntmps220
  go_wp2
  go_ret
  exact⟨rfl,rfl⟩
 have HI0: ∀w,(Instr.index 9 (.string (T l)) (.int .i64 0)).run Tryz.prog w= .ok (.int .u8 (l.getD 0 0)) w:=HI.out 0 (by omega)
 have HD:=Lib.hid fun w=>isDigit_any (l.getD 0 0) w
 cases hd:isDig (l.getD 0 0)with
 |true=>
  have he:nmB l=false:=by unfold nmB;rw[hd];simp
  rw[he]
  rw[hd]at HD
  clear HI hd
  generalize l.getD 0 0=c0 at*
  generalize T l=S at*
  go_enter Tryz.func220,Tryz.ntmps220
  go_wp2_with(go_at_call 230;(with_reducible refine(HD.out _).mono ?_);rintro e w' ⟨rfl,rfl⟩)
  go_ret
  exact⟨rfl,rfl⟩
 |false=>
  have HY:=Lib.hid (fun h=>nmB_yes (l:=l) (by omega) (by omega) hd h)
  have HN:=Lib.hid (fun j hj h=>nmB_no (l:=l) (j:=j) hj h)
  rw[hd]at HD
  clear hd
  have HC:=Lib.hid fun j=>hA.at_ j
  generalize hL:l.length=len at*
  have HL:=Lib.hid hL
  clear hL
  generalize hc:l.getD 0 0=c0 at*
  clear hc
  generalize T l=S at*
  go_enter Tryz.func220,Tryz.ntmps220
  go_wp2_with(go_at_call 230;(with_reducible refine(HD.out _).mono ?_);rintro e w' ⟨rfl,rfl⟩)
  go_loop [18] (fun i=> ∃k:Nat,k≤len∧i= .int .i64 (k:Int)∧Hid (∀j,j<k→okC (l.getD j 0)=true)) (fun i=>len-(intOf i).toNat)
  case atStart=>exact⟨0,by omega,rfl,Lib.hid fun j hj=>absurd hj (by omega)⟩
  case round=>
   obtain⟨k,hk,rfl,hall⟩:=hrel
   rcases Nat.lt_or_ge k len with hlt|hge
   ·have hidx:=HI.out k (by omega)
    have hin:(k:Int)<(len:Int):=by omega
    have hk1:k≤64:=by omega
    have HDk:=Lib.hid fun w=>isDigit_any (l.getD k 0) w
    have HLk:=Lib.hid fun w=>isLetter_any (l.getD k 0) w
    obtain⟨c1,c2⟩:=HC.out k
    have HNk:=Lib.hid (HN.out k (by omega))
    have HKk:=Lib.hid (fun(h:okC (l.getD k 0)=true) j (hj:j<k+1)=>(by
     rcases Nat.lt_or_ge j k with h1|h1
     ·exact hall.out j h1
     ·obtain rfl:j=k:=by omega
      exact h:okC (l.getD j 0)=true))
    clear hall
    generalize l.getD k 0=c at*
    have hgo:okC c=true∧(isDig c=true∨isDig c=false∧isLet c=true∨isDig c=false∧isLet c=false∧c=95)∨okC c=false∧isDig c=false∧isLet c=false∧c≠95:=by
     unfold okC
     cases isDig c<;>cases isLet c<;>by_cases h3:c=95<;>simp[h3]
    rcases hgo with⟨hok,hd|⟨hd,hl⟩|⟨hd,hl,rfl⟩⟩|⟨hok,hd,hl,h95⟩
    ·rw[hd]at HDk
     clear hd
     have HKk:=Lib.hid (HKk.out hok)
     clear HNk hok
     go_wp2_with(go_at_call 230;(with_reducible refine(HDk.out _).mono ?_);rintro e w' ⟨rfl,rfl⟩)
     go_round
     case rel=>exact⟨k+1,by omega,by go_num,HKk⟩
     case measure=>simp[intOf];omega
    ·rw[hd]at HDk
     rw[hl]at HLk
     clear hd hl
     have HKk:=Lib.hid (HKk.out hok)
     clear HNk hok
     go_wp2_with(first|(go_at_call 230;(with_reducible refine(HDk.out _).mono ?_);rintro e w' ⟨rfl,rfl⟩)|(go_at_call 231;(with_reducible refine(HLk.out _).mono ?_);rintro e w' ⟨rfl,rfl⟩))
     go_round
     case rel=>exact⟨k+1,by omega,by go_num,HKk⟩
     case measure=>simp[intOf];omega
    ·rw[hd]at HDk
     rw[hl]at HLk
     clear hd hl
     have HKk:=Lib.hid (HKk.out hok)
     clear HNk hok
     go_wp2_with(first|(go_at_call 230;(with_reducible refine(HDk.out _).mono ?_);rintro e w' ⟨rfl,rfl⟩)|(go_at_call 231;(with_reducible refine(HLk.out _).mono ?_);rintro e w' ⟨rfl,rfl⟩))
     go_round
     case rel=>exact⟨k+1,by omega,by go_num,HKk⟩
     case measure=>simp[intOf];omega
    ·rw[hd]at HDk
     rw[hl]at HLk
     clear hd hl
     have HNk:=Lib.hid (HNk.out hok)
     clear HKk hok
     go_wp2_with(first|(go_at_call 230;(with_reducible refine(HDk.out _).mono ?_);rintro e w' ⟨rfl,rfl⟩)|(go_at_call 231;(with_reducible refine(HLk.out _).mono ?_);rintro e w' ⟨rfl,rfl⟩))
     go_ret
     exact⟨ret_bool HNk.out.symm,rfl⟩
   ·obtain rfl:k=len:=by omega
    have HYk:=Lib.hid (HY.out (fun j hj=>hall.out j (by have:=HL.out;omega)))
    clear hall
    go_wp2
    go_ret
    exact⟨ret_bool HYk.out.symm,rfl⟩
end Fb
namespace Fc
open Bytes8 Blk8 Fa Fb
theorem add_run (a b:List Int)(h:a.length+b.length≤1000000)(w:World):(Op.stringOp .add (T a) (T b)).run Tryz.prog w= .ok (.string (T (a++b))) w:=by
 rw[run_string_add_sum w _ _ (by rw[T_size,T_size];omega),T_app]
theorem rpayload_any (n v:List Int)(hmax:n.length+v.length≤900000)(w:World):
 Calls Tryz.prog 31 #[pv n v] w fun e w'=>e= .returned (.string (T (pay n v)))∧w.alloc (box n v)=w':=by
 have h1:=add_run n [61] (by simp;omega)
 have h2:=add_run (n++ [61]) v (by simp;omega)
 rw[←T_one]at h1
 have hp:pay n v=n++ [61]++v:=rfl
 rw[←hp]at h2
 dsimp only[pv,box]at*
 generalize T n=S at*
 generalize T v=V at*
 generalize T (n++ [61])=S1 at*
 generalize T (pay n v)=S2 at*
 clear hp
 go_enter Tryz.func31,Tryz.ntmps31
 go_wp2
 go_ret
 exact⟨rfl,rfl⟩
def joinL (n v:List Int):List Int:=if flawI n v=0 then pay n v else []
theorem flaw_len {n v:List Int}(h:flawI n v=0):n.length≤64∧v.length≤256:=by
 unfold flawI at h
 by_cases hn:nmB n=true
 ·rw[if_pos hn]at h
  have:=(nmB_len hn).2
  by_cases hv:256<v.length
  ·rw[if_pos hv]at h;cases h
  ·omega
 ·rw[if_neg hn]at h;cases h
def Joined (n v:List Int)(w:World)(e:Ending)(w':World):Prop:= ∃A c,e= .returned (.tuple #[.slice A (joinL n v).length c,.int .i64 (flawI n v)])∧Bytes w' A (joinL n v)∧Grew w w'
theorem rjoin_any (n v:List Int)(hn:AllB n)(hv:AllB v)(hmax:n.length≤9223372036854775807)(w:World):Calls Tryz.prog 159 #[pv n v] w (Joined n v w):=by
 have HN:=Lib.hid fun w=>rname_any n hn hmax w
 have hsz:=T_size v
 by_cases h:flawI n v=0
 ·have hL:joinL n v=pay n v:=if_pos h
  have hlen:=flaw_len h
  have hnm:nmB n=true:=by
   cases hnm:nmB n with
   |true=>rfl
   |false=>unfold flawI at h;rw[hnm]at h;cases h
  have HP:=Lib.hid fun w=>rpayload_any n v (by omega) w
  obtain⟨cf,mk,hmk⟩:=text_conv (pay n v) (pay_all hn hv)
  have hcv:=fun w=>(hmk w).1
  have HB:=Lib.hid fun w=>(hmk w).2
  clear hmk
  unfold Joined
  rw[hL,h]
  rw[hnm]at HN
  have hv256: ¬(256:Int)<(v.length:Int):=by omega
  dsimp only[pv,box]at*
  generalize T n=S at*
  generalize T v=V at*
  generalize T (pay n v)=P at*
  generalize pay n v=p at*
  generalize hpl:p.length=pl at*
  generalize v.length=vl at*
  clear h hL hlen hnm
  go_enter Tryz.func159,Tryz.ntmps159
  go_wp2_with(first|(go_at_call 197;(with_reducible refine(HN.out _).mono ?_);rintro e w' ⟨rfl,rfl⟩)|(go_at_call 31;(with_reducible refine(HP.out _).mono ?_);rintro e w' ⟨rfl,rfl⟩))
  go_ret2
  refine⟨_,_,rfl,(HB.out _).1 _ (by simp),?_⟩
  exact((Grew.refl w).alloc _).alloc _ |>.trans (HB.out _).2
 ·have hL:joinL n v=[]:=if_neg h
  have hG:=Grew.boxed w (box n v)
  unfold Joined
  rw[hL]
  cases hnm:nmB n with
  |false=>
   have hF:flawI n v=1:=by unfold flawI;rw[hnm];rfl
   rw[hF]
   rw[hnm]at HN
   dsimp only[pv,box]at*
   generalize T n=S at*
   generalize T v=V at*
   clear hL h hF hnm
   go_enter Tryz.func159,Tryz.ntmps159
   go_wp2_with(go_at_call 197;(with_reducible refine(HN.out _).mono ?_);rintro e w' ⟨rfl,rfl⟩)
   go_ret2
   exact⟨none,0,rfl,Bytes.nil _ _,hG⟩
  |true=>
   have h256:256<v.length:=by
    rcases Nat.lt_or_ge 256 v.length with h1|h1
    ·exact h1
    ·exact absurd (by unfold flawI;rw[if_pos hnm,if_neg (by omega)]) h
   have hF:flawI n v=21:=by unfold flawI;rw[if_pos hnm,if_pos h256]
   rw[hF]
   rw[hnm]at HN
   dsimp only[pv,box]at*
   generalize T n=S at*
   generalize T v=V at*
   generalize v.length=vl at*
   clear hL h hF hnm
   go_enter Tryz.func159,Tryz.ntmps159
   go_wp2_with(go_at_call 197;(with_reducible refine(HN.out _).mono ?_);rintro e w' ⟨rfl,rfl⟩)
   go_ret2
   exact⟨none,0,rfl,Bytes.nil _ _,hG⟩
end Fc
namespace Fc
end Fc
namespace Fo
open Bytes8 Fa Fb Fc
def lessP (n v m u:List Int):Bool:=ltL (pay n v) (pay m u)
theorem rpayload_grew (n v:List Int)(h:n.length+v.length≤900000)(w:World):
 Calls Tryz.prog 31 #[pv n v] w fun e w'=>e= .returned (.string (T (pay n v)))∧Grew w w':=
 (rpayload_any n v h w).mono (by rintro e w' ⟨rfl,rfl⟩;exact⟨rfl,Grew.boxed _ _⟩)
end Fo
namespace Seq8
open Bytes8 Blk8 Fa Fb Numb Rows2
def SeqIn (w:World)(gq:Nat)(a:Option Addr)(len cap:Nat)(f:Nat→Int)(k:Nat):Prop:=
 Blk w gq [.slice a len cap,.int .i64 (k:Int)] 55∧InInts .i64 w a len f∧(0<len→ ∀b off,a=some ⟨b,off,none⟩→b≠gq)∧k≤len∧len≤9223372036854775807
theorem SeqIn.below {w w':World}{gq:Nat}{a:Option Addr}{len cap:Nat}{f:Nat→Int}{k:Nat}(h:SeqIn w gq a len cap f k)(hb:Below w.heap.size w w'):SeqIn w' gq a len cap f k:=
 ⟨h.1.below hb h.1.lt,h.2.1.below hb,h.2.2⟩
theorem ints_keptB {kk:IntKind}{w w':World}{gq:Nat}{a:Option Addr}{len:Nat}{f:Nat→Int}(h:InInts kk w a len f)(hk:KeptB w.heap.size gq w w')(hne:0<len→ ∀b off,a=some ⟨b,off,none⟩→b≠gq):InInts kk w' a len f:=fun i hi=>by
 obtain⟨b,off,e,h1,h2,h3⟩:=h i hi
 exact⟨b,off,e,Nat.lt_of_lt_of_le h1 hk.size,(World.cell?_of_block (hk.block b h1 (hne (by omega) b off e))).trans h2,h3⟩
set_option maxRecDepth 100000 in
theorem seqN_any (gq:Nat)(a:Option Addr)(len cap:Nat)(f:Nat→Int)(k:Nat)(b:Int)(w:World)(hb:1≤b)(hb2:b≤1000000)(h:SeqIn w gq a len cap f k):
 Calls Tryz.prog 84 #[.pointer (some ⟨gq,0,none⟩),.int .i64 b] w fun e w'=> ∃(r k':Nat),e= .returned (.int .i64 (r:Int))∧(r:Int)<b∧SeqIn w' gq a len cap f k'∧KeptB w.heap.size gq w w':=by
 obtain⟨hB,hI,hne,hk,hl⟩:=h
 have HB:=Lib.hid hB
 have c0:=HB.out.cell (i:=0) rfl
 have c1:=HB.out.cell (i:=1) rfl
 have f1:=HB.out.frozen 1
 by_cases hlt:k<len
 ·obtain⟨bb,off,rfl,hbl,hc,hwf⟩:=hI k hlt
  have hbq:=hne (by omega) bb off rfl
  obtain⟨r,hr,hrb⟩:=below_nat (f k) b hb
  have HNum:=Lib.hid fun w=>number_nat (f k) b r w hb (by omega) hr.out
  have hkk: ¬(len:Int)≤(k:Int):=by omega
  have hset: ∀v,(w.setCell ⟨gq,1,none⟩ v).cell? ⟨bb,off+k,none⟩=some (.int .i64 (f k)):=fun v=>by
   rw[←hc];exact World.cell?_of_block (Below.heap_setCell _ _ _ _ hbq)
  have HI:=Lib.hid hI
  have HNe:=Lib.hid hne
  have hm:Tryz.prog.follows .mixedOrders=true:=by kernel_rfl
  clear hI hne hB hr hwf
  generalize f k=x at*
  go_enter Tryz.func84,Tryz.ntmps84
  go_wp2_with fail
  go_quiet (fail)
  obtain⟨nq_1,hnq⟩: ∃x,x=nq:=⟨_,rfl⟩
  rw[←hnq]
  clear hnq nq
  go_wp2_with fail
  go_quiet ((go_at_call 54;exact quiet_kept (HNum.out _)))
  have HK:=Lib.hid ((((KeptB.refl w.heap.size gq w).drewN nq_1).setCell (Or.inr rfl) (.int .i64 ((k:Int)+1)) (p:=⟨gq,1,none⟩)).drewN nq)
  go_wp2
  go_ret
  refine⟨r,k+1,rfl,hrb,⟨?_,ints_keptB HI.out HK.out HNe.out,HNe.out,by omega,hl⟩,HK.out⟩
  exact((HB.out.drewN _).set_ 1 _).drewN _
 ·have hkk:(len:Int)≤(k:Int):=by omega
  have HI:=Lib.hid hI
  have HNe:=Lib.hid hne
  clear hI hne hB
  go_enter Tryz.func84,Tryz.ntmps84
  go_wp2_with fail
  go_quiet (fail)
  go_wp2
  go_ret
  refine⟨0,k,rfl,by omega,⟨HB.out.drewN _,HI.out,HNe.out,hk,hl⟩,(KeptB.refl _ _ _).drewN _⟩
abbrev nameLs:List (List Int):=[[65],[66],[77,69,83,83,65,71,69],[95,80,73,68],[88,95,49],[80,82,73,79,82,73,84,89]]
abbrev valueLs:List (List Int):=[[],[48],[49],[50,50],[97,61,98],[111,110,101,10,116,119,111],[0,255],[116,97,98,9,104,101,114,101],[108,111,110,103,32,108,111,110,103,32,108,111,110,103,32,108,111,110,103,32,108,111,110,103,32,108,111,110,103,32,108,111,110,103],[126,127,128]]
def texts (ls:List (List Int)):List Value:=ls.map fun l=> .string (T l)
theorem names_ok: ∀n∈nameLs,AllB n∧nmB n=true:=by
 intro n hn
 have h:nameLs.all (fun n=>n.all (fun x=>decide (0≤x)&&decide (x<256))&&nmB n)=true:=by decide+kernel
 have:=List.all_eq_true.1 h n hn
 simp only[Bool.and_eq_true]at this
 exact⟨Ff.small_all this.1,this.2⟩
theorem values_ok: ∀v∈valueLs,AllB v∧v.length≤256:=by
 intro n hn
 have h:valueLs.all (fun n=>n.all (fun x=>decide (0≤x)&&decide (x<256))&&decide (n.length≤256))=true:=by decide+kernel
 have:=List.all_eq_true.1 h n hn
 simp only[Bool.and_eq_true,decide_eq_true_eq]at this
 exact⟨Ff.small_all this.1,this.2⟩
theorem flaw_ok {n v:List Int}(hn:nmB n=true)(hv:v.length≤256):flawI n v=0:=by
 unfold flawI;rw[if_pos hn,if_neg (by omega)]
theorem names_any (w:World):Calls Tryz.prog 20 #[] w fun e w'=>e= .returned (.slice (some ⟨w.heap.size,0,none⟩) 6 6)∧Blk w' w.heap.size (texts nameLs) 9∧Below w.heap.size w w'∧w'.heap.size=w.heap.size+1:=by
 have h:texts nameLs=[.string {data:= #[65]},.string {data:= #[66]},.string {data:= #[77,69,83,83,65,71,69]},.string {data:= #[95,80,73,68]},.string {data:= #[88,95,49]},.string {data:= #[80,82,73,79,82,73,84,89]}]:=rfl
 rw[h]
 go_enter Tryz.func20,Tryz.ntmps20
 go_wp2
 go_ret
 exact⟨rfl,Blk.new w _ _,(Below.refl _ _).alloc (Nat.le_refl _) _,by simp⟩
set_option maxRecDepth 10000 in
theorem values_any (w:World):Calls Tryz.prog 21 #[] w fun e w'=>e= .returned (.slice (some ⟨w.heap.size,0,none⟩) 10 10)∧Blk w' w.heap.size (texts valueLs) 9∧Below w.heap.size w w'∧w'.heap.size=w.heap.size+1:=by
 have h:texts valueLs=[.string {data:= #[]},.string {data:= #[48]},.string {data:= #[49]},.string {data:= #[50,50]},.string {data:= #[97,61,98]},.string {data:= #[111,110,101,10,116,119,111]},.string {data:= #[0,255]},.string {data:= #[116,97,98,9,104,101,114,101]},.string {data:= #[108,111,110,103,32,108,111,110,103,32,108,111,110,103,32,108,111,110,103,32,108,111,110,103,32,108,111,110,103,32,108,111,110,103]},.string {data:= #[126,127,128]}]:=rfl
 rw[h]
 go_enter Tryz.func21,Tryz.ntmps21
 go_wp2
 go_ret
 exact⟨rfl,Blk.new w _ _,(Below.refl _ _).alloc (Nat.le_refl _) _,by simp⟩
end Seq8
namespace SeqP
open Bytes8 Blk8 Fa Fb Rows2 Seq8
theorem names_at (w:World)(g:Nat)(hg:w.heap.size=g):Calls Tryz.prog 20 #[] w fun e w'=>e= .returned (.slice (some ⟨g,0,none⟩) 6 6)∧Blk w' g (texts nameLs) 9∧Below w.heap.size w w'∧w'.heap.size=g+1:=by
 subst hg;exact names_any w
theorem values_at (w:World)(g:Nat)(hg:w.heap.size=g):Calls Tryz.prog 21 #[] w fun e w'=>e= .returned (.slice (some ⟨g,0,none⟩) 10 10)∧Blk w' g (texts valueLs) 9∧Below w.heap.size w w'∧w'.heap.size=g+1:=by
 subst hg;exact values_any w
theorem text_at {w:World}{g:Nat}{ls:List (List Int)}{T0:TypeId}(h:Blk w g (texts ls) T0)(i:Nat)(hi:i<ls.length):w.cell? ⟨g,i,none⟩=some (.string (T (ls.getD i []))):=by
 refine h.cell ?_
 unfold texts
 rw[List.getElem?_map,List.getElem?_eq_getElem hi]
 simp[List.getElem?_eq_getElem hi]
theorem text_is {w:World}{g:Nat}{ls:List (List Int)}{T0:TypeId}(h:Blk w g (texts ls) T0)(i:Nat)(hi:i<ls.length){nm:List Int}(hn:nm=ls.getD i []):w.cell? ⟨g,i,none⟩=some (.string (T nm)):=hn▸text_at h i hi
theorem getD_mem {ls:List (List Int)}{i:Nat}(hi:i<ls.length):ls.getD i []∈ls:=by
 rw[List.getD_eq_getElem?_getD,List.getElem?_eq_getElem hi]
 exact List.getElem_mem hi
def Paired (gq:Nat)(a:Option Addr)(len cap:Nat)(f:Nat→Int)(w:World)(e:Ending)(w':World):Prop:=
 ∃n v k',e= .returned (pv n v)∧(AllB n∧AllB v∧flawI n v=0)∧SeqIn w' gq a len cap f k'∧KeptB w.heap.size gq w w'
set_option maxRecDepth 100000 in
theorem pair_any (gq:Nat)(a:Option Addr)(len cap:Nat)(f:Nat→Int)(k:Nat)(w:World)(h:SeqIn w gq a len cap f k):
 Calls Tryz.prog 160 #[.pointer (some ⟨gq,0,none⟩)] w (Paired gq a len cap f w):=by
 have hgq:=h.1.lt
 have B0:=Lib.hid ((Below.refl w.heap.size w).alloc (Nat.le_refl _) (.cells #[.string {data:= #[]},.string {data:= #[]}] 58))
 have S0:=Lib.hid (h.below B0.out)
 have R0:=Lib.hid (Blk.new w [.string {data:= #[]},.string {data:= #[]}] 58)
 have HI:=Lib.hid h.2.1
 have HNe:=Lib.hid h.2.2.1
 clear h
 unfold Paired
 have hm:Tryz.prog.follows .mixedOrders=true:=by kernel_rfl
 go_enter Tryz.func160,Tryz.ntmps160
 go_wp2_with fail
 go_region_with (first
  |(go_at_call 20;(with_reducible refine(names_at _ (w.heap.size+1) (by simp)).mono ?_);rintro e w1 ⟨rfl,hN,hb1,hs1⟩;have N1:=Lib.hid hN;have S1:=Lib.hid (SeqIn.below (w:=(w.alloc (.cells #[.string {data:= #[]},.string {data:= #[]}] 58)).drew) S0.out hb1);have R1:=Lib.hid (Blk.below (w:=(w.alloc (.cells #[.string {data:= #[]},.string {data:= #[]}] 58)).drew) R0.out hb1 R0.out.lt);have B1:=Lib.hid (B0.out.drew.trans (hb1.mono B0.out.size));clear hN hb1)
  |(go_at_call 84;(with_reducible refine(seqN_any gq a len cap f k 6 w1 (by decide) (by decide) S1.out).mono ?_);rintro e w2 ⟨i,k2,rfl,hi,hS2,hK2⟩;have S2:=Lib.hid hS2;have N2:=Lib.hid (Blk.keptB N1.out hK2 N1.out.lt (by omega));have R2:=Lib.hid (Blk.keptB R1.out hK2 R1.out.lt (by omega));have K2:=Lib.hid ((KeptB.of_below (g:=gq) B1.out).trans (hK2.mono B1.out.size));obtain⟨nm,hnm⟩: ∃nm,nm=nameLs.getD i []:=⟨_,rfl⟩;have HNm:=Lib.hid hnm;clear hnm;have hi6:i<nameLs.length:=(by simp;omega);have HI6:=Lib.hid hi6;clear hi6;have x2:=text_is N2.out i HI6.out HNm.out;clear hS2 hK2)
  |(go_at_call 21;(with_reducible refine(values_at _ w2.heap.size rfl).mono ?_);rintro e w3 ⟨rfl,hV,hb3,hs3⟩;have V3:=Lib.hid hV;have S3:=Lib.hid (SeqIn.below S2.out hb3);have R3:=Lib.hid (R2.out.below hb3 R2.out.lt);have N3:=Lib.hid (N2.out.below hb3 N2.out.lt);have K3:=Lib.hid (K2.out.trans (KeptB.of_below (hb3.mono K2.out.size)));have x3:=text_is N3.out i HI6.out HNm.out;clear hV hb3)
  |(go_at_call 84;(with_reducible refine(seqN_any gq a len cap f k2 10 w3 (by decide) (by decide) S3.out).mono ?_);rintro e w4 ⟨j,k4,rfl,hj,hS4,hK4⟩;have S4:=Lib.hid hS4;have N4:=Lib.hid (Blk.keptB N3.out hK4 N3.out.lt (by omega));have R4:=Lib.hid (Blk.keptB R3.out hK4 R3.out.lt (by omega));have V4:=Lib.hid (Blk.keptB V3.out hK4 V3.out.lt (by have:=K2.out.size;omega));have K4:=Lib.hid (K3.out.trans (hK4.mono K3.out.size));have x4:=text_is N4.out i HI6.out HNm.out;obtain⟨vl,hvl⟩: ∃vl,vl=valueLs.getD j []:=⟨_,rfl⟩;have HVl:=Lib.hid hvl;clear hvl;have hj10:j<valueLs.length:=(by simp;omega);have HJ10:=Lib.hid hj10;clear hj10;have y4:=text_is V4.out j HJ10.out HVl.out;have f0:=R4.out.frozen 0;have f1:=R4.out.frozen 1;have c0:=R4.out.cell (i:=0) rfl;have c1:=R4.out.cell (i:=1) rfl;clear hS4 hK4))
 all_goals
  go_wp2
  obtain⟨n1,n2⟩:=names_ok nm (by rw[HNm.out];exact getD_mem HI6.out)
  obtain⟨v1,v2⟩:=values_ok vl (by rw[HVl.out];exact getD_mem HJ10.out)
  have HK:=(K4.out.setCell (p:=⟨w.heap.size,0,none⟩) (Or.inl (Nat.le_refl _)) (.string (T nm))).setCell (p:=⟨w.heap.size,1,none⟩) (Or.inl (Nat.le_refl _)) (.string (T vl))
  refine bodyPost_ret (v:=pv nm vl) (by simp[results,Tryz.results160,go_sem,c0,c1]) rfl ⟨nm,vl,k4,rfl,⟨n1,v1,flaw_ok n2 v2⟩,⟨?_,ints_keptB HI.out HK HNe.out,S4.out.2.2⟩,HK⟩
  exact(S4.out.1.far (p:=⟨w.heap.size,0,none⟩) (show gq≠w.heap.size by omega) _).far (p:=⟨w.heap.size,1,none⟩) (show gq≠w.heap.size by omega) _
end SeqP
namespace Fsp
open Bytes8 Blk8 Fa Fb OwnE
theorem get_T (l:List Int)(hA:AllB l)(i:Nat)(hi:i<l.length):((T l)[i]! ==(61:UInt8))=decide (l.getD i 0=61):=by
 have hsz:i<(T l).size:=by rw[T_size];exact hi
 have hlen:i<(T l).toList.length:=by rw[T_toList,List.length_map];exact hi
 have e0:(T l)[i]! =(T l)[i]'hsz:=getElem!_pos (T l) i hsz
 have e1:((T l)[i]'hsz)=(T l).toList[i]'hlen:=by
  have:(T l).toList=(T l).data.toList:=ByteArray.toList_eq _
  simp only[this]
  rfl
 have e2:(T l).toList[i]'hlen=(l[i]).toNat.toUInt8:=by simp only[T_toList,List.getElem_map]
 have hv:=hA l[i] (List.getElem_mem hi)
 have e3:l.getD i 0=l[i]:=by simp[List.getElem?_eq_getElem hi]
 rw[e0,e1,e2,e3]
 by_cases h:l[i]=61
 ·simp[h]
 ·have:(l[i]).toNat.toUInt8≠(61:UInt8):=fun e=>h (by
   have:=congrArg UInt8.toNat e
   simp at this
   omega)
  simp[h,this]
def idxI (l:List Int):Int:=if cutI l<l.length then(cutI l:Int)else -1
theorem first_cut (l:List Int)(hA:AllB l):firstIdx (T l) 61=idxI l:=by
 unfold firstIdx idxI
 rw[T_size]
 by_cases h:cutI l<l.length
 ·rw[if_pos h]
  have:(List.range l.length).find? (fun i=>(T l)[i]! ==(61:UInt8))=some (cutI l):=by
   rw[List.find?_range_eq_some]
   refine⟨?_,List.mem_range.2 h,fun j hj=>?_⟩
   ·show((T l)[cutI l]! ==(61:UInt8))=true
    rw[get_T l hA _ h,cutI_at h];rfl
   ·show(!((T l)[j]! ==(61:UInt8)))=true
    rw[get_T l hA _ (by omega),decide_eq_false (cutI_before hj)];rfl
  rw[this]
 ·rw[if_neg h]
  have:(List.range l.length).find? (fun i=>(T l)[i]! ==(61:UInt8))=none:=by
   rw[List.find?_range_eq_none]
   intro j hj
   show(!((T l)[j]! ==(61:UInt8)))=true
   rw[get_T l hA _ hj,decide_eq_false (cutI_before (by have:=cutI_le l;omega))];rfl
  rw[this]
theorem indexByte_any (l:List Int)(hA:AllB l)(w:World):
 Calls Tryz.prog 235 #[.string (T l),.int .u8 61] w fun e w'=>e= .returned (.int .i64 (idxI l))∧w=w':=by
 have hr: ∀w,(Extern.BytealgIndexByte.indexByte #[.string (T l),.int .u8 61]).run Tryz.prog w= .ok (.int .i64 (idxI l)) w:=fun w=>by
  rw[run_indexByte_string]
  show Result.ok (Value.int .i64 (firstIdx (T l) 61)) w=_
  rw[first_cut l hA]
 generalize T l=S at*
 generalize idxI l=I at*
 go_enter Tryz.func235,Tryz.ntmps235
 go_wp2
 rw[run_callFunc_extern Tryz.func239 (by kernel_rfl) (by kernel_rfl) (by kernel_rfl) (e:=Extern.BytealgIndexByte.indexByte) (by kernel_rfl),hr]
 simp only[Result.andThen]
 rw[Oper.upon_value]
 go_wp2
 go_ret
 exact⟨rfl,rfl⟩
theorem index_any (l:List Int)(hA:AllB l)(hmax:l.length≤1000000)(w:World):
 Calls Tryz.prog 234 #[.string (T l),.string {data:= #[61]}] w fun e w'=>e= .returned (.int .i64 (idxI l))∧w=w':=by
 have HB:=Lib.hid fun w=>indexByte_any l hA w
 have hq:([61]==(T l).toList)=decide ([61]=l):=by
  have h1:=T_beq (l:=[61]) (m:=l) (fun x hx=>by simp at hx;subst hx;decide) hA
  rw[←h1,show(T [61]).toList=[61]by rw[T_toList];rfl]
 have hi0: ∀w,(Instr.index 9 (.string {data:= #[61]}) (.int .i64 0)).run Tryz.prog w= .ok (.int .u8 61) w:=fun w=>by
  have:=index_at [61] (fun x hx=>by simp at hx;subst hx;decide) 0 (by decide) w
  rw[T_one];exact this
 by_cases h: [61]=l
 ·have hI:idxI l=0:=by subst h;decide
  rw[hI]
  rw[decide_eq_true h]at hq
  clear HB hi0 hI h
  generalize T l=S at*
  go_enter Tryz.func234,Tryz.ntmps234
  go_wp2
  go_ret
  exact⟨rfl,rfl⟩
 ·rw[decide_eq_false h]at hq
  clear h
  generalize T l=S at*
  generalize idxI l=I at*
  go_enter Tryz.func234,Tryz.ntmps234
  go_wp2_with(go_at_call 235;(with_reducible refine(HB.out _).mono ?_);rintro e w' ⟨rfl,rfl⟩)
  go_ret
  exact⟨rfl,rfl⟩
theorem slice_lo (l:List Int)(k:Nat)(hk:k≤l.length)(w:World):(Instr.slice 9 (.string (T l)) none (some (.int .i64 (k:Int))) none).run Tryz.prog w= .ok (.string (T (l.take k))) w:=by
 have hz:=T_size l
 have e:=T_cut l 0 k
 rw[List.drop_zero,Nat.sub_zero]at e
 rw[run_slice_string_to_if w 9 (T l) .i64 (k:Int) Tryz.underlying9,if_pos (by omega),Int.toNat_natCast,e]
theorem slice_hi (l:List Int)(k:Nat)(hk:k≤l.length)(w:World):(Instr.slice 9 (.string (T l)) (some (.int .i64 (k:Int))) none none).run Tryz.prog w= .ok (.string (T (l.drop k))) w:=by
 have hz:=T_size l
 have e:=T_cut l k l.length
 rw[List.take_of_length_le (by simp)]at e
 rw[run_slice_string_from_if w 9 (T l) .i64 (k:Int) Tryz.underlying9,if_pos (by omega),Int.toNat_natCast,hz,e]
def cutA1 (l:List Int):List Int:=if cutI l<l.length then l.take (cutI l)else l
def cutA2 (l:List Int):List Int:=if cutI l<l.length then l.drop (cutI l+1)else []
theorem lcut_any (l:List Int)(hA:AllB l)(hmax:l.length≤1000000)(w:World):
 Calls Tryz.prog 229 #[.string (T l),.string {data:= #[61]}] w fun e w'=>e= .returned (.tuple #[.string (T (cutA1 l)),.string (T (cutA2 l)),.bool (decide (cutI l<l.length))])∧Grew w w':=by
 have HI:=Lib.hid fun w=>index_any l hA hmax w
 have hsz:=T_size l
 by_cases h:cutI l<l.length
 ·have h1:cutA1 l=l.take (cutI l):=if_pos h
  have h2:cutA2 l=l.drop (cutI l+1):=if_pos h
  have h3:idxI l=(cutI l:Int):=if_pos h
  have s1:=slice_lo l (cutI l) (by omega)
  have s2: ∀w,(Instr.slice 9 (.string (T l)) (some (.int .i64 ((cutI l:Int)+1))) none none).run Tryz.prog w= .ok (.string (T (l.drop (cutI l+1)))) w:=slice_hi l (cutI l+1) (by omega)
  rw[h1,h2,decide_eq_true h]
  rw[h3]at HI
  have hk:cutI l≤1000000:=by omega
  clear h1 h2 h3 hA
  generalize l.length=len at*
  generalize T (l.take (cutI l))=S1 at*
  generalize T (l.drop (cutI l+1))=S2 at*
  generalize T l=S at*
  generalize cutI l=k at*
  go_enter Tryz.func229,Tryz.ntmps229
  go_wp2_with(go_at_call 234;(with_reducible refine(HI.out _).mono ?_);rintro e w' ⟨rfl,rfl⟩)
  go_quiet (fail)
  go_wp2
  go_ret3
  exact⟨rfl,(Grew.refl w).drewN _⟩
 ·have h1:cutA1 l=l:=if_neg h
  have h2:cutA2 l=[]:=if_neg h
  have h3:idxI l= -1:=if_neg h
  rw[h1,h2,decide_eq_false h,←T_nil]
  rw[h3]at HI
  clear h1 h2 h3 hA
  generalize T l=S at*
  go_enter Tryz.func229,Tryz.ntmps229
  go_wp2_with(go_at_call 234;(with_reducible refine(HI.out _).mono ?_);rintro e w' ⟨rfl,rfl⟩)
  go_ret3
  exact⟨rfl,Grew.refl w⟩
theorem cut_any (l:List Int)(hA:AllB l)(hmax:l.length≤1000000)(w:World):
 Calls Tryz.prog 219 #[.string (T l),.string {data:= #[61]}] w fun e w'=>e= .returned (.tuple #[.string (T (cutA1 l)),.string (T (cutA2 l)),.bool (decide (cutI l<l.length))])∧Grew w w':=by
 have HC:=Lib.hid fun w=>lcut_any l hA hmax w
 generalize T (cutA1 l)=S1 at*
 generalize T (cutA2 l)=S2 at*
 generalize decide (cutI l<l.length)=b at*
 generalize T l=S at*
 go_enter Tryz.func219,Tryz.ntmps219
 go_wp2_with(go_at_call 229;(with_reducible refine(HC.out _).mono ?_);rintro e w' ⟨rfl,hG⟩)
 go_ret3
 exact⟨rfl,hG⟩
def Splitted (l:List Int)(w:World)(e:Ending)(w':World):Prop:=e= .returned (.tuple #[pv (splitN l) (splitV l),.int .i64 (splitE l)])∧Below w.heap.size w w'
set_option maxRecDepth 100000 in
set_option maxRecDepth 100000 in
theorem split_any (a:Option Addr)(l:List Int)(len cap:Nat)(w:World)(hb:Bytes w a l)(hL:l.length=len)(hmax:len≤1000000):
 Calls Tryz.prog 194 #[.slice a len cap] w (Splitted l w):=by
 subst hL
 have hA:=hb.1
 have HC:=Lib.hid fun w=>cut_any l hA hmax w
 have hcv:(convert 23 9 (.slice a l.length cap)).run Tryz.prog (w.alloc (.cells #[.string {data:= #[]},.string {data:= #[]}] 58))= .ok (.string (T l)) (w.alloc (.cells #[.string {data:= #[]},.string {data:= #[]}] 58)):=
  (hb.below ((Below.refl w.heap.size w).alloc (Nat.le_refl _) _) (Nat.le_refl _)).string cap _ rfl
 unfold Splitted
 have hE:splitE l=if cutI l<l.length then(if nmB (l.take (cutI l))=true then(if 256<l.length-cutI l-1 then 21 else 0)else 20)else 20:=rfl
 have b0:Below w.heap.size w (w.alloc (.cells #[.string {data:= #[]},.string {data:= #[]}] 58)):=(Below.refl w.heap.size w).alloc (Nat.le_refl _) _
 by_cases h:cutI l<l.length
 ·have h1:cutA1 l=l.take (cutI l):=if_pos h
  have h2:cutA2 l=l.drop (cutI l+1):=if_pos h
  rw[h1,h2,decide_eq_true h]at HC
  rw[if_pos h]at hE
  have HN:=Lib.hid fun w=>name_any (l.take (cutI l)) (hA.take _) w
  have hvs:(T (l.drop (cutI l+1))).size=l.length-cutI l-1:=by rw[T_size,List.length_drop];omega
  cases hnm:nmB (l.take (cutI l))with
  |false=>
   rw[hnm]at HN hE
   have hF:splitE l=20:=hE
   obtain⟨e1,e2⟩:=split_not (l:=l) (by rw[hF];decide)
   dsimp only[pv]
   rw[hF,e1,e2,←T_nil]
   clear hE hF e1 e2 hnm h1 h2 hb hA hvs
   generalize l.length=len at*
   generalize T (l.take (cutI l))=S1 at*
   generalize T (l.drop (cutI l+1))=S2 at*
   generalize T l=S at*
   clear h
   go_enter Tryz.func194,Tryz.ntmps194
   go_wp2_with(first|(go_at_call 219;(with_reducible refine(HC.out _).mono ?_);rintro e w2 ⟨rfl,hG⟩;have HG:=Lib.hid (b0.trans (hG.below.mono b0.size));have R:=Lib.hid ((Blk.new w [.string {data:= #[]},.string {data:= #[]}] 58).below hG.below (by simp));have c0:=R.out.cell (i:=0) rfl;have c1:=R.out.cell (i:=1) rfl;have f0:=R.out.frozen 0;have f1:=R.out.frozen 1;clear hG)|(go_at_call 220;(with_reducible refine(HN.out _).mono ?_);rintro e w' ⟨rfl,rfl⟩))
   refine bodyPost_ret (v:= .tuple #[.agg #[.string {data:= #[]},.string {data:= #[]}],.int .i64 20]) (by simp[results_cell_tmp Tryz.results194,go_sem,c0,c1,f0,f1,Result.andThen]) rfl ⟨rfl,?_⟩
   (repeat (first|(with_reducible exact HG.out)|refine Below.setCell ?_ (by simp) _|refine Below.alloc ?_ (by simp) _|refine below_drewN ?_ _))
  |true=>
   rw[hnm]at HN hE
   rw[if_pos rfl]at hE
   by_cases hv:256<l.length-cutI l-1
   ·have hF:splitE l=21:=hE.trans (if_pos hv)
    obtain⟨e1,e2⟩:=split_not (l:=l) (by rw[hF];decide)
    dsimp only[pv]
    rw[hF,e1,e2,←T_nil]
    clear hE hF e1 e2 hnm h1 h2 hb hA
    generalize l.length-cutI l-1=lv at*
    generalize l.length=len at*
    generalize T (l.take (cutI l))=S1 at*
    generalize T (l.drop (cutI l+1))=S2 at*
    generalize T l=S at*
    clear h
    go_enter Tryz.func194,Tryz.ntmps194
    go_wp2_with(first|(go_at_call 219;(with_reducible refine(HC.out _).mono ?_);rintro e w2 ⟨rfl,hG⟩;have HG:=Lib.hid (b0.trans (hG.below.mono b0.size));have R:=Lib.hid ((Blk.new w [.string {data:= #[]},.string {data:= #[]}] 58).below hG.below (by simp));have c0:=R.out.cell (i:=0) rfl;have c1:=R.out.cell (i:=1) rfl;have f0:=R.out.frozen 0;have f1:=R.out.frozen 1;clear hG)|(go_at_call 220;(with_reducible refine(HN.out _).mono ?_);rintro e w' ⟨rfl,rfl⟩))
    refine bodyPost_ret (v:= .tuple #[.agg #[.string {data:= #[]},.string {data:= #[]}],.int .i64 21]) (by simp[results_cell_tmp Tryz.results194,go_sem,c0,c1,f0,f1,Result.andThen]) rfl ⟨rfl,?_⟩
    (repeat (first|(with_reducible exact HG.out)|refine Below.setCell ?_ (by simp) _|refine Below.alloc ?_ (by simp) _|refine below_drewN ?_ _))
   ·have hF:splitE l=0:=hE.trans (if_neg hv)
    have e1:splitN l=l.take (cutI l):=by unfold splitN;rw[if_pos hF]
    have e2:splitV l=l.drop (cutI l+1):=by unfold splitV;rw[if_pos hF]
    dsimp only[pv]
    rw[hF,e1,e2]
    clear hE hF e1 e2 hnm h1 h2 hb hA
    generalize l.length-cutI l-1=lv at*
    generalize l.length=len at*
    generalize T (l.take (cutI l))=S1 at*
    generalize T (l.drop (cutI l+1))=S2 at*
    generalize T l=S at*
    clear h
    go_enter Tryz.func194,Tryz.ntmps194
    go_wp2_with(first|(go_at_call 219;(with_reducible refine(HC.out _).mono ?_);rintro e w2 ⟨rfl,hG⟩;have HG:=Lib.hid (b0.trans (hG.below.mono b0.size));have R:=Lib.hid ((Blk.new w [.string {data:= #[]},.string {data:= #[]}] 58).below hG.below (by simp));have c0:=R.out.cell (i:=0) rfl;have c1:=R.out.cell (i:=1) rfl;have f0:=R.out.frozen 0;have f1:=R.out.frozen 1;clear hG)|(go_at_call 220;(with_reducible refine(HN.out _).mono ?_);rintro e w' ⟨rfl,rfl⟩))
    refine bodyPost_ret (v:= .tuple #[.agg #[.string S1,.string S2],.int .i64 0]) (by simp[results_cell_tmp Tryz.results194,go_sem,c0,c1,f0,f1,Result.andThen]) rfl ⟨rfl,?_⟩
    (repeat (first|(with_reducible exact HG.out)|refine Below.setCell ?_ (by simp) _|refine Below.alloc ?_ (by simp) _|refine below_drewN ?_ _))
 ·have h1:cutA1 l=l:=if_neg h
  have h2:cutA2 l=[]:=if_neg h
  rw[h1,h2,decide_eq_false h,←T_nil]at HC
  rw[if_neg h]at hE
  have hF:splitE l=20:=hE
  obtain⟨e1,e2⟩:=split_not (l:=l) (by rw[hF];decide)
  dsimp only[pv]
  rw[hF,e1,e2,←T_nil]
  clear hE hF e1 e2 h1 h2 hb hA
  have HN:=Lib.hid True.intro
  generalize l.length=len at*
  generalize T l=S at*
  clear h
  go_enter Tryz.func194,Tryz.ntmps194
  go_wp2_with(go_at_call 219;(with_reducible refine(HC.out _).mono ?_);rintro e w2 ⟨rfl,hG⟩;have HG:=Lib.hid (b0.trans (hG.below.mono b0.size));have R:=Lib.hid ((Blk.new w [.string {data:= #[]},.string {data:= #[]}] 58).below hG.below (by simp));have c0:=R.out.cell (i:=0) rfl;have c1:=R.out.cell (i:=1) rfl;have f0:=R.out.frozen 0;have f1:=R.out.frozen 1;clear hG)
  refine bodyPost_ret (v:= .tuple #[.agg #[.string {data:= #[]},.string {data:= #[]}],.int .i64 20]) (by simp[results_cell_tmp Tryz.results194,go_sem,c0,c1,f0,f1,Result.andThen]) rfl ⟨rfl,?_⟩
  (repeat (first|(with_reducible exact HG.out)|refine Below.setCell ?_ (by simp) _|refine Below.alloc ?_ (by simp) _|refine below_drewN ?_ _))
end Fsp
namespace Mi
open Bytes8 Blk8 Own8 OwnE Gb Gp Numb Seq8
def mkId (x:Int):Nat→Int:=fun i=>if i=0 then 94 else if i=15 then x else 0
theorem mkId_ok {x:Int}(h:0≤x∧x<256):IdOk (mkId x):=fun i=>by
 unfold mkId
 split
 ·decide
 ·split
  ·exact h
  ·decide
abbrev idR (x:Int):List Value:=(idL (mkId x)).map (Value.int .u8)
theorem idR_set (x:Int):(z16.set 0 (.int .u8 94)).set 15 (.int .u8 x)=idR x:=rfl
theorem idR_info (x:Int):(Tryz.prog.info? 62).map (·.size)=some (idR x).toArray.size:=by rw[idInfo];rfl
theorem idR_one (x:Int):(idR x).toArray.all (·.oneCell')=true:=by
 rw[Array.all_eq_true_iff_forall_mem]
 intro v hv
 simp only[List.mem_toArray,List.mem_map]at hv
 obtain⟨i,_,rfl⟩:=hv
 rfl
attribute [local irreducible] wpList Code.wp
theorem mid_any (n:Int)(w:World):
 Calls Tryz.prog 109 #[.int .i64 n] w fun e w'=> ∃x:Int,(0≤x∧x<5)∧e= .returned (idV (mkId x))∧Below w.heap.size w w':=by
 obtain⟨j,hj,hj5⟩:=below_nat n 5 (by decide)
 have HNum:=Lib.hid fun w=>number_nat n 5 j w (by decide) (by decide) hj.out
 clear hj
 have R0:=Lib.hid (show Blk ((w.alloc (.cells z16.toArray 62)).alloc (.cells z16.toArray 62)) w.heap.size z16 62 from(Blk.new w z16 _).alloc _)
 have Q0:=Lib.hid (show Blk ((w.alloc (.cells z16.toArray 62)).alloc (.cells z16.toArray 62)) (w.heap.size+1) z16 62 from Blk.new_at _ _ _ _ (by simp))
 have b0:=Lib.hid (((Below.refl w.heap.size w).alloc (Nat.le_refl _) (.cells z16.toArray 62)).alloc (by simp) (.cells z16.toArray 62))
 have S0:=Lib.hid (show((w.alloc (.cells z16.toArray 62)).alloc (.cells z16.toArray 62)).heap.size=w.heap.size+2 by simp)
 go_enter Tryz.func109,Tryz.ntmps109
 go_upto_region 2 with fail
 generalize (w.alloc (.cells z16.toArray 62)).alloc (.cells z16.toArray 62)=w0 at*
 have c0:=Q0.out.cell (i:=0) rfl
 have f0:=Q0.out.frozen 0
 have Q1:=Lib.hid (Q0.out.set_ 0 (.int .u8 94))
 have c15:=Q1.out.cell (i:=15) rfl
 have f15:=Q1.out.frozen 15
 go_upto_region 3 with(first|(go_at_call 54;(with_reducible refine(HNum.out _).mono ?_);rintro e w' ⟨rfl,rfl⟩)|fail)
 have Rz:=Lib.hid (show Blk _ (w.heap.size+1) (idR (j:Int)) 62 from idR_set (j:Int)▸Q1.out.set_ 15 (.int .u8 (j:Int)))
 have Bz:=Lib.hid ((b0.out.setCell (p:=⟨w.heap.size+1,0,none⟩) (Nat.le_succ _) (.int .u8 94)).setCell (p:=⟨w.heap.size+1,15,none⟩) (Nat.le_succ _) (.int .u8 (j:Int)))
 have Z:=Lib.hid ((R0.out.far (p:=⟨w.heap.size+1,0,none⟩) (by simp) (.int .u8 94)).far (p:=⟨w.heap.size+1,15,none⟩) (by simp) (.int .u8 (j:Int)))
 generalize (w0.setCell ⟨w.heap.size+1,0,none⟩ (.int .u8 94)).setCell ⟨w.heap.size+1,15,none⟩ (.int .u8 (j:Int))=w1 at*
 go_wp2_with(first
  |((with_reducible apply at_slot 9);refine wpList_load_row rfl 62 (.tmp 3) rfl (w.heap.size+1) rfl 62 (idR (j:Int)).toArray (0,0) _ Rz.out Tryz.underlying62 rfl (idR_info _) ?_)
  |((with_reducible apply at_store (.tmp 2) (.tmp 9));refine wpList_store_row rfl 62 (.tmp 2) (.tmp 9) rfl w.heap.size (idR (j:Int)).toArray rfl rfl 62 _ Z.out (idR_info _) rfl (idR_one _) ?_)
  |fail)
 refine bodyPost_ret (v:= .agg (idR (j:Int)).toArray) (by exact results_cell_row Tryz.results109 _ _ w.heap.size 62 _ (0,0) _ rfl (setRow_heap _ w.heap.size _ _ _ (0,0) Z.out) Tryz.underlying62 rfl (idR_info _)) rfl ?_
 exact⟨(j:Int),⟨by omega,hj5⟩,rfl,below_setRow Bz.out (Nat.le_refl _) _⟩
theorem more_any (gq:Nat)(a:Option Addr)(len cap:Nat)(f:Nat→Int)(k:Nat)(w:World)(h:SeqIn w gq a len cap f k):
 Calls Tryz.prog 58 #[.pointer (some ⟨gq,0,none⟩)] w fun e w'=>e= .returned (.bool (decide (k<len)))∧Below w.heap.size w w':=by
 have c0:=h.1.cell (i:=0) rfl
 have c1:=h.1.cell (i:=1) rfl
 clear h
 go_enter Tryz.func58,Tryz.ntmps58
 go_wp2
 go_region
 go_wp2
 go_ret
 exact⟨by simp,(Below.refl _ _).drew⟩
end Mi
namespace Mf
open Bytes8 Blk8 Own8 OwnA OwnE Od Ga Ma Kf Mb Mc Md Me Fa Fb Dc
def knC (k:Kn)(v:Value):List Value:=[.string (T k.text),.int .u64 (k.at_:Int),.int .i64 (k.slot:Int),.int .i64 (k.count:Int),v]
def kf (l:List (Kn×Value)):List Value:=l.flatMap fun p=>knC p.1 p.2
theorem kf_snoc (l:List (Kn×Value))(p:Kn×Value):kf (l++ [p])=kf l++knC p.1 p.2:=by simp[kf]
theorem kf_len (l:List (Kn×Value)):(kf l).length=l.length*5:=by
 induction l with
 |nil=>rfl
 |cons p l ih=>
  have:kf (p::l)=knC p.1 p.2++kf l:=by simp[kf]
  rw[this,List.length_append,ih]
  simp[knC]
  omega
theorem kf_get (l:List (Kn×Value)): ∀(i:Nat) (h:i<l.length) (j:Nat),j<5→(kf l)[i*5+j]? =(knC l[i].1 l[i].2)[j]? :=by
 induction l with
 |nil=>intro i h;cases h
 |cons p l ih=>
  intro i h j hj
  have e:kf (p::l)=knC p.1 p.2++kf l:=by simp[kf]
  have e5:(knC p.1 p.2).length=5:=rfl
  rw[e]
  cases i with
  |zero=>
   rw[List.getElem?_append_left (by rw[e5];omega)]
   simp
  |succ i=>
   rw[List.getElem?_append_right (by rw[e5];omega),e5,show(i+1)*5+j-5=i*5+j by omega]
   rw[ih i (by simpa using h) j hj]
   rfl
theorem knElt:Elt 198 165 5 64 (.agg #[.string {data:= #[]},.int .u64 0,.int .i64 0,.int .i64 0,.slice none 0 0]):=⟨Tryz.underlying165,by kernel_rfl,rfl,by decide⟩
abbrev OwnK (w:World)(B:Nat)(A:Option Addr)(n c:Nat)(l:List (Kn×Value)):Prop:=OwnE 198 5 w B A n c (kf l)
theorem ownK_len {w:World}{B n c:Nat}{A:Option Addr}{l:List (Kn×Value)}(h:OwnK w B A n c l):l.length=n:=by
 have:=h.len
 rw[kf_len]at this
 omega
theorem ownK_at {w:World}{B n c:Nat}{A:Option Addr}{l:List (Kn×Value)}(h:OwnK w B A n c l)(i:Nat)(hi:i<l.length): ∃b,A=some ⟨b,0,none⟩∧b<w.heap.size∧
 w.cell? ⟨b,i*5,none⟩=some (.string (T l[i].1.text))∧w.cell? ⟨b,i*5+1,none⟩=some (.int .u64 (l[i].1.at_:Int))∧w.cell? ⟨b,i*5+2,none⟩=some (.int .i64 (l[i].1.slot:Int))∧w.cell? ⟨b,i*5+3,none⟩=some (.int .i64 (l[i].1.count:Int))∧w.cell? ⟨b,i*5+4,none⟩=some l[i].2:=by
 have hl:=kf_len l
 obtain⟨b,rfl,_,hb,c0⟩:=OwnE.cell h (i:=i*5) (by omega)
 have cc: ∀j,j<5→w.cell? ⟨b,i*5+j,none⟩=(knC l[i].1 l[i].2)[j]? :=fun j hj=>by
  obtain⟨b2,e2,_,_,c1⟩:=OwnE.cell h (i:=i*5+j) (by omega)
  injection e2 with e2
  injection e2 with e2
  subst e2
  rw[c1,kf_get l i hi j hj]
 refine⟨b,rfl,hb,?_,cc 1 (by decide),cc 2 (by decide),cc 3 (by decide),cc 4 (by decide)⟩
 have:=cc 0 (by decide)
 rw[Nat.add_zero]at this
 exact this
theorem ownK_kns {w:World}{B n c:Nat}{A:Option Addr}{l:List (Kn×Value)}(h:OwnK w B A n c l):Kns w A (l.map Prod.fst):=fun i hi=>by
 rw[List.length_map]at hi
 obtain⟨b,e,hb,c0,c1,c2,c3,_⟩:=ownK_at h i hi
 refine⟨b,e,hb,?_⟩
 simp only[List.getElem_map]
 exact⟨c0,c1,c2,c3⟩
theorem OwnE.keptF {E:TypeId}{size:Nat}{F:Nat→Prop}{w w':World}{base n c:Nat}{A:Option Addr}{xs:List Value}(h:OwnE E size w base A n c xs)(hk:KeptF F w w')(hF: ∀g,ownB A=some g→ ¬F g):OwnE E size w' base A n c xs:=by
 refine⟨Nat.le_trans h.1 hk.size,h.2.1,?_⟩
 rcases h.2.2 with h1|⟨k,cap,cur,h1,h2,h3,h4⟩
 ·exact .inl h1
 ·refine .inr ⟨k,cap,cur,h1,h2,?_,h4⟩
  have hk2:k<w.heap.size:=by
   rcases Nat.lt_or_ge k w.heap.size with h|h
   ·exact h
   ·rw[Array.getElem?_eq_none h]at h3;cases h3
  injection h1 with e1 e2 e3
  subst e1
  rw[hk.block k hk2 (hF k rfl)];exact h3
theorem MkB.below {w w':World}{B g bb cb:Nat}{S:Sl}{m:Mk}(h:MkB w B g bb cb S m)(hb:Below w.heap.size w w'):MkB w' B g bb cb S m:=
 ⟨h.st.below hb h.st.lt,h.own.kept hb (Nat.le_refl _),h.ne⟩
theorem own_set1 {w:World}{B g bb n c:Nat}{l:List Int}(h:Own w B (some ⟨bb,0,none⟩) n c l)(hne:g≠bb)(i:Nat)(v:Value):Own (w.setCell ⟨g,i,none⟩ v) B (some ⟨bb,0,none⟩) n c l:=
 Kf.Own.keptF h (KeptF.set1 w g i v) (fun j hj e=>hne (by injection hj with hj;exact(e.symm.trans hj.symm)))
theorem MkB.depth {w:World}{B g bb cb:Nat}{S:Sl}{m:Mk}(h:MkB w B g bb cb S m)(v:Nat):MkB (w.setCell ⟨g,142,none⟩ (.int .u64 (v:Int))) B g bb cb S {m with depth:=v}:=
 ⟨by have:=h.st.set_ 142 (.int .u64 (v:Int));rw[Mk.set_depth]at this;exact this,own_set1 h.own h.ne _ _,h.ne⟩
theorem MkB.setN {w:World}{B g bb cb:Nat}{S:Sl}{m:Mk}(h:MkB w B g bb cb S m)(i k:Nat)(hi:i<20)(hk:k=119+i)(v:Int):MkB (w.setCell ⟨g,k,none⟩ (.int .u64 v)) B g bb cb S {m with h:=setN m.h i v}:=
 ⟨by have:=h.st.set_ k (.int .u64 v);rw[Mk.set_Nk _ _ i k hi hk]at this;exact this,own_set1 h.own h.ne _ _,h.ne⟩
theorem MkB.setF {w:World}{B g bb cb:Nat}{S:Sl}{m:Mk}(h:MkB w B g bb cb S m)(v:Value):MkB (w.setCell ⟨g,145,none⟩ v) B g bb cb {S with f:=v} m:=
 ⟨by have:=h.st.set_ 145 v;rw[Mk.set_f]at this;exact this,own_set1 h.own h.ne _ _,h.ne⟩
theorem MkB.grown {w w':World}{row:Option Nat}{B g bb cb:Nat}{S:Sl}{m:Mk}(h:MkB w B g bb cb S m)(hg:w.grownBy w' row)(h1:row≠some g)(h2:row≠some bb):MkB w' B g bb cb S m:=
 ⟨(hg.block g h.st.lt (fun e=>h1 e.symm)).trans h.st,own_kept h.own hg (fun j hj e=>h2 (by injection hj with hj;rw[e,←hj])),h.ne⟩
theorem MkB.same {w:World}{B g bb cb:Nat}{S:Sl}{m m':Mk}(h:MkB w B g bb cb S m)(h1:m.C=m'.C)(h2:m.h=m'.h)(h3:m.depth=m'.depth)(h4:m.b=m'.b):MkB w B g bb cb S m':=
 ⟨by rw[←Mk.cells_same h1 h2 h3,←h4];exact h.st,by rw[←h4];exact h.own,h.ne⟩
theorem max_if (a b:Nat):(if a<b then((b:Nat):Int)else(a:Int))=((max a b:Nat):Int):=by
 by_cases h:a<b
 ·rw[if_pos h,Nat.max_eq_right (by omega)]
 ·rw[if_neg h,Nat.max_eq_left (by omega)]
end Mf
end Go.Proofs.YtjecmgkmcfkcjaaGreat
