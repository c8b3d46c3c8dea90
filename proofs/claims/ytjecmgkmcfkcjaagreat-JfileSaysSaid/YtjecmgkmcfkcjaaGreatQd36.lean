/-
  Texts beneath the proof.
-/
import Derived.Test.YtjecmgkmcfkcjaaGreatQd35
set_option linter.unusedVariables false
set_option linter.unusedSimpArgs false
set_option maxRecDepth 100000
set_option maxHeartbeats 8000000
open Go.ChangeShapes Go.WideShapes Go.ChangeAt Go.RowKit
namespace Go.Proofs.YtjecmgkmcfkcjaaGreat
namespace Rq
open Bytes8 Blk8 Own8 OwnE Rows2 Ob Nr Np Pr8 Pa8 Yq
theorem eql_id (K:Nat→Int)(hK:IdOk K)(w:World):(binOp .eql 62 (.agg #[.int .u8 (K 0),.int .u8 (K 1),.int .u8 (K 2),.int .u8 (K 3),.int .u8 (K 4),.int .u8 (K 5),.int .u8 (K 6),.int .u8 (K 7),.int .u8 (K 8),.int .u8 (K 9),.int .u8 (K 10),.int .u8 (K 11),.int .u8 (K 12),.int .u8 (K 13),.int .u8 (K 14),.int .u8 (K 15)]) (.agg #[.int .u8 (K 0),.int .u8 (K 1),.int .u8 (K 2),.int .u8 (K 3),.int .u8 (K 4),.int .u8 (K 5),.int .u8 (K 6),.int .u8 (K 7),.int .u8 (K 8),.int .u8 (K 9),.int .u8 (K 10),.int .u8 (K 11),.int .u8 (K 12),.int .u8 (K 13),.int .u8 (K 14),.int .u8 (K 15)])).run Tryz.prog w= .ok (.bool true) w:=by
 obtain⟨r,hr,hiff⟩:=run_equalIn_deep (P:=Tryz.prog) 9998 2 62 (by kernel_rfl) w 2 2 (.agg #[.int .u8 (K 0),.int .u8 (K 1),.int .u8 (K 2),.int .u8 (K 3),.int .u8 (K 4),.int .u8 (K 5),.int .u8 (K 6),.int .u8 (K 7),.int .u8 (K 8),.int .u8 (K 9),.int .u8 (K 10),.int .u8 (K 11),.int .u8 (K 12),.int .u8 (K 13),.int .u8 (K 14),.int .u8 (K 15)]) (.agg #[.int .u8 (K 0),.int .u8 (K 1),.int .u8 (K 2),.int .u8 (K 3),.int .u8 (K 4),.int .u8 (K 5),.int .u8 (K 6),.int .u8 (K 7),.int .u8 (K 8),.int .u8 (K 9),.int .u8 (K 10),.int .u8 (K 11),.int .u8 (K 12),.int .u8 (K 13),.int .u8 (K 14),.int .u8 (K 15)]) ((idL K).map (Lit.int .u8)) ((idL K).map (Lit.int .u8)) (by kernel_rfl) (by kernel_rfl) (id_lits K hK) (id_lits K hK)
 have h:r=true:=hiff.2 rfl
 subst h
 rw[run_eql_struct,show(10000:Nat)=9998+2 from rfl,hr]
 rfl
theorem rec_range {w:World}{g:Nat}{T:TypeId}{s r m:Int}{K:Nat→Int}{F:Value}(h:Blk w g (recL s r m K F) T):w.rangeAt g 3 (idJ K):=fun j v hj=>by
 have hl:j<16:=(List.getElem?_eq_some_iff.1 hj).1
 refine h.cell (i:=3+j) ?_
 rw[idJ_get K j hl]at hj
 rcases j with _|_|_|_|_|_|_|_|_|_|_|_|_|_|_|_|j
 all_goals first|exact hj|omega
attribute [local irreducible] wpList Code.wp
theorem samerec_yes (s r m:Int)(K:Nat→Int)(hK:IdOk K)(A B:Option Addr)(n c d:Nat)(l:List PR)(w:World)(h1:Prs w A l)(h2:Prs w B l)(hl:l.length=n)(hn:n≤1000000):
 Calls Tryz.prog 53 #[.agg (recL s r m K (.slice A n c)).toArray,.agg (recL s r m K (.slice B n d)).toArray] w fun e w'=>e= .returned (.bool true)∧Below w.heap.size w w':=by
 have B0:=Lib.hid (((Below.refl w.heap.size w).alloc (Nat.le_refl _) (.cells (recL s r m K (.slice A n c)).toArray 64)).alloc (by simp) (.cells (recL s r m K (.slice B n d)).toArray 64))
 have P0:=Lib.hid ((show Blk (w.alloc (.cells (recL s r m K (.slice A n c)).toArray 64)) w.heap.size (recL s r m K (.slice A n c)) 64 from Blk.new w _ _).alloc (.cells (recL s r m K (.slice B n d)).toArray 64))
 have Q0:=Lib.hid (show Blk ((w.alloc (.cells (recL s r m K (.slice A n c)).toArray 64)).alloc (.cells (recL s r m K (.slice B n d)).toArray 64)) (w.heap.size+1) (recL s r m K (.slice B n d)) 64 from Blk.new_at _ _ _ _ (by simp))
 have HS:=Lib.hid (spairs_any A B l l n n c d _ (h1.below B0.out) (h2.below B0.out) hl hl hn hn)
 rw[decide_eq_true rfl]at HS
 have heq:=eql_id K hK
 clear h1 h2
 have p0:=P0.out.cell (i:=0) rfl;have p1:=P0.out.cell (i:=1) rfl;have p2:=P0.out.cell (i:=2) rfl;have p19:=P0.out.cell (i:=19) rfl
 have q0:=Q0.out.cell (i:=0) rfl;have q1:=Q0.out.cell (i:=1) rfl;have q2:=Q0.out.cell (i:=2) rfl;have q19:=Q0.out.cell (i:=19) rfl
 go_enter Tryz.func53,Tryz.ntmps53
 go_wp2_with(first
  |(refine wpList_load_mid_want rfl 62 (.tmp 25) rfl w.heap.size 3 rfl [.int .u8 (K 0),.int .u8 (K 1),.int .u8 (K 2),.int .u8 (K 3),.int .u8 (K 4),.int .u8 (K 5),.int .u8 (K 6),.int .u8 (K 7),.int .u8 (K 8),.int .u8 (K 9),.int .u8 (K 10),.int .u8 (K 11),.int .u8 (K 12),.int .u8 (K 13),.int .u8 (K 14),.int .u8 (K 15)] _ (rec_range P0.out) Tryz.underlying62 rfl idInfo ?_)
  |(refine wpList_load_mid_want rfl 62 (.tmp 27) rfl (w.heap.size+1) 3 rfl [.int .u8 (K 0),.int .u8 (K 1),.int .u8 (K 2),.int .u8 (K 3),.int .u8 (K 4),.int .u8 (K 5),.int .u8 (K 6),.int .u8 (K 7),.int .u8 (K 8),.int .u8 (K 9),.int .u8 (K 10),.int .u8 (K 11),.int .u8 (K 12),.int .u8 (K 13),.int .u8 (K 14),.int .u8 (K 15)] _ (rec_range Q0.out) Tryz.underlying62 rfl idInfo ?_)
  |(go_at_call 105;(refine HS.out.mono ?_);rintro e w2 ⟨rfl,hb2⟩;have HB2:=Lib.hid (B0.out.trans (hb2.mono B0.out.size));clear hb2))
 go_ret
 exact⟨rfl,HB2.out⟩
end Rq
namespace Rr
open Bytes8 Blk8 OwnE Ob Ga Gb Ma Na Np Nr Pr8 Nt Nu Rc Rk Rm Rn
open Yp Ye Yg Yh Ri
open Rd (dcode dz)
open Go1 (hcode rhd hread_any HTold magicB)
theorem eK_ok {l:List Int}{a:Nat}(h:AllB l):IdOk (eK l a):=by
 unfold eK
 split
 ·exact itK_ok (by
   unfold bodyL
   exact(h.drop _).take _)
 ·exact fun _=>⟨Int.le_refl _,by show(0:Int)<256;decide⟩
structure RecP where
 s:Int
 r:Int
 m:Int
 K:Nat→Int
 n:Nat
 pl:List PR
def recP (h:HD)(l:List Int)(n a:Nat):RecP:=if rcode h l n a=0 then⟨eNum l a 0,eNum l a 8,eNum l a 16,eK l a,eN l a,prsL (payP l (itA (bodyL l a))) (eN l a)⟩else⟨0,0,0,fun _=>0,0,[]⟩
structure RecP.Ok (p:RecP):Prop where
 K:IdOk p.K
 len:p.pl.length=p.n
 n:p.n≤1000000
theorem rcode_short {h:HD}{l:List Int}{n a:Nat}(hz:rcode h l n a=0):eN l a≤16:=by
 rcases Nat.lt_or_ge 16 (eN l a)with h1|h1
 ·have k:=rc_of h l n (ecode9 h l n a) (eN l a) (itA (bodyL l a)) (itH (bodyL l a)) (eNum l a 40)
  by_cases h2:ecode9 h l n a=0
  ·have:=k.b h2 h1
   have e:rcode h l n a=21:=this
   rw[hz]at e;cases e
  ·have e:rcode h l n a=ecode9 h l n a:=k.a h2
   rw[hz]at e
   exact absurd e.symm h2
 ·exact h1
theorem recP_ok (h:HD){l:List Int}(n a:Nat)(hl:AllB l):(recP h l n a).Ok:=by
 unfold recP
 by_cases hz:rcode h l n a=0
 ·rw[if_pos hz]
  exact⟨eK_ok hl,prsL_len _ _,by have:=rcode_short hz;show eN l a≤_;omega⟩
 ·rw[if_neg hz]
  exact⟨fun _=>⟨Int.le_refl _,by show(0:Int)<256;decide⟩,rfl,Nat.zero_le _⟩
abbrev RecP.v (p:RecP)(F:Option Addr)(c:Nat):Value:= .agg (recL p.s p.r p.m p.K (.slice F p.n c)).toArray
def TellR (p:RecP)(cd:Int)(w:World)(e:Ending)(w':World):Prop:= ∃F c,e= .returned (.tuple #[p.v F c,.int .i64 cd])∧Prs w' F p.pl∧Below w.heap.size w w'
def payT (h:HD)(l:List Int)(n a:Nat):List Int:=if hcode9 h l n a=0 then bpay l a 1 6 else []
attribute [local irreducible] HD.cells wpList Code.wp
end Rr
namespace Va
open Bytes8 Blk8 Own8 OwnE Rows2 Ob Ga Gb Gi Oj Ok7 Ol7 Np Pr8 Rc Rm Rr
open Yc Yp Yd Ye Yg Yh Yn Ym
open Rd (dcode dz)
open Rg (arcode az AskA arrAsk)
open Ri (ecode9 ez)
structure ViewR (w:World)(gv:Nat)(h:HD)(d:Int)(A:Option Addr)(n c:Nat)(l:List Int):Prop where
 blk:Blk w gv (h.cells 20++ [.int .u64 d,.slice A n c]) 131
 by_:Bytes w A l
 len:l.length=n
 cap:n≤c
 capm:c≤maxLen
 big:n≤800000
 ok:h.Ok 21
theorem ViewR.below {w w':World}{gv:Nat}{h:HD}{d:Int}{A:Option Addr}{n c:Nat}{l:List Int}(v:ViewR w gv h d A n c l)(hb:Below w.heap.size w w'):ViewR w' gv h d A n c l:=
 ⟨v.blk.below hb v.blk.lt,v.by_.below hb (Nat.le_refl _),v.len,v.cap,v.capm,v.big,v.ok⟩
theorem rview_N (h:HD)(d:Int)(b:Value)(i:Nat)(hi:i<20):(h.cells 20++ [.int .u64 d,b])[67+i]? =some (.int .u64 (h.N i)):=by
 rw[List.getElem?_append_left (by rw[HD.len];omega)]
 exact h.get_N 20 i hi
theorem rview_b (h:HD)(d:Int)(b:Value):(h.cells 20++ [.int .u64 d,b])[91]? =some b:=by
 rw[List.getElem?_append_right (by rw[HD.len];omega),HD.len]
 rfl
abbrev rng (h:HD)(n a:Nat):Prop:=h.N 0≤(a:Int)∧a<n
def dN (h:HD)(l:List Int)(n a i:Nat):Int:=if rng h n a then bnum l a 1 6 i else 0
def dP (h:HD)(l:List Int)(n a:Nat):List Int:=if rng h n a then bpay l a 1 6 else []
def TellD (B:Nat)(h:HD)(l:List Int)(n a:Nat)(w:World)(e:Ending)(w':World):Prop:=Below w.heap.size w w'∧ ∃A' m c,e= .returned (.tuple #[dataV (dN h l n a 0) (dN h l n a 1) (dN h l n a 2) (dN h l n a 3) (dN h l n a 4) (dN h l n a 5) A' m c,.int .i64 (dcode h l n a)])∧Bytes w' A' (dP h l n a)∧(dP h l n a).length=m∧Cap B A' m c
def eN9 (h:HD)(l:List Int)(n a i:Nat):Int:=if rng h n a then eNum l a i else 0
def eK9 (h:HD)(l:List Int)(n a:Nat):Nat→Int:=if rng h n a then eK l a else fun _=>0
def eC9 (h:HD)(l:List Int)(n a:Nat):Nat:=if rng h n a then eN l a else 0
def TellE (B:Nat)(h:HD)(l:List Int)(n a:Nat)(w:World)(e:Ending)(w':World):Prop:=Below w.heap.size w w'∧ ∃A' c,e= .returned (.tuple #[entV (eN9 h l n a 0) (eN9 h l n a 8) (eN9 h l n a 16) (eK9 h l n a) (eN9 h l n a 40) A' (eC9 h l n a) c,.int .i64 (ecode9 h l n a)])∧In2 w' A' (eC9 h l n a) (itA (bodyL l a)) (itH (bodyL l a))∧NewIn B A'
def aX9 (h:HD)(l:List Int)(n a:Nat):Int:=if rng h n a then arX l a else 0
def aC9 (h:HD)(l:List Int)(n a:Nat):Nat:=if rng h n a then arM l a else 0
def TellA (B:Nat)(h:HD)(l:List Int)(n a:Nat)(w:World)(e:Ending)(w':World):Prop:=Below w.heap.size w w'∧ ∃A' c,e= .returned (.tuple #[arrV (aX9 h l n a) A' (aC9 h l n a) c,.int .i64 (arcode h l n a)])∧InInts .u64 w' A' (aC9 h l n a) (arF (bodyL l a))∧NewIn B A'
theorem none_new (B:Nat):NewIn B none:=fun b off e=>by cases e
theorem cap_none (B:Nat):Cap B none 0 0:=⟨by decide,by decide,by decide,fun b off e=>by cases e⟩
theorem arrTell {gv:Nat}{h:HD}{A:Option Addr}{n c:Nat}{l:List Int}(a:Nat)(w:World)(v:ViewAt w gv h A n c l)(hcm:c≤maxLen):
 Calls Tryz.prog 188 #[.pointer (some ⟨gv,0,none⟩),.int .u64 (a:Int)] w (TellA w.heap.size h l n a w):=by
 refine(arrAsk a w v hcm).mono ?_
 rintro e w' ⟨hb,hh⟩
 refine⟨hb,?_⟩
 unfold aX9 aC9 arcode
 by_cases hr:rng h n a
 ·rcases hh with⟨hz,rfl⟩|⟨hz,A',c',rfl,h1,h2⟩
  ·have e0:arcode h l n a=ecode l a 6 8 8:=if_pos hr
   rw[e0]at hz
   have t1:arX l a=0:=if_neg hz
   have t2:arM l a=0:=if_neg hz
   simp only[if_pos hr,t1,t2]
   rw[e0]
   exact⟨none,0,rfl,fun i hi=>absurd hi (Nat.not_lt_zero i),none_new _⟩
  ·have e0:arcode h l n a=ecode l a 6 8 8:=if_pos hr
   rw[e0]at hz
   simp only[if_pos hr]
   rw[hz]
   exact⟨A',c',rfl,h1,h2⟩
 ·rcases hh with⟨hz,rfl⟩|⟨hz,_⟩
  ·simp only[if_neg hr]
   rw[show arcode h l n a=2 from if_neg hr]
   exact⟨none,0,rfl,fun i hi=>absurd hi (Nat.not_lt_zero i),none_new _⟩
  ·rw[show arcode h l n a=2 from if_neg hr]at hz;cases hz
theorem bytes_row {w:World}{A:Option Addr}{l:List Int}(h:Bytes w A l){s:Nat}(hs: ∀b off,A=some ⟨b,off,none⟩→b≠s)(cs:Array Value):Bytes (w.setRow s cs) A l:=bytes_keptB h (by simp) (fun b off e _=>setRow_other w s b cs (hs b off e))
attribute [local irreducible] HD.cells wpList Code.wp
theorem rvend_any {gv:Nat}{h:HD}{d:Int}{A:Option Addr}{n c:Nat}{l:List Int}(w:World)(v:ViewR w gv h d A n c l):Calls Tryz.prog 135 #[.pointer (some ⟨gv,0,none⟩)] w fun e w'=>e= .returned (.int .u64 (n:Int))∧w=w':=by
 have c91:=v.blk.cell (rview_b _ _ _)
 have hn:=v.big
 have hw:IntKind.u64.wrap (n:Int)=(n:Int):=by rw[IntKind.wrap_u64];omega
 clear v
 go_enter Tryz.func135,Tryz.ntmps135
 go_wp2
 go_ret
 exact⟨rfl,rfl⟩
theorem in_yes {gv:Nat}{h:HD}{d:Int}{A:Option Addr}{n c:Nat}{l:List Int}(a:Nat)(w:World)(v:ViewR w gv h d A n c l)(hr:rng h n a):Calls Tryz.prog 136 #[.pointer (some ⟨gv,0,none⟩),.int .u64 (a:Int)] w fun e w'=>e= .returned (.int .i64 0)∧w=w':=by
 have c67:w.cell? ⟨gv,67,none⟩=some (.int .u64 (h.N 0)):=v.blk.cell (rview_N _ _ _ 0 (by decide))
 have HE:=Lib.hid (rvend_any w v)
 have d1:decide ((a:Int)<h.N 0)=false:=by have:=hr.1;simp;omega
 have d2:decide ((a:Int)≥(n:Int))=false:=by have:=hr.2;simp;omega
 have d3:decide (n≤a)=false:=by have:=hr.2;simp;omega
 clear v hr
 go_enter Tryz.func136,Tryz.ntmps136
 go_wp2_with(first
  |(go_at_call 135;(refine HE.out.mono ?_);rintro e w1 ⟨rfl,rfl⟩)
  |fail)
 go_ret
 exact⟨rfl,rfl⟩
theorem in_no {gv:Nat}{h:HD}{d:Int}{A:Option Addr}{n c:Nat}{l:List Int}(a:Nat)(w:World)(v:ViewR w gv h d A n c l)(hr: ¬rng h n a):Calls Tryz.prog 136 #[.pointer (some ⟨gv,0,none⟩),.int .u64 (a:Int)] w fun e w'=>e= .returned (.int .i64 2)∧w=w':=by
 have c67:w.cell? ⟨gv,67,none⟩=some (.int .u64 (h.N 0)):=v.blk.cell (rview_N _ _ _ 0 (by decide))
 have HE:=Lib.hid (rvend_any w v)
 clear v
 by_cases h3:h.N 0≤(a:Int)
 ·have d1:decide ((a:Int)<h.N 0)=false:=by simp;omega
  have d2:decide ((a:Int)≥(n:Int))=true:=by
   have: ¬a<n:=fun h4=>hr ⟨h3,h4⟩
   simp;omega
  have d3:decide (n≤a)=true:=by
   have: ¬a<n:=fun h4=>hr ⟨h3,h4⟩
   simp;omega
  clear hr h3
  go_enter Tryz.func136,Tryz.ntmps136
  go_wp2_with(first
   |(go_at_call 135;(refine HE.out.mono ?_);rintro e w1 ⟨rfl,rfl⟩)
   |fail)
  go_ret
  exact⟨rfl,rfl⟩
 ·have d1:decide ((a:Int)<h.N 0)=true:=by simp;omega
  clear hr h3
  go_enter Tryz.func136,Tryz.ntmps136
  go_wp2_with fail
  go_ret
  exact⟨rfl,rfl⟩
theorem rdataTell {gv:Nat}{h:HD}{d:Int}{A:Option Addr}{n c:Nat}{l:List Int}(a:Nat)(w:World)(v:ViewR w gv h d A n c l):
 Calls Tryz.prog 77 #[.pointer (some ⟨gv,0,none⟩),.int .u64 (a:Int)] w (TellD w.heap.size h l n a w):=by
 have b1:=Lib.hid ((Below.refl w.heap.size w).alloc (Nat.le_refl _) (.cells dz 149))
 have v1:=v.below b1.out
 have c91:=v1.blk.cell (rview_b _ _ _)
 have Z1:=Lib.hid (heap_alloc_new w (.cells dz 149))
 have s1:=Lib.hid (show w.heap.size<(w.alloc (.cells dz 149)).heap.size by simp)
 unfold TellD
 by_cases hr:rng h n a
 ·have HI:=Lib.hid (in_yes a _ v1 hr)
  have HR:=Lib.hid (rreadData_n A l n c a _ v1.by_ v1.len (by have:=v1.big;omega) v1.cap v1.capm (by have:=v1.big;have:=hr.2;omega))
  unfold DataTold2 at HR
  unfold dN dP dcode
  simp only[if_pos hr]
  clear v v1 hr
  generalize bnum l a 1 6 0=x0 at*
  generalize bnum l a 1 6 1=x1 at*
  generalize bnum l a 1 6 2=x2 at*
  generalize bnum l a 1 6 3=x3 at*
  generalize bnum l a 1 6 4=x4 at*
  generalize bnum l a 1 6 5=x5 at*
  generalize bcode l a 1 6=cd at*
  generalize bpay l a 1 6=pl at*
  go_enter Tryz.func77,Tryz.ntmps77
  go_wp2_with(first
   |(go_at_call 136;(refine HI.out.mono ?_);rintro e w1 ⟨rfl,rfl⟩)
   |(go_at_call 137;(refine HR.out.mono ?_);rintro e w2 ⟨A2,m2,c2,rfl,hb2,hy2,hl2,hm2⟩;have B2:=Lib.hid (b1.out.trans (hb2.mono b1.out.size));have Z2:=Lib.hid ((hb2.block _ s1.out).trans Z1.out);have HY2:=Lib.hid hy2;have HC2:=Lib.hid hm2;clear hy2 hm2;clear hb2)
   |((with_reducible apply at_store (.tmp 4) (.tmp 20));refine wpList_store_row rfl 149 (.tmp 4) (.tmp 20) rfl w.heap.size #[.int .u64 x0,.int .u64 x1,.int .u64 x2,.int .u64 x3,.int .u64 x4,.int .u64 x5,.slice A2 m2 c2] rfl rfl 149 dz Z2.out (by kernel_rfl) rfl (by simp[Value.oneCell']) ?_)
   |fail)
  refine bodyPost_ret (v:= .tuple #[dataV x0 x1 x2 x3 x4 x5 A2 m2 c2,.int .i64 cd]) (by exact res_rowG Tryz.results77 _ _ w.heap.size 149 _ (0,0) _ _ rfl rfl (setRow_heap _ w.heap.size _ _ _ (0,0) Z2.out) Tryz.underlying149 rfl (by kernel_rfl)) rfl ?_
  exact⟨below_setRow B2.out (Nat.le_refl _) _,A2,m2,c2,rfl,bytes_row HY2.out (fun b off e=>Nat.ne_of_gt (Nat.lt_of_lt_of_le s1.out (HC2.out.2.2.2 b off e))) _,hl2,HC2.out.mono (Nat.le_of_lt s1.out)⟩
 ·have HI:=Lib.hid (in_no a _ v1 hr)
  unfold dN dP dcode
  simp only[if_neg hr]
  clear v v1 hr
  go_enter Tryz.func77,Tryz.ntmps77
  go_wp2_with(first
   |(go_at_call 136;(refine HI.out.mono ?_);rintro e w1 ⟨rfl,rfl⟩)
   |((with_reducible apply at_slot 12);refine Yz.wpList_build_as rfl 149 _ rfl dz (by kernel_rfl) ?_)
   |((with_reducible apply at_store (.tmp 4) (.tmp 12));refine wpList_store_row rfl 149 (.tmp 4) (.tmp 12) rfl w.heap.size dz rfl rfl 149 dz Z1.out (by kernel_rfl) rfl (by simp[Value.oneCell']) ?_)
   |fail)
  refine bodyPost_ret (v:= .tuple #[.agg dz,.int .i64 2]) (by exact res_rowG Tryz.results77 _ _ w.heap.size 149 _ (0,0) _ _ rfl rfl (setRow_heap _ w.heap.size _ _ _ (0,0) Z1.out) Tryz.underlying149 rfl (by kernel_rfl)) rfl ?_
  exact⟨below_setRow b1.out (Nat.le_refl _) _,none,0,0,rfl,Bytes.nil _ _,rfl,cap_none _⟩
theorem rentTell {gv:Nat}{h:HD}{d:Int}{A:Option Addr}{n c:Nat}{l:List Int}(a:Nat)(w:World)(v:ViewR w gv h d A n c l):
 Calls Tryz.prog 156 #[.pointer (some ⟨gv,0,none⟩),.int .u64 (a:Int)] w (TellE w.heap.size h l n a w):=by
 have b1:=Lib.hid ((Below.refl w.heap.size w).alloc (Nat.le_refl _) (.cells ez 205))
 have v1:=v.below b1.out
 have c91:=v1.blk.cell (rview_b _ _ _)
 have Z1:=Lib.hid (heap_alloc_new w (.cells ez 205))
 have s1:=Lib.hid (show w.heap.size<(w.alloc (.cells ez 205)).heap.size by simp)
 unfold TellE
 by_cases hr:rng h n a
 ·have HI:=Lib.hid (in_yes a _ v1 hr)
  have HR:=Lib.hid (rreadEntry_n A l n c a _ v1.by_ v1.len (by have:=v1.big;omega) v1.cap v1.capm (by have:=v1.big;have:=hr.2;omega))
  unfold EntTold2 at HR
  unfold eN9 eK9 eC9 ecode9
  simp only[if_pos hr]
  clear v v1 hr
  generalize eNum l a 0=s0 at*
  generalize eNum l a 8=s8 at*
  generalize eNum l a 16=s16 at*
  generalize eNum l a 40=s40 at*
  generalize eK l a=kk at*
  generalize eN l a=mm at*
  generalize itA (bodyL l a)=fa at*
  generalize itH (bodyL l a)=fh at*
  generalize entC0 l a=cd at*
  go_enter Tryz.func156,Tryz.ntmps156
  go_wp2_with(first
   |(go_at_call 136;(refine HI.out.mono ?_);rintro e w1 ⟨rfl,rfl⟩)
   |(go_at_call 196;(refine HR.out.mono ?_);rintro e w2 ⟨A2,c2,rfl,hb2,hy2,hw2⟩;have B2:=Lib.hid (b1.out.trans (hb2.mono b1.out.size));have Z2:=Lib.hid ((hb2.block _ s1.out).trans Z1.out);have HY2:=Lib.hid hy2;have HW2:=Lib.hid hw2;clear hy2 hw2;clear hb2)
   |((with_reducible apply at_store (.tmp 4) (.tmp 20));refine wpList_store_row rfl 205 (.tmp 4) (.tmp 20) rfl w.heap.size (entL s0 s8 s16 kk s40 A2 mm c2).toArray rfl rfl 205 ez Z2.out (by kernel_rfl) rfl (by first|exact ent_one _ _ _ _ _ _ _ _|exact z_one) ?_)
   |fail)
  refine bodyPost_ret (v:= .tuple #[entV s0 s8 s16 kk s40 A2 mm c2,.int .i64 cd]) (by exact res_rowG Tryz.results156 _ _ w.heap.size 205 _ (0,0) _ _ rfl rfl (setRow_heap _ w.heap.size _ _ _ (0,0) Z2.out) Tryz.underlying205 rfl (by kernel_rfl)) rfl ?_
  exact⟨below_setRow B2.out (Nat.le_refl _) _,A2,c2,rfl,In2.setRow HY2.out (Ri.new_ne HW2.out s1.out) _,Ri.new_mono HW2.out (Nat.le_of_lt s1.out)⟩
 ·have HI:=Lib.hid (in_no a _ v1 hr)
  unfold eN9 eK9 eC9 ecode9
  simp only[if_neg hr]
  clear v v1 hr
  go_enter Tryz.func156,Tryz.ntmps156
  go_wp2_with(first
   |(go_at_call 136;(refine HI.out.mono ?_);rintro e w1 ⟨rfl,rfl⟩)
   |((with_reducible apply at_slot 12);refine Yz.wpList_build_as rfl 205 _ rfl ez (by kernel_rfl) ?_)
   |((with_reducible apply at_store (.tmp 4) (.tmp 12));refine wpList_store_row rfl 205 (.tmp 4) (.tmp 12) rfl w.heap.size ez rfl rfl 205 ez Z1.out (by kernel_rfl) rfl (by first|exact z_one|exact ent_one _ _ _ _ _ _ _ _) ?_)
   |fail)
  refine bodyPost_ret (v:= .tuple #[.agg ez,.int .i64 2]) (by exact res_rowG Tryz.results156 _ _ w.heap.size 205 _ (0,0) _ _ rfl rfl (setRow_heap _ w.heap.size _ _ _ (0,0) Z1.out) Tryz.underlying205 rfl (by kernel_rfl)) rfl ?_
  exact⟨below_setRow b1.out (Nat.le_refl _) _,none,0,rfl,fun i hi=>absurd hi (Nat.not_lt_zero i),none_new _⟩
theorem rarrTell {gv:Nat}{h:HD}{d:Int}{A:Option Addr}{n c:Nat}{l:List Int}(a:Nat)(w:World)(v:ViewR w gv h d A n c l):
 Calls Tryz.prog 152 #[.pointer (some ⟨gv,0,none⟩),.int .u64 (a:Int)] w (TellA w.heap.size h l n a w):=by
 have b1:=Lib.hid ((Below.refl w.heap.size w).alloc (Nat.le_refl _) (.cells az 238))
 have v1:=v.below b1.out
 have c91:=v1.blk.cell (rview_b _ _ _)
 have Z1:=Lib.hid (heap_alloc_new w (.cells az 238))
 have s1:=Lib.hid (show w.heap.size<(w.alloc (.cells az 238)).heap.size by simp)
 unfold TellA
 by_cases hr:rng h n a
 ·have HI:=Lib.hid (in_yes a _ v1 hr)
  have HR:=Lib.hid (rreadArray_n A l n c a _ v1.by_ v1.len (by have:=v1.big;omega) v1.cap v1.capm (by have:=v1.big;have:=hr.2;omega))
  unfold ArrTold2 at HR
  unfold aX9 aC9 arcode
  simp only[if_pos hr]
  clear v v1 hr
  generalize arX l a=x0 at*
  generalize arM l a=mm at*
  generalize arF (bodyL l a)=fa at*
  generalize ecode l a 6 8 8=cd at*
  go_enter Tryz.func152,Tryz.ntmps152
  go_wp2_with(first
   |(go_at_call 136;(refine HI.out.mono ?_);rintro e w1 ⟨rfl,rfl⟩)
   |(go_at_call 190;(refine HR.out.mono ?_);rintro e w2 ⟨A2,c2,rfl,hb2,hy2,hw2⟩;have B2:=Lib.hid (b1.out.trans (hb2.mono b1.out.size));have Z2:=Lib.hid ((hb2.block _ s1.out).trans Z1.out);have HY2:=Lib.hid hy2;have HW2:=Lib.hid hw2;clear hy2 hw2;clear hb2)
   |((with_reducible apply at_store (.tmp 4) (.tmp 20));refine wpList_store_row rfl 238 (.tmp 4) (.tmp 20) rfl w.heap.size #[.int .u64 x0,.slice A2 mm c2] rfl rfl 238 az Z2.out (by kernel_rfl) rfl (by simp[Value.oneCell']) ?_)
   |fail)
  refine bodyPost_ret (v:= .tuple #[arrV x0 A2 mm c2,.int .i64 cd]) (by exact res_rowG Tryz.results152 _ _ w.heap.size 238 _ (0,0) _ _ rfl rfl (setRow_heap _ w.heap.size _ _ _ (0,0) Z2.out) Tryz.underlying238 rfl (by kernel_rfl)) rfl ?_
  exact⟨below_setRow B2.out (Nat.le_refl _) _,A2,c2,rfl,InInts.setRow HY2.out (Ri.new_ne HW2.out s1.out) _,Ri.new_mono HW2.out (Nat.le_of_lt s1.out)⟩
 ·have HI:=Lib.hid (in_no a _ v1 hr)
  unfold aX9 aC9 arcode
  simp only[if_neg hr]
  clear v v1 hr
  go_enter Tryz.func152,Tryz.ntmps152
  go_wp2_with(first
   |(go_at_call 136;(refine HI.out.mono ?_);rintro e w1 ⟨rfl,rfl⟩)
   |((with_reducible apply at_slot 12);refine Yz.wpList_build_as rfl 238 _ rfl az (by kernel_rfl) ?_)
   |((with_reducible apply at_store (.tmp 4) (.tmp 12));refine wpList_store_row rfl 238 (.tmp 4) (.tmp 12) rfl w.heap.size az rfl rfl 238 az Z1.out (by kernel_rfl) rfl (by simp[Value.oneCell']) ?_)
   |fail)
  refine bodyPost_ret (v:= .tuple #[.agg az,.int .i64 2]) (by exact res_rowG Tryz.results152 _ _ w.heap.size 238 _ (0,0) _ _ rfl rfl (setRow_heap _ w.heap.size _ _ _ (0,0) Z1.out) Tryz.underlying238 rfl (by kernel_rfl)) rfl ?_
  exact⟨below_setRow b1.out (Nat.le_refl _) _,none,0,rfl,fun i hi=>absurd hi (Nat.not_lt_zero i),none_new _⟩
end Va
end Go.Proofs.YtjecmgkmcfkcjaaGreat
