/-
  Texts beneath the proof.
-/
import Derived.Test.YtjecmgkmcfkcjaaGreatQc33
set_option linter.unusedVariables false
set_option linter.unusedSimpArgs false
set_option maxRecDepth 100000
set_option maxHeartbeats 8000000
open Go.ChangeShapes Go.WideShapes Go.ChangeAt Go.RowKit
namespace Go.Proofs.YtjecmgkmcfkcjaaGreat
namespace Rq
open Bytes8 Blk8 OwnE Ob Nr Np Yq
theorem eql_id (K:Nat→Int)(hK:IdOk K)(w:World):(binOp .eql 62 (.agg #[.int .u8 (K 0),.int .u8 (K 1),.int .u8 (K 2),.int .u8 (K 3),.int .u8 (K 4),.int .u8 (K 5),.int .u8 (K 6),.int .u8 (K 7),.int .u8 (K 8),.int .u8 (K 9),.int .u8 (K 10),.int .u8 (K 11),.int .u8 (K 12),.int .u8 (K 13),.int .u8 (K 14),.int .u8 (K 15)]) (.agg #[.int .u8 (K 0),.int .u8 (K 1),.int .u8 (K 2),.int .u8 (K 3),.int .u8 (K 4),.int .u8 (K 5),.int .u8 (K 6),.int .u8 (K 7),.int .u8 (K 8),.int .u8 (K 9),.int .u8 (K 10),.int .u8 (K 11),.int .u8 (K 12),.int .u8 (K 13),.int .u8 (K 14),.int .u8 (K 15)])).run Tryz.prog w= .ok (.bool true) w:=by
 obtain⟨r,hr,hiff⟩:=run_equalIn_deep (P:=Tryz.prog) 9998 2 62 (by kernel_rfl) w 2 2 (.agg #[.int .u8 (K 0),.int .u8 (K 1),.int .u8 (K 2),.int .u8 (K 3),.int .u8 (K 4),.int .u8 (K 5),.int .u8 (K 6),.int .u8 (K 7),.int .u8 (K 8),.int .u8 (K 9),.int .u8 (K 10),.int .u8 (K 11),.int .u8 (K 12),.int .u8 (K 13),.int .u8 (K 14),.int .u8 (K 15)]) (.agg #[.int .u8 (K 0),.int .u8 (K 1),.int .u8 (K 2),.int .u8 (K 3),.int .u8 (K 4),.int .u8 (K 5),.int .u8 (K 6),.int .u8 (K 7),.int .u8 (K 8),.int .u8 (K 9),.int .u8 (K 10),.int .u8 (K 11),.int .u8 (K 12),.int .u8 (K 13),.int .u8 (K 14),.int .u8 (K 15)]) ((idL K).map (Lit.int .u8)) ((idL K).map (Lit.int .u8)) (by kernel_rfl) (by kernel_rfl) (id_lits K hK) (id_lits K hK)
 have h:r=true:=hiff.2 rfl
 subst h
 rw[run_eql_struct,show(10000:Nat)=9998+2 from rfl,hr]
 rfl
theorem rec_range {w:World}{g:Nat}{T:TypeId}{s r m:Int}{K:Nat→Int}{F:Value}(h:Blk w g (recL s r m K F) T):w.rangeAt g 3 (idJ K):=fun j v hj=>by
 have hl:j<16:=(List.getElem?_eq_some_iff.1 hj).1
 refine h.cell (i:=3+j) ?_
 rw[idJ_get K j hl]at hj
 rcases j with _|_|_|_|_|_|_|_|_|_|_|_|_|_|_|_|j
 all_goals first|exact hj|omega
attribute [local irreducible] wpList Code.wp
end Rq
namespace Zs
open Bytes8 Blk8 Own8 OwnE Rows2 Ob Nr Np Pr8 Yq Pb8 Rq
theorem subB_yes {l m:List PR}(h: ∀x∈l,x∈m):subB l m=true:=by
 unfold subB
 rw[List.all_eq_true]
 exact fun x hx=>by simpa using h x hx
theorem recL_cong {s r m:Int}{K K2:Nat→Int}{F:Value}(h: ∀i,i<16→K i=K2 i):recL s r m K F=recL s r m K2 F:=by
 unfold recL
 rw[h 0 (by decide),h 1 (by decide),h 2 (by decide),h 3 (by decide),h 4 (by decide),h 5 (by decide),h 6 (by decide),h 7 (by decide),h 8 (by decide),h 9 (by decide),h 10 (by decide),h 11 (by decide),h 12 (by decide),h 13 (by decide),h 14 (by decide),h 15 (by decide)]
attribute [local irreducible] wpList Code.wp
theorem samerow_yes (s r m:Int)(K:Nat→Int)(hK:IdOk K)(A B:Option Addr)(n k c d:Nat)(l1 l2:List PR)(w:World)(h1:Prs w A l1)(h2:Prs w B l2)(hl1:l1.length=n)(hl2:l2.length=k)(hn:n≤1000000)(hk:k≤1000000)(hs: ∀x,x∈l1↔x∈l2):
 Calls Tryz.prog 106 #[.agg (recL s r m K (.slice A n c)).toArray,.agg (recL s r m K (.slice B k d)).toArray] w fun e w'=>e= .returned (.bool true)∧Below w.heap.size w w':=by
 have B0:=Lib.hid (((Below.refl w.heap.size w).alloc (Nat.le_refl _) (.cells (recL s r m K (.slice A n c)).toArray 64)).alloc (by simp) (.cells (recL s r m K (.slice B k d)).toArray 64))
 have P0:=Lib.hid ((show Blk (w.alloc (.cells (recL s r m K (.slice A n c)).toArray 64)) w.heap.size (recL s r m K (.slice A n c)) 64 from Blk.new w _ _).alloc (.cells (recL s r m K (.slice B k d)).toArray 64))
 have Q0:=Lib.hid (show Blk ((w.alloc (.cells (recL s r m K (.slice A n c)).toArray 64)).alloc (.cells (recL s r m K (.slice B k d)).toArray 64)) (w.heap.size+1) (recL s r m K (.slice B k d)) 64 from Blk.new_at _ _ _ _ (by simp))
 have h1':=Lib.hid (h1.below B0.out)
 have h2':=Lib.hid (h2.below B0.out)
 have heq:=eql_id K hK
 clear h1 h2
 have p0:=P0.out.cell (i:=0) rfl;have p1:=P0.out.cell (i:=1) rfl;have p2:=P0.out.cell (i:=2) rfl;have p19:=P0.out.cell (i:=19) rfl
 have q0:=Q0.out.cell (i:=0) rfl;have q1:=Q0.out.cell (i:=1) rfl;have q2:=Q0.out.cell (i:=2) rfl;have q19:=Q0.out.cell (i:=19) rfl
 go_enter Tryz.func106,Tryz.ntmps106
 go_upto_region 1 with fail
 have hlt1:=P0.out.lt
 have hlt2:=Q0.out.lt
 have PR0:=Lib.hid (rec_range P0.out)
 have QR0:=Lib.hid (rec_range Q0.out)
 generalize (w.alloc (.cells (recL s r m K (.slice A n c)).toArray 64)).alloc (.cells (recL s r m K (.slice B k d)).toArray 64)=W0 at*
 have HS1:=Lib.hid (by have q:=rwithin_any A B l1 l2 n k c d W0 h1'.out h2'.out hl1 hl2 hn hk;rw[subB_yes fun x hx=>(hs x).1 hx]at q;exact q)
 have HS2:=Lib.hid fun(W:World) (hW:Below W0.heap.size W0 W)=>by have q:=rwithin_any B A l2 l1 k n d c W (h2'.out.below hW) (h1'.out.below hW) hl2 hl1 hk hn;rw[subB_yes fun x hx=>(hs x).2 hx]at q;exact q
 have HP:=Lib.hid fun(W:World) (hW:Below W0.heap.size W0 W)=>(P0.out.below hW hlt1).cell (i:=19) rfl
 have HQ:=Lib.hid fun(W:World) (hW:Below W0.heap.size W0 W)=>(Q0.out.below hW hlt2).cell (i:=19) rfl
 go_wp2_with(first
  |(refine wpList_load_mid_want rfl 62 (.tmp 25) rfl w.heap.size 3 rfl [.int .u8 (K 0),.int .u8 (K 1),.int .u8 (K 2),.int .u8 (K 3),.int .u8 (K 4),.int .u8 (K 5),.int .u8 (K 6),.int .u8 (K 7),.int .u8 (K 8),.int .u8 (K 9),.int .u8 (K 10),.int .u8 (K 11),.int .u8 (K 12),.int .u8 (K 13),.int .u8 (K 14),.int .u8 (K 15)] _ PR0.out Tryz.underlying62 rfl idInfo ?_)
  |(refine wpList_load_mid_want rfl 62 (.tmp 27) rfl (w.heap.size+1) 3 rfl [.int .u8 (K 0),.int .u8 (K 1),.int .u8 (K 2),.int .u8 (K 3),.int .u8 (K 4),.int .u8 (K 5),.int .u8 (K 6),.int .u8 (K 7),.int .u8 (K 8),.int .u8 (K 9),.int .u8 (K 10),.int .u8 (K 11),.int .u8 (K 12),.int .u8 (K 13),.int .u8 (K 14),.int .u8 (K 15)] _ QR0.out Tryz.underlying62 rfl idInfo ?_)
  |(go_at_call 30;(with_reducible refine HS1.out.mono ?_);rintro e w2 ⟨rfl,hb2⟩;have HB2:=Lib.hid hb2;have p19b:=HP.out _ hb2;have q19b:=HQ.out _ hb2;clear hb2)
  |(go_at_call 30;(with_reducible refine(HS2.out _ HB2.out).mono ?_);rintro e w3 ⟨rfl,hb3⟩;have HB3:=Lib.hid (HB2.out.trans (hb3.mono HB2.out.size));clear hb3))
 go_ret
 exact⟨rfl,B0.out.trans (HB3.out.mono B0.out.size)⟩
end Zs
namespace Rr
open Bytes8 Blk8 Own8 OwnE Rows2 Ob Ga Gb Ma Na Np Nr Pr8 Nt Nu Ra Rc Rm Rn
open Yp Ye Yg Yh Ri
open Rd (dcode dz)
open Go1 (hcode rhd hread_any HTold magicB)
theorem eK_ok {l:List Int}{a:Nat}(h:AllB l):IdOk (eK l a):=by
 unfold eK
 split
 ·exact itK_ok (by
   unfold bodyL
   exact(h.drop _).take _)
 ·exact fun _=>⟨Int.le_refl _,by show(0:Int)<256;decide⟩
structure RecP where
 s:Int
 r:Int
 m:Int
 K:Nat→Int
 n:Nat
 pl:List PR
def recP (h:HD)(l:List Int)(n a:Nat):RecP:=if rcode h l n a=0 then⟨eNum l a 0,eNum l a 8,eNum l a 16,eK l a,eN l a,prsL (payP l (itA (bodyL l a))) (eN l a)⟩else⟨0,0,0,fun _=>0,0,[]⟩
structure RecP.Ok (p:RecP):Prop where
 K:IdOk p.K
 len:p.pl.length=p.n
 n:p.n≤1000000
theorem rcode_short {h:HD}{l:List Int}{n a:Nat}(hz:rcode h l n a=0):eN l a≤16:=by
 rcases Nat.lt_or_ge 16 (eN l a)with h1|h1
 ·have k:=rc_of h l n (ecode9 h l n a) (eN l a) (itA (bodyL l a)) (itH (bodyL l a)) (eNum l a 40)
  by_cases h2:ecode9 h l n a=0
  ·have:=k.b h2 h1
   have e:rcode h l n a=21:=this
   rw[hz]at e;cases e
  ·have e:rcode h l n a=ecode9 h l n a:=k.a h2
   rw[hz]at e
   exact absurd e.symm h2
 ·exact h1
theorem recP_ok (h:HD){l:List Int}(n a:Nat)(hl:AllB l):(recP h l n a).Ok:=by
 unfold recP
 by_cases hz:rcode h l n a=0
 ·rw[if_pos hz]
  exact⟨eK_ok hl,prsL_len _ _,by have:=rcode_short hz;show eN l a≤_;omega⟩
 ·rw[if_neg hz]
  exact⟨fun _=>⟨Int.le_refl _,by show(0:Int)<256;decide⟩,rfl,Nat.zero_le _⟩
abbrev RecP.v (p:RecP)(F:Option Addr)(c:Nat):Value:= .agg (recL p.s p.r p.m p.K (.slice F p.n c)).toArray
attribute [local irreducible] HD.cells wpList Code.wp
theorem view_head {w:World}{gv:Nat}{h:HD}{b:Value}(hv:Blk w gv (viewC h b) 123):w.rangeAt gv 0 (h.cells 21):=fun j x hj=>by
 rw[Nat.zero_add]
 refine hv.cell ?_
 unfold viewC
 rw[List.getElem?_append_left (List.getElem?_eq_some_iff.1 hj).1]
 exact hj
theorem vhead_any {gv:Nat}{h:HD}{b:Value}(w:World)(hv:Blk w gv (viewC h b) 123):Calls Tryz.prog 36 #[.pointer (some ⟨gv,0,none⟩)] w fun e w'=>e= .returned (.agg (h.cells 21).toArray)∧Below w.heap.size w w':=by
 have b1:=Lib.hid ((Below.refl w.heap.size w).alloc (Nat.le_refl _) (.cells Tryz.zeroCells78 78))
 have HR:=Lib.hid (view_head (hv.below b1.out hv.lt))
 have Z:=Lib.hid (heap_alloc_new w (.cells Tryz.zeroCells78 78))
 clear hv
 go_enter Tryz.func36,Tryz.ntmps36
 go_wp2_with(first
  |((with_reducible apply at_slot 6);refine wpList_load_mid rfl 78 (.tmp 5) rfl gv 0 rfl (h.cells 21) _ HR.out Tryz.underlying78 rfl (hcells_len _) ?_)
  |((with_reducible apply at_store (.tmp 2) (.tmp 6));refine wpList_store_row rfl 78 (.tmp 2) (.tmp 6) rfl w.heap.size (h.cells 21).toArray rfl rfl 78 Tryz.zeroCells78 Z.out (cells_info _) zeros_size (HD.one _ 21) ?_)
  |fail)
 refine bodyPost_ret (v:= .agg (h.cells 21).toArray) (by exact results_cell_row Tryz.results36 _ _ w.heap.size 78 _ (0,0) _ rfl (setRow_heap _ w.heap.size _ _ _ (0,0) Z.out) Tryz.underlying78 rfl (cells_info _)) rfl ?_
 exact⟨rfl,below_setRow b1.out (Nat.le_refl _) _⟩
end Rr
namespace Va
open Rows2 Ob Ga Gb Ok7 Np Rc Rm Rr
open Yp Yd Ye Yg Yh
open Rd (dcode dz)
open Rg (arcode az AskA arrAsk)
open Ri (ecode9 ez)
abbrev rng (h:HD)(n a:Nat):Prop:=h.N 0≤(a:Int)∧a<n
def aX9 (h:HD)(l:List Int)(n a:Nat):Int:=if rng h n a then arX l a else 0
def aC9 (h:HD)(l:List Int)(n a:Nat):Nat:=if rng h n a then arM l a else 0
def TellA (B:Nat)(h:HD)(l:List Int)(n a:Nat)(w:World)(e:Ending)(w':World):Prop:=Below w.heap.size w w'∧ ∃A' c,e= .returned (.tuple #[arrV (aX9 h l n a) A' (aC9 h l n a) c,.int .i64 (arcode h l n a)])∧InInts .u64 w' A' (aC9 h l n a) (arF (bodyL l a))∧NewIn B A'
theorem none_new (B:Nat):NewIn B none:=fun b off e=>by cases e
theorem arrTell {gv:Nat}{h:HD}{A:Option Addr}{n c:Nat}{l:List Int}(a:Nat)(w:World)(v:ViewAt w gv h A n c l)(hcm:c≤maxLen):
 Calls Tryz.prog 188 #[.pointer (some ⟨gv,0,none⟩),.int .u64 (a:Int)] w (TellA w.heap.size h l n a w):=by
 refine(arrAsk a w v hcm).mono ?_
 rintro e w' ⟨hb,hh⟩
 refine⟨hb,?_⟩
 unfold aX9 aC9 arcode
 by_cases hr:rng h n a
 ·rcases hh with⟨hz,rfl⟩|⟨hz,A',c',rfl,h1,h2⟩
  ·have e0:arcode h l n a=ecode l a 6 8 8:=if_pos hr
   rw[e0]at hz
   have t1:arX l a=0:=if_neg hz
   have t2:arM l a=0:=if_neg hz
   simp only[if_pos hr,t1,t2]
   rw[e0]
   exact⟨none,0,rfl,fun i hi=>absurd hi (Nat.not_lt_zero i),none_new _⟩
  ·have e0:arcode h l n a=ecode l a 6 8 8:=if_pos hr
   rw[e0]at hz
   simp only[if_pos hr]
   rw[hz]
   exact⟨A',c',rfl,h1,h2⟩
 ·rcases hh with⟨hz,rfl⟩|⟨hz,_⟩
  ·simp only[if_neg hr]
   rw[show arcode h l n a=2 from if_neg hr]
   exact⟨none,0,rfl,fun i hi=>absurd hi (Nat.not_lt_zero i),none_new _⟩
  ·rw[show arcode h l n a=2 from if_neg hr]at hz;cases hz
attribute [local irreducible] HD.cells wpList Code.wp
end Va
namespace Wa
open Bytes8 Own8 OwnE Ob Ga Gb Ok7 Rc Va Dc
open Yp Ye Yh
open Rg (arcode)
open Ym (wordElt)
def nothB (n:Nat)(x:Int):Bool:=decide (x=0)||decide ((n:Int)≤x)
def lastI (out:List Int):Int:=out.getLastD 0
def inA (K:List Int→List Int×Int)(E:Nat)(n ni:Int)(g:Nat→Int):Nat→Nat→List Int→List Int×Int
 |0,_,out=>K out
 |m+1,i,out=>if(out.length:Int)=n then(out,0)else if nothB E (g i)=true then(out,ni)else if g i≤lastI out then(out,13)else inA K E n ni g m (i+1) (out++ [g i])
def chase (h:HD)(l:List Int)(E:Nat)(n na ni:Int):Nat→List Int→Nat→Nat→List Int×Int
 |0,out,_,_=>(out,0)
 |f+1,out,a,last=>if(out.length:Int)=n then(out,0)else if nothB E a=true then(out,na)else if a≤last then(out,12)else if arcode h l E a≠0 then(out,arcode h l E a)else inA (fun o=>chase h l E n na ni f o (aX9 h l E a).toNat a) E n ni (arF (bodyL l a)) (aC9 h l E a) 0 out
theorem inA_full (K:List Int→List Int×Int)(E:Nat)(n ni:Int)(g:Nat→Int)(m i:Nat)(out:List Int)(h:(out.length:Int)=n)(hK:K out=(out,0)):inA K E n ni g m i out=(out,0):=by
 cases m with
 |zero=>exact hK
 |succ m=>exact if_pos h
theorem chase_full (h:HD)(l:List Int)(E:Nat)(n na ni:Int)(f:Nat)(out:List Int)(a last:Nat)(hl:(out.length:Int)=n):chase h l E n na ni f out a last=(out,0):=by
 cases f with
 |zero=>rfl
 |succ f=>exact if_pos hl
theorem aX9_nn {h:HD}{l:List Int}{E a:Nat}(hA:AllB l):aX9 h l E a=((aX9 h l E a).toNat:Int)∧(aX9 h l E a).toNat≤18446744073709551615:=by
 have hb:AllB (bodyL l a):=fun x hx=>hA x (List.mem_of_mem_drop (List.mem_of_mem_take hx))
 have h1:=u8_bd hb 0
 have h2:0≤aX9 h l E a∧aX9 h l E a≤18446744073709551615:=by
  unfold aX9 arX
  split
  ·split
   ·exact h1
   ·omega
  ·omega
 omega
theorem arF_nn {l:List Int}{a:Nat}(hA:AllB l)(i:Nat):0≤arF (bodyL l a) i∧arF (bodyL l a) i≤18446744073709551615:=u8_bd (fun x hx=>hA x (List.mem_of_mem_drop (List.mem_of_mem_take hx))) _
theorem aC_le {h:HD}{l:List Int}{n a:Nat}(hl:l.length≤1000000):aC9 h l n a≤1000000:=by
 have hb:(bodyL l a).length≤l.length:=by unfold bodyL;rw[List.length_take,List.length_drop];omega
 unfold aC9
 split
 ·unfold arM arN
  split<;>omega
 ·omega
theorem lastI_snoc (out:List Int)(x:Int):lastI (out++ [x])=x:=by simp[lastI]
def Up (E:Nat)(out:List Int):Prop:=(out.length:Int)≤lastI out∧lastI out≤(E:Int)
theorem Up.nil (E:Nat):Up E []:=⟨by simp[lastI],by simp[lastI]⟩
theorem Up.snoc {E:Nat}{out:List Int}{x:Int}(h:Up E out)(h1:lastI out<x)(h2:nothB E x=false):Up E (out++ [x]):=by
 have h3: ¬(E:Int)≤x:=by simp[nothB]at h2;omega
 refine⟨?_,?_⟩
 ·rw[lastI_snoc,List.length_append,List.length_singleton];have:=h.1;omega
 ·rw[lastI_snoc];omega
theorem last_cell (out:List Int)(m:Nat)(h:out.length=m+1):(out.map (Value.int .u64))[m]? =some (.int .u64 (lastI out)):=by
 rw[List.getElem?_map]
 have:out[m]? =some (lastI out):=by
  rw[show m=out.length-1 by omega,←List.getLast?_eq_getElem?]
  cases out with
  |nil=>simp at h
  |cons x t=>simp[lastI,List.getLastD_cons,List.getLast?_cons]
 rw[this];rfl
attribute [local irreducible] HD.cells wpList Code.wp
theorem noth_any {gv:Nat}{h:HD}{A:Option Addr}{n c:Nat}{l:List Int}(x:Int)(w:World)(v:ViewAt w gv h A n c l):Calls Tryz.prog 101 #[.pointer (some ⟨gv,0,none⟩),.int .u64 x] w fun e w'=>e= .returned (.bool (nothB n x))∧w=w':=by
 have HE:=Lib.hid (vend_any w v)
 clear v
 unfold nothB
 by_cases hx:x=0
 ·subst hx
  go_enter Tryz.func101,Tryz.ntmps101
  go_wp2_with(first
   |(go_at_call 37;(refine HE.out.mono ?_);rintro e w1 ⟨rfl,rfl⟩)
   |fail)
  go_ret
  exact⟨rfl,rfl⟩
 ·have hd:(x==0)=false:=by simpa using hx
  have hd2:decide (x=0)=false:=by simpa using hx
  rw[hd2,Bool.false_or]
  go_enter Tryz.func101,Tryz.ntmps101
  go_wp2_with(first
   |(go_at_call 37;(refine HE.out.mono ?_);rintro e w1 ⟨rfl,rfl⟩)
   |fail)
  go_ret
  exact⟨rfl,rfl⟩
def TellL (R:List Int×Int)(w:World)(e:Ending)(w':World):Prop:=Below w.heap.size w w'∧ ∃A m c,e= .returned (.tuple #[.slice A m c,.int .i64 R.2])∧OwnE 40 1 w' w.heap.size A m c (R.1.map (Value.int .u64))∧R.1.length=m
end Wa
end Go.Proofs.YtjecmgkmcfkcjaaGreat
