/-
  Texts beneath the proof.
-/
import Derived.Test.YtjecmgkmcfkcjaaGreatQa1
import Derived.Test.YtjecmgkmcfkcjaaGreatQa35
import Derived.Test.YtjecmgkmcfkcjaaGreatQa21
import Derived.Test.YtjecmgkmcfkcjaaGreatQa13
import Derived.Test.YtjecmgkmcfkcjaaGreatQa32
import Derived.Test.YtjecmgkmcfkcjaaGreatQa34
import Derived.Test.YtjecmgkmcfkcjaaGreatQa33
import Derived.Test.YtjecmgkmcfkcjaaGreatQa8
import Derived.Test.YtjecmgkmcfkcjaaGreatQa14
set_option linter.unusedVariables false
set_option linter.unusedSimpArgs false
set_option maxRecDepth 100000
set_option maxHeartbeats 4000000
open Go.ChangeShapes Go.WideShapes Go.ChangeAt Go.RowKit
namespace Go.Proofs.YtjecmgkmcfkcjaaGreat
namespace Rq
attribute [local irreducible] wpList Code.wp
end Rq
namespace Rr
open Ga Gb Np
open Ye
open Rd (dcode dz)
open Go1 (hcode rhd hread_any HTold magicB)
attribute [local irreducible] HD.cells wpList Code.wp
end Rr
namespace Va
open Bytes8 Blk8 Own8 OwnE Rows2 Ob Ga Gb Gi Oj Ok7 Ol7 Np Pr8 Rc Rm
open Ye
open Rd (dcode dz)
open Re (AskD)
open Rf (fcode fz AskF fieldAsk)
structure ViewR (w:World)(gv:Nat)(h:HD)(d:Int)(A:Option Addr)(n c:Nat)(l:List Int):Prop where
 blk:Blk w gv (h.cells 20++ [.int .u64 d,.slice A n c]) 131
 by_:Bytes w A l
 len:l.length=n
 cap:n≤c
 capm:c≤maxLen
 big:n≤800000
 ok:h.Ok 21
theorem ViewR.below {w w':World}{gv:Nat}{h:HD}{d:Int}{A:Option Addr}{n c:Nat}{l:List Int}(v:ViewR w gv h d A n c l)(hb:Below w.heap.size w w'):ViewR w' gv h d A n c l:=
 ⟨v.blk.below hb v.blk.lt,v.by_.below hb (jR _),v.len,v.cap,v.capm,v.big,v.ok⟩
theorem rview_N (h:HD)(d:Int)(b:Value)(i:Nat)(hi:i<20):(h.cells 20++ [.int .u64 d,b])[67+i]? =some (.int .u64 (h.N i)):=by
 rw[List.getElem?_append_left (by rw[HD.len];omega)]
 exact h.get_N 20 i hi
theorem rview_b (h:HD)(d:Int)(b:Value):(h.cells 20++ [.int .u64 d,b])[91]? =some b:=by
 rw[List.getElem?_append_right (by rw[HD.len];omega),HD.len]
 rfl
abbrev rng (h:HD)(n a:Nat):Prop:=h.N 0≤(a:Int)∧a<n
def dN (h:HD)(l:List Int)(n a i:Nat):Int:=if rng h n a then bnum l a 1 6 i else 0
def dP (h:HD)(l:List Int)(n a:Nat):List Int:=if rng h n a then bpay l a 1 6 else []
def TellD (B:Nat)(h:HD)(l:List Int)(n a:Nat)(w:World)(e:Ending)(w':World):Prop:=Below w.heap.size w w'∧ ∃A' m c,e= .returned (.tuple #[dataV (dN h l n a 0) (dN h l n a 1) (dN h l n a 2) (dN h l n a 3) (dN h l n a 4) (dN h l n a 5) A' m c,.int .i64 (dcode h l n a)])∧Bytes w' A' (dP h l n a)∧(dP h l n a).length=m∧Cap B A' m c
def fN (h:HD)(l:List Int)(n a i:Nat):Int:=if rng h n a then bnum l a 2 3 i else 0
def fP (h:HD)(l:List Int)(n a:Nat):List Int:=if rng h n a then bpay l a 2 3 else []
def TellF (h:HD)(l:List Int)(n a:Nat)(w:World)(e:Ending)(w':World):Prop:=Below w.heap.size w w'∧ ∃A' m c,e= .returned (.tuple #[fieldV (fN h l n a 0) (fN h l n a 1) (fN h l n a 2) A' m c,.int .i64 (fcode h l n a)])∧Bytes w' A' (fP h l n a)∧(fP h l n a).length=m∧m≤1000000
theorem cap_none (B:Nat):Cap B none 0 0:=⟨by decide,by decide,by decide,fun b off e=>by cases e⟩
theorem dataTell {gv:Nat}{h:HD}{A:Option Addr}{n c:Nat}{l:List Int}(a:Nat)(w:World)(v:ViewAt w gv h A n c l)(hcm:c≤maxLen):
 Calls Tryz.prog 32 #[.pointer (some ⟨gv,0,none⟩),.int .u64 (a:Int)] w (TellD w.heap.size h l n a w):=by
 refine(Re.dataAsk a w v hcm).mono ?_
 rintro e w' ⟨hb,hh⟩
 refine⟨hb,?_⟩
 unfold dN dP dcode
 by_cases hr:rng h n a
 ·rcases hh with⟨hz,rfl⟩|⟨hz,A',m',c',rfl,h1,h2,h3⟩
  ·have e0:dcode h l n a=bcode l a 1 6:=if_pos hr
   rw[e0]at hz
   have hn: ∀i,bnum l a 1 6 i=0:=fun i=>if_neg hz
   have hp:bpay l a 1 6=[]:=if_neg hz
   simp only[if_pos hr,hn,hp]
   rw[e0]
   exact⟨none,0,0,rfl,Bytes.nil _ _,rfl,cap_none _⟩
  ·have e0:dcode h l n a=bcode l a 1 6:=if_pos hr
   rw[e0]at hz
   simp only[if_pos hr]
   rw[hz]
   exact⟨A',m',c',rfl,h1,h2,h3⟩
 ·rcases hh with⟨hz,rfl⟩|⟨hz,_⟩
  ·simp only[if_neg hr]
   rw[show dcode h l n a=2 from if_neg hr]
   exact⟨none,0,0,rfl,Bytes.nil _ _,rfl,cap_none _⟩
  ·rw[show dcode h l n a=2 from if_neg hr]at hz;cases hz
theorem fieldTell {gv:Nat}{h:HD}{A:Option Addr}{n c:Nat}{l:List Int}(a:Nat)(w:World)(v:ViewAt w gv h A n c l)(hcm:c≤maxLen):
 Calls Tryz.prog 33 #[.pointer (some ⟨gv,0,none⟩),.int .u64 (a:Int)] w (TellF h l n a w):=by
 refine(fieldAsk a w v hcm).mono ?_
 rintro e w' ⟨hb,hh⟩
 refine⟨hb,?_⟩
 unfold fN fP fcode
 by_cases hr:rng h n a
 ·rcases hh with⟨hz,rfl⟩|⟨hz,A',m',c',rfl,h1,h2,h3⟩
  ·have e0:fcode h l n a=bcode l a 2 3:=if_pos hr
   rw[e0]at hz
   have hn: ∀i,bnum l a 2 3 i=0:=fun i=>if_neg hz
   have hp:bpay l a 2 3=[]:=if_neg hz
   simp only[if_pos hr,hn,hp]
   rw[e0]
   exact⟨none,0,0,rfl,Bytes.nil _ _,rfl,by decide⟩
  ·have e0:fcode h l n a=bcode l a 2 3:=if_pos hr
   rw[e0]at hz
   simp only[if_pos hr]
   rw[hz]
   exact⟨A',m',c',rfl,h1,h2,h3⟩
 ·rcases hh with⟨hz,rfl⟩|⟨hz,_⟩
  ·simp only[if_neg hr]
   rw[show fcode h l n a=2 from if_neg hr]
   exact⟨none,0,0,rfl,Bytes.nil _ _,rfl,by decide⟩
  ·rw[show fcode h l n a=2 from if_neg hr]at hz;cases hz
theorem bytes_row {w:World}{A:Option Addr}{l:List Int}(h:Bytes w A l){s:Nat}(hs: ∀b off,A=some ⟨b,off,none⟩→b≠s)(cs:Array Value):Bytes (w.setRow s cs) A l:=bytes_keptB h (by simp) (fun b off e _=>setRow_other w s b cs (hs b off e))
theorem bytes_zrow {w:World}{A:Option Addr}{l:List Int}{s:Nat}{z:Array Value}{T:TypeId}(h:Bytes w A l)(hs:w.heap[s]? =some (.cells z T (0,0)))(hv: ∀(k:Nat) (x:Int),z[k]? ≠some (.int .u8 x))(cs:Array Value):Bytes (w.setRow s cs) A l:=by
 refine⟨h.1,fun i hi=>?_⟩
 obtain⟨b,off,e,hb,hc⟩:=h.2 i hi
 have hne:b≠s:=by
  intro he
  subst he
  rw[World.cell?,hs]at hc
  dsimp only at hc
  exact hv (off+i) (l.getD i 0) (by simpa using hc)
 exact⟨b,off,e,by simpa using hb,(World.cell?_of_block (setRow_other w s b cs hne)).trans hc⟩
theorem fz_u8 (k:Nat)(x:Int):fz[k]? ≠some (.int .u8 x):=by
 rcases k with _|_|_|_|k<;>simp
attribute [local irreducible] HD.cells wpList Code.wp
theorem rvend_any {gv:Nat}{h:HD}{d:Int}{A:Option Addr}{n c:Nat}{l:List Int}(w:World)(v:ViewR w gv h d A n c l):Calls Tryz.prog 135 #[.pointer (some ⟨gv,0,none⟩)] w fun e w'=>e= .returned (.int .u64 (n:Int))∧w=w':=by
 have c91:=v.blk.cell (rview_b _ _ _)
 have hn:=v.big
 have hw:IntKind.u64.wrap (n:Int)=(n:Int):=by rw[IntKind.wrap_u64];omega
 clear v
 go_enter Tryz.func135,Tryz.ntmps135
 go_wp2
 go_ret
 exact⟨rfl,rfl⟩
theorem in_yes {gv:Nat}{h:HD}{d:Int}{A:Option Addr}{n c:Nat}{l:List Int}(a:Nat)(w:World)(v:ViewR w gv h d A n c l)(hr:rng h n a):Calls Tryz.prog 136 #[.pointer (some ⟨gv,0,none⟩),.int .u64 (a:Int)] w fun e w'=>e= .returned (.int .i64 0)∧w=w':=by
 have c67:w.cell? ⟨gv,67,none⟩=some (.int .u64 (h.N 0)):=v.blk.cell (rview_N _ _ _ 0 (by decide))
 have HE:=jH (rvend_any w v)
 have d1:decide ((a:Int)<h.N 0)=false:=by have:=hr.1;simp;omega
 have d2:decide ((a:Int)≥(n:Int))=false:=by have:=hr.2;simp;omega
 have d3:decide (n≤a)=false:=by have:=hr.2;simp;omega
 clear v hr
 go_enter Tryz.func136,Tryz.ntmps136
 go_wp2_with(first
  |(go_at_call 135;(refine HE.out.mono ?_);rintro e w1 ⟨rfl,rfl⟩)
  |fail)
 go_ret
 exact⟨rfl,rfl⟩
theorem in_no {gv:Nat}{h:HD}{d:Int}{A:Option Addr}{n c:Nat}{l:List Int}(a:Nat)(w:World)(v:ViewR w gv h d A n c l)(hr: ¬rng h n a):Calls Tryz.prog 136 #[.pointer (some ⟨gv,0,none⟩),.int .u64 (a:Int)] w fun e w'=>e= .returned (.int .i64 2)∧w=w':=by
 have c67:w.cell? ⟨gv,67,none⟩=some (.int .u64 (h.N 0)):=v.blk.cell (rview_N _ _ _ 0 (by decide))
 have HE:=jH (rvend_any w v)
 clear v
 by_cases h3:h.N 0≤(a:Int)
 ·have d1:decide ((a:Int)<h.N 0)=false:=by simp;omega
  have d2:decide ((a:Int)≥(n:Int))=true:=by
   have: ¬a<n:=fun h4=>hr ⟨h3,h4⟩
   simp;omega
  have d3:decide (n≤a)=true:=by
   have: ¬a<n:=fun h4=>hr ⟨h3,h4⟩
   simp;omega
  clear hr h3
  go_enter Tryz.func136,Tryz.ntmps136
  go_wp2_with(first
   |(go_at_call 135;(refine HE.out.mono ?_);rintro e w1 ⟨rfl,rfl⟩)
   |fail)
  go_ret
  exact⟨rfl,rfl⟩
 ·have d1:decide ((a:Int)<h.N 0)=true:=by simp;omega
  clear hr h3
  go_enter Tryz.func136,Tryz.ntmps136
  go_wp2_with fail
  go_ret
  exact⟨rfl,rfl⟩
theorem rdataTell {gv:Nat}{h:HD}{d:Int}{A:Option Addr}{n c:Nat}{l:List Int}(a:Nat)(w:World)(v:ViewR w gv h d A n c l):
 Calls Tryz.prog 77 #[.pointer (some ⟨gv,0,none⟩),.int .u64 (a:Int)] w (TellD w.heap.size h l n a w):=by
 have b1:=jH ((Below.refl w.heap.size w).alloc (jR _) (.cells dz 149))
 have v1:=v.below b1.out
 have c91:=v1.blk.cell (rview_b _ _ _)
 have Z1:=jH (heap_alloc_new w (.cells dz 149))
 have s1:=jH (show w.heap.size<(w.alloc (.cells dz 149)).heap.size by simp)
 unfold TellD
 by_cases hr:rng h n a
 ·have HI:=jH (in_yes a _ v1 hr)
  have HR:=jH (rreadData_n A l n c a _ v1.by_ v1.len (by have:=v1.big;omega) v1.cap v1.capm (by have:=v1.big;have:=hr.2;omega))
  unfold DataTold2 at HR
  unfold dN dP dcode
  simp only[if_pos hr]
  clear v v1 hr
  generalize bnum l a 1 6 0=x0 at*
  generalize bnum l a 1 6 1=x1 at*
  generalize bnum l a 1 6 2=x2 at*
  generalize bnum l a 1 6 3=x3 at*
  generalize bnum l a 1 6 4=x4 at*
  generalize bnum l a 1 6 5=x5 at*
  generalize bcode l a 1 6=cd at*
  generalize bpay l a 1 6=pl at*
  go_enter Tryz.func77,Tryz.ntmps77
  go_wp2_with(first
   |(go_at_call 136;(refine HI.out.mono ?_);rintro e w1 ⟨rfl,rfl⟩)
   |(go_at_call 137;(refine HR.out.mono ?_);rintro e w2 ⟨A2,m2,c2,rfl,hb2,hy2,hl2,hm2⟩;have B2:=jH (b1.out.trans (hb2.mono b1.out.size));have Z2:=jH ((hb2.block _ s1.out).trans Z1.out);have HY2:=jH hy2;have HC2:=jH hm2;clear hy2 hm2;clear hb2)
   |((with_reducible apply at_store (.tmp 4) (.tmp 20));refine wpList_store_row rfl 149 (.tmp 4) (.tmp 20) rfl w.heap.size #[.int .u64 x0,.int .u64 x1,.int .u64 x2,.int .u64 x3,.int .u64 x4,.int .u64 x5,.slice A2 m2 c2] rfl rfl 149 dz Z2.out (by kernel_rfl) rfl (by simp[Value.oneCell']) ?_)
   |fail)
  refine bodyPost_ret (v:= .tuple #[dataV x0 x1 x2 x3 x4 x5 A2 m2 c2,.int .i64 cd]) (by exact res_rowG Tryz.results77 _ _ w.heap.size 149 _ (0,0) _ _ rfl rfl (setRow_heap _ w.heap.size _ _ _ (0,0) Z2.out) Tryz.underlying149 rfl (by kernel_rfl)) rfl ?_
  exact⟨below_setRow B2.out (jR _) _,A2,m2,c2,rfl,bytes_row HY2.out (fun b off e=>Nat.ne_of_gt (jL s1.out (HC2.out.2.2.2 b off e))) _,hl2,HC2.out.mono (Nat.le_of_lt s1.out)⟩
 ·have HI:=jH (in_no a _ v1 hr)
  unfold dN dP dcode
  simp only[if_neg hr]
  clear v v1 hr
  go_enter Tryz.func77,Tryz.ntmps77
  go_wp2_with(first
   |(go_at_call 136;(refine HI.out.mono ?_);rintro e w1 ⟨rfl,rfl⟩)
   |((with_reducible apply at_slot 12);refine Yz.wpList_build_as rfl 149 _ rfl dz (by kernel_rfl) ?_)
   |((with_reducible apply at_store (.tmp 4) (.tmp 12));refine wpList_store_row rfl 149 (.tmp 4) (.tmp 12) rfl w.heap.size dz rfl rfl 149 dz Z1.out (by kernel_rfl) rfl (by simp[Value.oneCell']) ?_)
   |fail)
  refine bodyPost_ret (v:= .tuple #[.agg dz,.int .i64 2]) (by exact res_rowG Tryz.results77 _ _ w.heap.size 149 _ (0,0) _ _ rfl rfl (setRow_heap _ w.heap.size _ _ _ (0,0) Z1.out) Tryz.underlying149 rfl (by kernel_rfl)) rfl ?_
  exact⟨below_setRow b1.out (jR _) _,none,0,0,rfl,Bytes.nil _ _,rfl,cap_none _⟩
theorem rfieldTell {gv:Nat}{h:HD}{d:Int}{A:Option Addr}{n c:Nat}{l:List Int}(a:Nat)(w:World)(v:ViewR w gv h d A n c l):
 Calls Tryz.prog 78 #[.pointer (some ⟨gv,0,none⟩),.int .u64 (a:Int)] w (TellF h l n a w):=by
 have b1:=jH ((Below.refl w.heap.size w).alloc (jR _) (.cells fz 152))
 have v1:=v.below b1.out
 have c91:=v1.blk.cell (rview_b _ _ _)
 have Z1:=jH (heap_alloc_new w (.cells fz 152))
 have s1:=jH (show w.heap.size<(w.alloc (.cells fz 152)).heap.size by simp)
 unfold TellF
 by_cases hr:rng h n a
 ·have HI:=jH (in_yes a _ v1 hr)
  have HR:=jH (rreadField_any A l n c a _ v1.by_ v1.len (by have:=v1.big;omega) v1.cap v1.capm (by have:=v1.big;have:=hr.2;omega))
  unfold FieldTold at HR
  unfold fN fP fcode
  simp only[if_pos hr]
  clear v v1 hr
  generalize bnum l a 2 3 0=x0 at*
  generalize bnum l a 2 3 1=x1 at*
  generalize bnum l a 2 3 2=x2 at*
  generalize bcode l a 2 3=cd at*
  generalize bpay l a 2 3=pl at*
  go_enter Tryz.func78,Tryz.ntmps78
  go_wp2_with(first
   |(go_at_call 136;(refine HI.out.mono ?_);rintro e w1 ⟨rfl,rfl⟩)
   |(go_at_call 138;(refine HR.out.mono ?_);rintro e w2 ⟨A2,m2,c2,rfl,hb2,hy2,hl2,hm2⟩;have B2:=jH (b1.out.trans (hb2.mono b1.out.size));have Z2:=jH ((hb2.block _ s1.out).trans Z1.out);have HY2:=jH hy2;clear hy2;clear hb2)
   |((with_reducible apply at_store (.tmp 4) (.tmp 20));refine wpList_store_row rfl 152 (.tmp 4) (.tmp 20) rfl w.heap.size #[.int .u64 x0,.int .u64 x1,.int .u64 x2,.slice A2 m2 c2] rfl rfl 152 fz Z2.out (by kernel_rfl) rfl (by simp[Value.oneCell']) ?_)
   |fail)
  refine bodyPost_ret (v:= .tuple #[fieldV x0 x1 x2 A2 m2 c2,.int .i64 cd]) (by exact res_rowG Tryz.results78 _ _ w.heap.size 152 _ (0,0) _ _ rfl rfl (setRow_heap _ w.heap.size _ _ _ (0,0) Z2.out) Tryz.underlying152 rfl (by kernel_rfl)) rfl ?_
  exact⟨below_setRow B2.out (jR _) _,A2,m2,c2,rfl,bytes_zrow HY2.out Z2.out fz_u8 _,hl2,hm2⟩
 ·have HI:=jH (in_no a _ v1 hr)
  unfold fN fP fcode
  simp only[if_neg hr]
  clear v v1 hr
  go_enter Tryz.func78,Tryz.ntmps78
  go_wp2_with(first
   |(go_at_call 136;(refine HI.out.mono ?_);rintro e w1 ⟨rfl,rfl⟩)
   |((with_reducible apply at_slot 12);refine Yz.wpList_build_as rfl 152 _ rfl fz (by kernel_rfl) ?_)
   |((with_reducible apply at_store (.tmp 4) (.tmp 12));refine wpList_store_row rfl 152 (.tmp 4) (.tmp 12) rfl w.heap.size fz rfl rfl 152 fz Z1.out (by kernel_rfl) rfl (by simp[Value.oneCell']) ?_)
   |fail)
  refine bodyPost_ret (v:= .tuple #[.agg fz,.int .i64 2]) (by exact res_rowG Tryz.results78 _ _ w.heap.size 152 _ (0,0) _ _ rfl rfl (setRow_heap _ w.heap.size _ _ _ (0,0) Z1.out) Tryz.underlying152 rfl (by kernel_rfl)) rfl ?_
  exact⟨below_setRow b1.out (jR _) _,none,0,0,rfl,Bytes.nil _ _,rfl,by decide⟩
end Va
end Go.Proofs.YtjecmgkmcfkcjaaGreat
