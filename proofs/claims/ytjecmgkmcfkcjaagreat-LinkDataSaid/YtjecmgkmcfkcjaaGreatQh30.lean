/-
  Texts beneath the proof.
-/
import Derived.WalkSmall
import Derived.Test.YtjecmgkmcfkcjaaGreatQh28
set_option linter.unusedVariables false
set_option linter.unusedSimpArgs false
set_option maxRecDepth 100000
set_option maxHeartbeats 4000000
open Go.ChangeShapes Go.WideShapes Go.ChangeAt Go.RowKit
namespace Go.Proofs.YtjecmgkmcfkcjaaGreat
namespace Ra
open Bytes8 Blk8 OwnE Ga Gb Ma Mb Na Nt Nu
open Go1 (HTold)
theorem hcells_len (h:HD):(Tryz.prog.info? 78).map (·.size)=some (h.cells 21).length:=by rw[headInfo];simp[HD.len]
theorem whole {w:World}{g:Nat}{T:TypeId}{h:HD}{m:Nat}(hb:Blk w g (h.cells m) T):w.rangeAt g 0 (h.cells m):=fun j v hj=>by rw[Nat.zero_add];exact hb.cell hj
theorem cut_hu (A:Option Addr)(len cap hi:Nat)(h2:hi≤cap)(hh:hi≤1000000)(w:World):
 (Instr.slice 23 (.slice A len cap) none (some (.int .u64 (hi:Int))) none).run Tryz.prog w= .ok (.slice (cutA A cap 0) hi cap) w:=by
 have ht:Tryz.prog.underlying 23=some (.slice (Tryz.prog.elem 23)):=by rw[elem8];exact Tryz.underlying23
 rw[run_slice_h w 23 A len cap ht .u64 hi (by omega) (by omega),elem8,sizeof8]
 unfold sliced cutA
 by_cases hc:cap=0
 ·simp[hc]
 ·simp[hc]
def viewC (h:HD)(b:Value):List Value:=h.cells 21++ [b]
theorem view_built (h:HD)(b:Value)(A:Option Addr)(n c:Nat)(e:b= .slice A n c):Tryz.prog.built 123 [(0,.agg (h.cells 21).toArray),(1,b)]=some (viewC h b).toArray:=by subst e;kernel_rfl
def bldV (parts:Array (Nat×Value)):Sem Value:=Instr.build 123 parts
theorem bldV_fold (parts:Array (Nat×Value)):Instr.build 123 parts=bldV parts:=rfl
theorem build_view (h:HD)(A:Option Addr)(n c:Nat)(w:World):(bldV #[(0,.agg (h.cells 21).toArray),(1,.slice A n c)]).run Tryz.prog w= .ok (.agg (viewC h (.slice A n c)).toArray) w:=by
 unfold bldV
 exact run_build w _ _ _ (view_built h _ A n c rfl)
attribute [local irreducible] HD.cells wpList Code.wp
attribute [local go_sem ↓] bldV_fold
end Ra
namespace Lk
open Ga Gb Nt
attribute [local irreducible] HD.cells wpList Code.wp
end Lk
namespace Rc
open Bytes8 Blk8 Own8 OwnE Rows2 Ga Gb Ra
abbrev haltE (c:Int):PanicEntry:={v:= .iface 230 (.int .i64 c),recovered:=false}
attribute [local irreducible] wpList Code.wp
theorem need_yes (c:Int)(w:World):Calls Tryz.prog 148 #[.bool true,.int .i64 c] w fun e w'=>e= .returned (.tuple #[])∧w=w':=by
 go_enter Tryz.func148,Tryz.ntmps148
 go_wp2
 go_end0
 exact⟨rfl,rfl⟩
theorem need_no (c:Int)(w:World):Calls Tryz.prog 148 #[.bool false,.int .i64 c] w fun e w'=>e= .panicked [haltE c]∧w=w':=by
 go_enter Tryz.func148,Tryz.ntmps148
 go_wp2
 exact⟨rfl,rfl,rfl⟩
structure ViewAt (w:World)(gv:Nat)(h:HD)(A:Option Addr)(n c:Nat)(l:List Int):Prop where
 blk:Blk w gv (viewC h (.slice A n c)) 123
 by_:Bytes w A l
 len:l.length=n
 cap:n≤c
 big:n≤1000000
 ok:h.Ok 21
theorem ViewAt.below {w w':World}{gv:Nat}{h:HD}{A:Option Addr}{n c:Nat}{l:List Int}(v:ViewAt w gv h A n c l)(hb:Below w.heap.size w w'):ViewAt w' gv h A n c l:=
 ⟨v.blk.below hb v.blk.lt,v.by_.below hb (Nat.le_refl _),v.len,v.cap,v.big,v.ok⟩
theorem view_N (h:HD)(b:Value)(i:Nat)(hi:i<21):(viewC h b)[67+i]? =some (.int .u64 (h.N i)):=by
 unfold viewC
 rw[List.getElem?_append_left (by rw[HD.len];omega)]
 exact h.get_N 21 i hi
theorem view_b (h:HD)(b:Value):(viewC h b)[91]? =some b:=by
 unfold viewC
 rw[List.getElem?_append_right (by rw[HD.len];omega),HD.len]
 rfl
theorem vend_any {gv:Nat}{h:HD}{A:Option Addr}{n c:Nat}{l:List Int}(w:World)(v:ViewAt w gv h A n c l):Calls Tryz.prog 37 #[.pointer (some ⟨gv,0,none⟩)] w fun e w'=>e= .returned (.int .u64 (n:Int))∧w=w':=by
 have c91:=v.blk.cell (view_b _ _)
 have hn:=v.big
 have hw:IntKind.u64.wrap (n:Int)=(n:Int):=by rw[IntKind.wrap_u64];omega
 clear v
 go_enter Tryz.func37,Tryz.ntmps37
 go_wp2
 go_ret
 exact⟨rfl,rfl⟩
theorem from_yes {gv:Nat}{h:HD}{A:Option Addr}{n c:Nat}{l:List Int}(at_:Int)(w:World)(v:ViewAt w gv h A n c l)(h1:h.N 0≤at_)(h2:at_<(n:Int)):Calls Tryz.prog 93 #[.pointer (some ⟨gv,0,none⟩),.int .u64 at_] w fun e w'=>e= .returned (.slice A n c)∧w=w':=by
 have c91:=v.blk.cell (view_b _ _)
 have c67:w.cell? ⟨gv,67,none⟩=some (.int .u64 (h.N 0)):=v.blk.cell (view_N _ _ 0 (by decide))
 have HE:=Lib.hid (vend_any w v)
 have HN:=Lib.hid (need_yes 2)
 have d1:decide (h.N 0≤at_)=true:=by simpa using h1
 have d2:decide (at_<(n:Int))=true:=by simpa using h2
 clear v
 go_enter Tryz.func93,Tryz.ntmps93
 go_wp2_with(first
  |(go_at_call 37;(refine HE.out.mono ?_);rintro e w1 ⟨rfl,rfl⟩)
  |(go_at_call 148;(refine(HN.out _).mono ?_);rintro e w1 ⟨rfl,rfl⟩)
  |fail)
 go_ret
 exact⟨rfl,rfl⟩
theorem from_no {gv:Nat}{h:HD}{A:Option Addr}{n c:Nat}{l:List Int}(at_:Int)(w:World)(v:ViewAt w gv h A n c l)(h1: ¬(h.N 0≤at_∧at_<(n:Int))):Calls Tryz.prog 93 #[.pointer (some ⟨gv,0,none⟩),.int .u64 at_] w fun e w'=>e= .panicked [haltE 2]∧w=w':=by
 have c91:=v.blk.cell (view_b _ _)
 have c67:w.cell? ⟨gv,67,none⟩=some (.int .u64 (h.N 0)):=v.blk.cell (view_N _ _ 0 (by decide))
 have HE:=Lib.hid (vend_any w v)
 have HN:=Lib.hid (need_no 2)
 clear v
 by_cases h3:h.N 0≤at_
 ·have d1:decide (h.N 0≤at_)=true:=by simpa using h3
  have d2:decide (at_<(n:Int))=false:=by simp;omega
  have d3: ¬at_<(n:Int):=by omega
  clear h1
  go_enter Tryz.func93,Tryz.ntmps93
  go_wp2_with(first
   |(go_at_call 37;(refine HE.out.mono ?_);rintro e w1 ⟨rfl,rfl⟩)
   |(go_at_call 148;(refine(HN.out _).mono ?_);rintro e w1 ⟨rfl,rfl⟩)
   |fail)
  exact⟨rfl,rfl,rfl⟩
 ·have d1:decide (h.N 0≤at_)=false:=by simpa using h3
  clear h1
  go_enter Tryz.func93,Tryz.ntmps93
  go_wp2_with(first
   |(go_at_call 148;(refine(HN.out _).mono ?_);rintro e w1 ⟨rfl,rfl⟩)
   |fail)
  exact⟨rfl,rfl,rfl⟩
end Rc
namespace Rd
open Bytes8 Blk8 Own8 OwnE Rows2 Ob Ga Gb Oj Ok7 Rc
theorem caught_idle (g3:Nat)(w:World):CallsD Tryz.prog 145 #[.pointer (some ⟨g3,0,none⟩)] .returning w fun e u' w'=>e= .returned (.tuple #[])∧u'= .returning∧w'=w:=by
 refine callsD_of_wpS Tryz.func145 rfl fun c₀ cs hu=>?_
 apply wpS_seq
 apply wpS_region
 simp[wpOpsS,go_sem,recoverD,hu,Tryz.ntmps145,Exit.thenS]
 refine wpS_of_wp ?_
 go_wp2
 cases c₀
 simp_all[bodyPostS,results,Tryz.results145]
theorem caught_halt (g3:Nat)(c y:Int)(older:List PanicEntry)(w:World)(h:Blk w g3 [.int .i64 y] 3):CallsD Tryz.prog 145 #[.pointer (some ⟨g3,0,none⟩)] (.panicking ({v:= .iface 230 (.int .i64 c),recovered:=false}::older)) w fun e u' w'=>e= .returned (.tuple #[])∧u'= .panicking ({v:= .iface 230 (.int .i64 c),recovered:=true}::older)∧w'=w.setCell ⟨g3,0,none⟩ (.int .i64 c):=by
 have c0:=h.cell (i:=0) rfl
 have z0:=h.frozen 0
 have hta: ∀w:World,(Instr.typeAssert (.iface 230 (.int .i64 c)) 20 230 true).run Tryz.prog w= .ok (.tuple #[.int .i64 c,.bool true]) w:=fun _=>by kernel_rfl
 refine callsD_of_wpS Tryz.func145 rfl fun c₀ cs hu=>?_
 apply wpS_seq
 apply wpS_region
 simp[wpOpsS,go_sem,recoverD,hu,Tryz.ntmps145,Exit.thenS]
 refine wpS_of_wp ?_
 go_wp2
 cases c₀
 simp_all[bodyPostS,results,Tryz.results145]
abbrev dz:Array Value:= #[.int .u64 0,.int .u64 0,.int .u64 0,.int .u64 0,.int .u64 0,.int .u64 0,.slice none 0 0]
theorem bytes_apart {w:World}{A:Option Addr}{l:List Int}{s:Nat}(h:Bytes w A l)(hs:w.heap[s]? =some (.cells dz 67 (0,0)))(cs:Array Value):Bytes (w.setRow s cs) A l:=by
 refine⟨h.1,fun i hi=>?_⟩
 obtain⟨b,off,e,hb,hc⟩:=h.2 i hi
 have hne:b≠s:=by
  intro he
  subst he
  rw[World.cell?,hs]at hc
  dsimp only at hc
  have hk:dz[off+i]? =some (.int .u8 (l.getD i 0)):=by simpa using hc
  have hlt:off+i<7:=by
   rcases Nat.lt_or_ge (off+i) 7 with h1|h1
   ·exact h1
   ·rw[Array.getElem?_eq_none (by simpa using h1)]at hk;cases hk
  generalize off+i=k at*
  rcases k with _|_|_|_|_|_|_|k
  all_goals first|(simp at hk)|omega
 exact⟨b,off,e,by simpa using hb,(World.cell?_of_block (setRow_other w s b cs hne)).trans hc⟩
attribute [local irreducible] wpList Code.wp
theorem got_no (a b c d e f:Int)(A:Option Addr)(n k:Nat)(cd:Int)(h0:cd≠0)(w:World):Calls Tryz.prog 146 #[dataV a b c d e f A n k,.int .i64 cd] w fun e w'=>e= .panicked [haltE cd]∧Below w.heap.size w w':=by
 have HN:=Lib.hid (need_no cd)
 have d0:(cd==0)=false:=by simpa using h0
 have b2:=Lib.hid (((Below.refl w.heap.size w).alloc (Nat.le_refl _) (.cells #[.int .u64 a,.int .u64 b,.int .u64 c,.int .u64 d,.int .u64 e,.int .u64 f,.slice A n k] 67)).alloc (by simp) (.cells dz 67))
 go_enter Tryz.func146,Tryz.ntmps146
 go_wp2_with(first
  |(go_at_call 148;(refine(HN.out _).mono ?_);rintro e w1 ⟨rfl,rfl⟩)
  |fail)
 exact⟨rfl,rfl,b2.out⟩
theorem got_yes (a b c d e f:Int)(A:Option Addr)(n k:Nat)(w:World):Calls Tryz.prog 146 #[dataV a b c d e f A n k,.int .i64 0] w fun e' w'=>e'= .returned (dataV a b c d e f A n k)∧Below w.heap.size w w':=by
 have HN:=Lib.hid (need_yes 0)
 go_enter Tryz.func146,Tryz.ntmps146
 go_wp2_with(first
  |(go_at_call 148;(refine(HN.out _).mono ?_);rintro e w1 ⟨rfl,rfl⟩)
  |fail)
 refine bodyPost_ret (v:=dataV a b c d e f A n k) (by exact results_cell_row Tryz.results146 _ _ (w.heap.size+1) 67 _ (0,0) _ rfl (heap_alloc2_new w _ _) Tryz.underlying67 rfl (by kernel_rfl)) rfl ?_
 exact⟨rfl,((Below.refl w.heap.size w).alloc (Nat.le_refl _) _).alloc (by simp) _⟩
def dcode (h:HD)(l:List Int)(n a:Nat):Int:=if h.N 0≤(a:Int)∧a<n then bcode l a 1 6 else 2
theorem vdata_out {gv:Nat}{h:HD}{A:Option Addr}{n c:Nat}{l:List Int}(a:Nat)(w:World)(v:ViewAt w gv h A n c l)(h1: ¬(h.N 0≤(a:Int)∧a<n)):
 Calls Tryz.prog 88 #[.pointer (some ⟨gv,0,none⟩),.int .u64 (a:Int)] w fun e w'=>e= .panicked [haltE 2]∧Below w.heap.size w w':=by
 have HF:=Lib.hid (from_no (a:Int) _ (v.below ((Below.refl _ _).alloc (Nat.le_refl _) (.cells dz 67))) (by omega))
 have b1:=Lib.hid ((Below.refl w.heap.size w).alloc (Nat.le_refl _) (.cells dz 67))
 clear v h1
 go_enter Tryz.func88,Tryz.ntmps88
 go_wp2_with(first
  |(go_at_call 93;(refine HF.out.mono ?_);rintro e w1 ⟨rfl,rfl⟩)
  |fail)
 exact⟨rfl,rfl,b1.out⟩
theorem vdata_in {gv:Nat}{h:HD}{A:Option Addr}{n c:Nat}{l:List Int}(a:Nat)(w:World)(v:ViewAt w gv h A n c l)(hcm:c≤maxLen)(h1:h.N 0≤(a:Int)∧a<n):
 Calls Tryz.prog 88 #[.pointer (some ⟨gv,0,none⟩),.int .u64 (a:Int)] w fun e w'=>Below w.heap.size w w'∧
  ((bcode l a 1 6≠0∧e= .panicked [haltE (bcode l a 1 6)])∨(bcode l a 1 6=0∧ ∃A' m' c',e= .returned (dataV (bnum l a 1 6 0) (bnum l a 1 6 1) (bnum l a 1 6 2) (bnum l a 1 6 3) (bnum l a 1 6 4) (bnum l a 1 6 5) A' m' c')∧Bytes w' A' (bpay l a 1 6)∧(bpay l a 1 6).length=m'∧Cap w.heap.size A' m' c')):=by
 have v1:=v.below ((Below.refl _ _).alloc (Nat.le_refl _) (.cells dz 67))
 have HF:=Lib.hid (from_yes (a:Int) _ v1 h1.1 (by omega))
 have HR:=Lib.hid (readData_n A l n c a _ v1.by_ v1.len v1.big v1.cap hcm (by have:=v.big;omega))
 have b1:=Lib.hid ((Below.refl w.heap.size w).alloc (Nat.le_refl _) (.cells dz 67))
 have Z1:=Lib.hid (heap_alloc_new w (.cells dz 67))
 have s1:=Lib.hid (show w.heap.size<(w.alloc (.cells dz 67)).heap.size by simp)
 unfold DataTold2 at HR
 generalize bnum l a 1 6 0=x0 at*
 generalize bnum l a 1 6 1=x1 at*
 generalize bnum l a 1 6 2=x2 at*
 generalize bnum l a 1 6 3=x3 at*
 generalize bnum l a 1 6 4=x4 at*
 generalize bnum l a 1 6 5=x5 at*
 generalize bcode l a 1 6=cd at*
 generalize bpay l a 1 6=pl at*
 clear v v1 h1
 by_cases hz:cd=0
 ·subst hz
  go_enter Tryz.func88,Tryz.ntmps88
  go_wp2_with(first
   |(go_at_call 93;(refine HF.out.mono ?_);rintro e w1 ⟨rfl,rfl⟩)
   |(go_at_call 64;(refine HR.out.mono ?_);rintro e w2 ⟨A2,m2,c2,rfl,hb2,hy2,hl2,hm2⟩;have B2:=Lib.hid hb2;have HY2:=Lib.hid hy2;clear hb2 hy2)
   |(go_at_call 146;(refine(got_yes x0 x1 x2 x3 x4 x5 A2 m2 c2 w2).mono ?_);rintro e w3 ⟨rfl,hb3⟩;have B3:=Lib.hid (B2.out.trans (hb3.mono B2.out.size));have HY3:=Lib.hid (HY2.out.below hb3 (Nat.le_refl _));have Z3:=Lib.hid ((B3.out.block _ s1.out).trans Z1.out);clear hb3)
   |((with_reducible apply at_store (.tmp 4) (.tmp 12));refine wpList_store_row rfl 67 (.tmp 4) (.tmp 12) rfl w.heap.size #[.int .u64 x0,.int .u64 x1,.int .u64 x2,.int .u64 x3,.int .u64 x4,.int .u64 x5,.slice A2 m2 c2] rfl rfl 67 dz Z3.out (by kernel_rfl) rfl (by simp[Value.oneCell']) ?_)
   |fail)
  refine bodyPost_ret (v:=dataV x0 x1 x2 x3 x4 x5 A2 m2 c2) (by exact results_cell_row Tryz.results88 _ _ w.heap.size 67 _ (0,0) _ rfl (setRow_heap _ w.heap.size _ _ _ (0,0) Z3.out) Tryz.underlying67 rfl (by kernel_rfl)) rfl ?_
  have b4:=below_setRow (B:=w.heap.size) (b1.out.trans (B3.out.mono b1.out.size)) (Nat.le_refl _) #[.int .u64 x0,.int .u64 x1,.int .u64 x2,.int .u64 x3,.int .u64 x4,.int .u64 x5,.slice A2 m2 c2]
  exact⟨b4,.inr ⟨trivial,A2,m2,c2,rfl,bytes_apart HY3.out Z3.out _,hl2,hm2.mono (Nat.le_of_lt s1.out)⟩⟩
 ·go_enter Tryz.func88,Tryz.ntmps88
  go_wp2_with(first
   |(go_at_call 93;(refine HF.out.mono ?_);rintro e w1 ⟨rfl,rfl⟩)
   |(go_at_call 64;(refine HR.out.mono ?_);rintro e w2 ⟨A2,m2,c2,rfl,hb2,hy2,hl2,hm2⟩;have B2:=Lib.hid (b1.out.trans (hb2.mono b1.out.size));clear hb2 hy2)
   |(go_at_call 146;(refine(got_no x0 x1 x2 x3 x4 x5 A2 m2 c2 cd hz w2).mono ?_);rintro e w3 ⟨rfl,hb3⟩;have B3:=Lib.hid (B2.out.trans (hb3.mono B2.out.size));clear hb3)
   |fail)
  exact⟨rfl,B3.out,.inl ⟨hz,rfl⟩⟩
end Rd
namespace Re
open Bytes8 Blk8 Own8 OwnE Rows2 Ob Ga Gb Gi Oj Ok7 Rc Rd
def ReadD (B:Nat)(l:List Int)(a:Nat)(cd:Int)(e:Ending)(w':World):Prop:=
 (cd≠0∧e= .panicked [haltE cd])∨(cd=0∧ ∃A' m' c',e= .returned (dataV (bnum l a 1 6 0) (bnum l a 1 6 1) (bnum l a 1 6 2) (bnum l a 1 6 3) (bnum l a 1 6 4) (bnum l a 1 6 5) A' m' c')∧Bytes w' A' (bpay l a 1 6)∧(bpay l a 1 6).length=m'∧Cap B A' m' c')
theorem vdata_any {gv:Nat}{h:HD}{A:Option Addr}{n c:Nat}{l:List Int}(a:Nat)(w:World)(v:ViewAt w gv h A n c l)(hcm:c≤maxLen):
 Calls Tryz.prog 88 #[.pointer (some ⟨gv,0,none⟩),.int .u64 (a:Int)] w fun e w'=>Below w.heap.size w w'∧ReadD w.heap.size l a (dcode h l n a) e w':=by
 unfold ReadD dcode
 by_cases h1:h.N 0≤(a:Int)∧a<n
 ·rw[if_pos h1]
  exact vdata_in a w v hcm h1
 ·rw[if_neg h1]
  refine(vdata_out a w v h1).mono ?_
  rintro e w' ⟨rfl,hb⟩
  exact⟨hb,.inl ⟨by decide,rfl⟩⟩
attribute [local irreducible] wpList Code.wp
theorem vdata_cl {gv:Nat}{h:HD}{A:Option Addr}{n c:Nat}{l:List Int}(a:Nat)(g2 g3:Nat)(w:World)(v:ViewAt w gv h A n c l)(hcm:c≤maxLen)(H2:Blk w g2 [.pointer (some ⟨gv,0,none⟩)] 27)(H3:Blk w g3 [.int .u64 (a:Int)] 40):
 Calls Tryz.prog 87 #[.pointer (some ⟨g2,0,none⟩),.pointer (some ⟨g3,0,none⟩)] w fun e w'=>Below w.heap.size w w'∧ReadD w.heap.size l a (dcode h l n a) e w':=by
 have b1:=Lib.hid ((Below.refl w.heap.size w).alloc (Nat.le_refl _) (.cells dz 67))
 have v1:=v.below b1.out
 have c2:=(H2.alloc (.cells dz 67)).cell (i:=0) rfl
 have c3:=(H3.alloc (.cells dz 67)).cell (i:=0) rfl
 have HV:=Lib.hid (vdata_any a _ v1 hcm)
 have Z1:=Lib.hid (heap_alloc_new w (.cells dz 67))
 have s1:=Lib.hid (show w.heap.size<(w.alloc (.cells dz 67)).heap.size by simp)
 unfold ReadD at HV⊢
 generalize bnum l a 1 6 0=x0 at*
 generalize bnum l a 1 6 1=x1 at*
 generalize bnum l a 1 6 2=x2 at*
 generalize bnum l a 1 6 3=x3 at*
 generalize bnum l a 1 6 4=x4 at*
 generalize bnum l a 1 6 5=x5 at*
 generalize dcode h l n a=cd at*
 generalize bpay l a 1 6=pl at*
 clear v v1 H2 H3
 by_cases hz:cd=0
 ·subst hz
  go_enter Tryz.func87,Tryz.ntmps87
  go_wp2_with(first
   |(go_at_call 88;(refine HV.out.mono ?_);rintro e w3 ⟨hb3,⟨hne,_⟩|⟨_,A2,m2,c2',rfl,hy2,hl2,hm2⟩⟩;(exact absurd rfl hne);have B3:=Lib.hid (b1.out.trans (hb3.mono b1.out.size));have HY3:=Lib.hid hy2;have Z3:=Lib.hid ((hb3.block _ s1.out).trans Z1.out);clear hb3 hy2)
   |((with_reducible apply at_store (.tmp 2) (.tmp 5));refine wpList_store_row rfl 67 (.tmp 2) (.tmp 5) rfl w.heap.size #[.int .u64 x0,.int .u64 x1,.int .u64 x2,.int .u64 x3,.int .u64 x4,.int .u64 x5,.slice A2 m2 c2'] rfl rfl 67 dz Z3.out (by kernel_rfl) rfl (by simp[Value.oneCell']) ?_)
   |fail)
  refine bodyPost_ret (v:=dataV x0 x1 x2 x3 x4 x5 A2 m2 c2') (by exact results_cell_row Tryz.results87 _ _ w.heap.size 67 _ (0,0) _ rfl (setRow_heap _ w.heap.size _ _ _ (0,0) Z3.out) Tryz.underlying67 rfl (by kernel_rfl)) rfl ?_
  have b4:=below_setRow (B:=w.heap.size) B3.out (Nat.le_refl _) #[.int .u64 x0,.int .u64 x1,.int .u64 x2,.int .u64 x3,.int .u64 x4,.int .u64 x5,.slice A2 m2 c2']
  exact⟨b4,.inr ⟨trivial,A2,m2,c2',rfl,bytes_apart HY3.out Z3.out _,hl2,hm2.mono (Nat.le_of_lt s1.out)⟩⟩
 ·go_enter Tryz.func87,Tryz.ntmps87
  go_wp2_with(first
   |(go_at_call 88;(refine HV.out.mono ?_);rintro e w3 ⟨hb3,⟨_,rfl⟩|⟨he,_⟩⟩;rotate_left;(exact absurd he hz);have B3:=Lib.hid (b1.out.trans (hb3.mono b1.out.size));clear hb3)
   |fail)
  exact⟨rfl,B3.out,.inl ⟨hz,rfl⟩⟩
theorem bytes_code {w:World}{A:Option Addr}{l:List Int}{g:Nat}{x:Int}(h:Bytes w A l)(hg:Blk w g [.int .i64 x] 3)(v:Value):Bytes (w.setCell ⟨g,0,none⟩ v) A l:=by
 refine⟨h.1,fun i hi=>?_⟩
 obtain⟨b,off,e,hb,hc⟩:=h.2 i hi
 have hne:b≠g:=by
  intro he
  subst he
  have hgg:w.heap[b]? =some (.cells #[.int .i64 x] 3 (0,0)):=hg
  rw[World.cell?,hgg]at hc
  dsimp only at hc
  generalize off+i=k at*
  rcases k with _|k
  ·simp at hc
  ·simp at hc
 exact⟨b,off,e,by simpa using hb,(World.cell?_of_block (Below.heap_setCell w ⟨g,0,none⟩ v b hne)).trans hc⟩
theorem res_row_cell {P:Program}{fn:Func}{p q:Tmp}{ty ty2:TypeId}(h:fn.results= #[.cell p ty,.cell q ty2])(tmps:Array Value)(w:World)(g gq:Nat)(t:TypeId)(cs:Array Value)(fr:Nat×Nat)(d:TypeDesc)(c:Value)
 (hp:tmps.getD p undef= .pointer (some ⟨g,0,none⟩))(hq:tmps.getD q undef= .pointer (some ⟨gq,0,none⟩))(hg:w.heap[g]? =some (.cells cs t fr))(hu:P.underlying ty=some d)(hd:(match d with| .struct _| .array _ _=>true|_=>false)=true)(hi:(P.info? ty).map (·.size)=some cs.size)
 (hl:(loadVar ty2 ⟨gq,0,none⟩).run P w= .ok c w):(results fn tmps).run P w= .ok (.tuple #[.agg cs,c]) w:=by
 have hp':tmps[p]?.getD undef= .pointer (some ⟨g,0,none⟩):=by simpa using hp
 have hq':tmps[q]?.getD undef= .pointer (some ⟨gq,0,none⟩):=by simpa using hq
 simp[results,h,hp',hq',asAddr,run_loadVar_row w g t ty cs fr d hg hu hd hi,hl]
theorem load_code (g:Nat)(x:Int)(w:World)(h:Blk w g [.int .i64 x] 3):(loadVar 3 ⟨g,0,none⟩).run Tryz.prog w= .ok (.int .i64 x) w:=by
 have c0:=h.cell (i:=0) rfl
 simp[loadVar,go_sem,c0,Tryz.underlying3]
def AskD (B:Nat)(l:List Int)(a:Nat)(cd:Int)(e:Ending)(w':World):Prop:=
 (cd≠0∧e= .returned (.tuple #[.agg dz,.int .i64 cd]))∨(cd=0∧ ∃A' m' c',e= .returned (.tuple #[dataV (bnum l a 1 6 0) (bnum l a 1 6 1) (bnum l a 1 6 2) (bnum l a 1 6 3) (bnum l a 1 6 4) (bnum l a 1 6 5) A' m' c',.int .i64 0])∧Bytes w' A' (bpay l a 1 6)∧(bpay l a 1 6).length=m'∧Cap B A' m' c')
theorem asked_any {gv:Nat}{h:HD}{A:Option Addr}{n c:Nat}{l:List Int}(a:Nat)(g2 g3:Nat)(w:World)(v:ViewAt w gv h A n c l)(hcm:c≤maxLen)(H2:Blk w g2 [.pointer (some ⟨gv,0,none⟩)] 27)(H3:Blk w g3 [.int .u64 (a:Int)] 40):
 Calls Tryz.prog 86 #[.func (.func 87) #[] #[.pointer (some ⟨g2,0,none⟩),.pointer (some ⟨g3,0,none⟩)]] w fun e w'=>Below w.heap.size w w'∧AskD w.heap.size l a (dcode h l n a) e w':=by
 have b1:=Lib.hid ((Below.refl w.heap.size w).alloc (Nat.le_refl _) (.cells dz 67))
 have b2:=Lib.hid (b1.out.alloc b1.out.size (.cells #[.int .i64 0] 3))
 have v2:=v.below b2.out
 have HV:=Lib.hid (vdata_cl a g2 g3 _ v2 hcm (H2.below b2.out H2.lt) (H3.below b2.out H3.lt))
 have S1:(w.alloc (.cells dz 67)).heap.size=w.heap.size+1:=by simp only[World.alloc,Array.size_push]
 have S2:((w.alloc (.cells dz 67)).alloc (.cells #[.int .i64 0] 3)).heap.size=w.heap.size+1+1:=by simp only[World.alloc,Array.size_push]
 have Z2:=Lib.hid ((Below.heap_alloc (w.alloc (.cells dz 67)) (.cells #[.int .i64 0] 3) w.heap.size (by rw[S1];omega)).trans (heap_alloc_new w (.cells dz 67)))
 have R2:=Lib.hid (Blk.new_at (w.alloc (.cells dz 67)) [.int .i64 0] 3 _ S1)
 have hfn: ∀(fn:Fn) (first cap:Array Value) (w:World),(Instr.makeFunc fn first cap).run Tryz.prog w= .ok (.func fn first cap) w:=fun _ _ _ _=>rfl
 unfold ReadD at HV
 unfold AskD
 generalize bnum l a 1 6 0=x0 at*
 generalize bnum l a 1 6 1=x1 at*
 generalize bnum l a 1 6 2=x2 at*
 generalize bnum l a 1 6 3=x3 at*
 generalize bnum l a 1 6 4=x4 at*
 generalize bnum l a 1 6 5=x5 at*
 generalize dcode h l n a=cd at*
 generalize bpay l a 1 6=pl at*
 clear v v2 H2 H3
 by_cases hz:cd=0
 ·subst hz
  go_enter_defers Tryz.func86,Tryz.ntmps86
  go_wp2_with(first
   |(go_at_call 87;(refine HV.out.mono ?_);rintro e w3 ⟨hb3,⟨hne,_⟩|⟨_,A2,m2,c2',rfl,hy2,hl2,hm2⟩⟩;(exact absurd rfl hne);have B3:=Lib.hid (b2.out.trans (hb3.mono b2.out.size));have HY3:=Lib.hid hy2;have Z3:=Lib.hid ((hb3.block _ (by rw[S2];omega)).trans Z2.out);have R3:=Lib.hid (R2.out.below hb3 (by rw[S2];omega));clear hb3 hy2)
   |((with_reducible apply at_store (.tmp 2) (.tmp 6));refine wpList_store_row rfl 67 (.tmp 2) (.tmp 6) rfl w.heap.size #[.int .u64 x0,.int .u64 x1,.int .u64 x2,.int .u64 x3,.int .u64 x4,.int .u64 x5,.slice A2 m2 c2'] rfl rfl 67 dz Z3.out (by kernel_rfl) rfl (by simp[Value.oneCell']) ?_;have R4:=Lib.hid (show Blk (w3.setRow w.heap.size #[.int .u64 x0,.int .u64 x1,.int .u64 x2,.int .u64 x3,.int .u64 x4,.int .u64 x5,.slice A2 m2 c2']) (w.heap.size+1) [.int .i64 0] 3 from(setRow_other w3 w.heap.size (w.heap.size+1) _ (Nat.succ_ne_self _)).trans R3.out);have c4:=R4.out.cell (i:=0) rfl;have z4:=R4.out.frozen 0)
   |fail)
  refine leaves_cons (f:=145) (args:= #[.pointer (some ⟨w.heap.size+1,0,none⟩)]) (by simp) (by simp[go_sem]) ?_
  refine(caught_idle _ _).mono ?_
  rintro e u' w'' ⟨rfl,rfl,rfl⟩
  have b4:=(below_setRow (B:=w.heap.size) B3.out (Nat.le_refl _) #[.int .u64 x0,.int .u64 x1,.int .u64 x2,.int .u64 x3,.int .u64 x4,.int .u64 x5,.slice A2 m2 c2']).setCell (p:=⟨w.heap.size+1,0,none⟩) (Nat.le_succ _) (.int .i64 0)
  exact⟨.tuple #[dataV x0 x1 x2 x3 x4 x5 A2 m2 c2',.int .i64 0],(by exact res_row_cell Tryz.results86 _ _ w.heap.size (w.heap.size+1) 67 _ (0,0) _ _ rfl rfl ((Below.heap_setCell _ _ _ _ (Nat.succ_ne_self _).symm).trans (setRow_heap _ w.heap.size _ _ _ (0,0) Z3.out)) Tryz.underlying67 rfl (by kernel_rfl) (load_code _ _ _ (R4.out.set_ 0 _))),b4,.inr ⟨trivial,A2,m2,c2',rfl,bytes_code (bytes_apart HY3.out Z3.out _) R4.out _,hl2,hm2.mono b2.out.size⟩⟩
 ·go_enter_defers Tryz.func86,Tryz.ntmps86
  go_wp2_with(first
   |(go_at_call 87;(refine HV.out.mono ?_);rintro e w3 ⟨hb3,⟨_,rfl⟩|⟨he,_⟩⟩;rotate_left;(exact absurd he hz);have B3:=Lib.hid (b2.out.trans (hb3.mono b2.out.size));have Z3:=Lib.hid ((hb3.block _ (by rw[S2];omega)).trans Z2.out);have R3:=Lib.hid (R2.out.below hb3 (by rw[S2];omega));clear hb3)
   |fail)
  refine leaves_cons (f:=145) (args:= #[.pointer (some ⟨w.heap.size+1,0,none⟩)]) (by simp) (by simp[go_sem]) ?_
  refine(caught_halt _ cd 0 [] _ R3.out).mono ?_
  rintro e u' w'' ⟨rfl,rfl,rfl⟩
  have b4:=B3.out.setCell (p:=⟨w.heap.size+1,0,none⟩) (Nat.le_succ _) (.int .i64 cd)
  exact⟨.tuple #[.agg dz,.int .i64 cd],(by exact res_row_cell Tryz.results86 _ _ w.heap.size (w.heap.size+1) 67 _ (0,0) _ _ rfl rfl ((Below.heap_setCell _ _ _ _ (Nat.succ_ne_self _).symm).trans Z3.out) Tryz.underlying67 rfl (by kernel_rfl) (load_code _ _ _ (R3.out.set_ 0 _))),b4,.inl ⟨hz,rfl⟩⟩
theorem dataAsk {gv:Nat}{h:HD}{A:Option Addr}{n c:Nat}{l:List Int}(a:Nat)(w:World)(v:ViewAt w gv h A n c l)(hcm:c≤maxLen):
 Calls Tryz.prog 32 #[.pointer (some ⟨gv,0,none⟩),.int .u64 (a:Int)] w fun e w'=>Below w.heap.size w w'∧AskD w.heap.size l a (dcode h l n a) e w':=by
 have b1:=Lib.hid ((Below.refl w.heap.size w).alloc (Nat.le_refl _) (.cells #[.pointer (some ⟨gv,0,none⟩)] 27))
 have b2:=Lib.hid (b1.out.alloc b1.out.size (.cells #[.int .u64 (a:Int)] 40))
 have b3:=Lib.hid (b2.out.alloc b2.out.size (.cells dz 67))
 have v3:=v.below b3.out
 have S1:(w.alloc (.cells #[.pointer (some ⟨gv,0,none⟩)] 27)).heap.size=w.heap.size+1:=by simp only[World.alloc,Array.size_push]
 have S2:((w.alloc (.cells #[.pointer (some ⟨gv,0,none⟩)] 27)).alloc (.cells #[.int .u64 (a:Int)] 40)).heap.size=w.heap.size+1+1:=by simp only[World.alloc,Array.size_push]
 have S3:(((w.alloc (.cells #[.pointer (some ⟨gv,0,none⟩)] 27)).alloc (.cells #[.int .u64 (a:Int)] 40)).alloc (.cells dz 67)).heap.size=w.heap.size+1+1+1:=by simp only[World.alloc,Array.size_push]
 have K1:=((Blk.new w [.pointer (some ⟨gv,0,none⟩)] 27).alloc (.cells #[.int .u64 (a:Int)] 40)).alloc (.cells dz 67)
 have K2:=(Blk.new_at (w.alloc (.cells #[.pointer (some ⟨gv,0,none⟩)] 27)) [.int .u64 (a:Int)] 40 _ S1).alloc (.cells dz 67)
 have HV:=Lib.hid (asked_any a w.heap.size (w.heap.size+1) _ v3 hcm K1 K2)
 have Z3:=Lib.hid (show(((w.alloc (.cells #[.pointer (some ⟨gv,0,none⟩)] 27)).alloc (.cells #[.int .u64 (a:Int)] 40)).alloc (.cells dz 67)).heap[w.heap.size+1+1]? =some (.cells dz 67 (0,0))from S2▸heap_alloc_new _ (.cells dz 67))
 have hfn: ∀(fn:Fn) (first cap:Array Value) (w:World),(Instr.makeFunc fn first cap).run Tryz.prog w= .ok (.func fn first cap) w:=fun _ _ _ _=>rfl
 unfold AskD at HV⊢
 generalize bnum l a 1 6 0=x0 at*
 generalize bnum l a 1 6 1=x1 at*
 generalize bnum l a 1 6 2=x2 at*
 generalize bnum l a 1 6 3=x3 at*
 generalize bnum l a 1 6 4=x4 at*
 generalize bnum l a 1 6 5=x5 at*
 generalize dcode h l n a=cd at*
 generalize bpay l a 1 6=pl at*
 clear v v3 K1 K2
 by_cases hz:cd=0
 ·subst hz
  go_enter Tryz.func32,Tryz.ntmps32
  go_wp2_with(first
   |(go_at_call 86;(refine HV.out.mono ?_);rintro e w4 ⟨hb4,⟨hne,_⟩|⟨_,A2,m2,c2',rfl,hy2,hl2,hm2⟩⟩;(exact absurd rfl hne);have B4:=Lib.hid (b3.out.trans (hb4.mono b3.out.size));have HY4:=Lib.hid hy2;have Z4:=Lib.hid ((hb4.block _ (by rw[S3];omega)).trans Z3.out);clear hb4 hy2)
   |((with_reducible apply at_store (.tmp 4) (.tmp 8));refine wpList_store_row rfl 67 (.tmp 4) (.tmp 8) rfl (w.heap.size+1+1) #[.int .u64 x0,.int .u64 x1,.int .u64 x2,.int .u64 x3,.int .u64 x4,.int .u64 x5,.slice A2 m2 c2'] rfl rfl 67 dz Z4.out (by kernel_rfl) rfl (by simp[Value.oneCell']) ?_)
   |fail)
  refine bodyPost_ret (v:= .tuple #[dataV x0 x1 x2 x3 x4 x5 A2 m2 c2',.int .i64 0]) (by exact res_rowG Tryz.results32 _ _ (w.heap.size+1+1) 67 _ (0,0) _ _ rfl rfl (setRow_heap _ (w.heap.size+1+1) _ _ _ (0,0) Z4.out) Tryz.underlying67 rfl (by kernel_rfl)) rfl ?_
  have b5:=below_setRow (B:=w.heap.size) (g:=w.heap.size+1+1) B4.out (by omega) #[.int .u64 x0,.int .u64 x1,.int .u64 x2,.int .u64 x3,.int .u64 x4,.int .u64 x5,.slice A2 m2 c2']
  exact⟨b5,.inr ⟨trivial,A2,m2,c2',rfl,bytes_apart HY4.out Z4.out _,hl2,hm2.mono b3.out.size⟩⟩
 ·go_enter Tryz.func32,Tryz.ntmps32
  go_wp2_with(first
   |(go_at_call 86;(refine HV.out.mono ?_);rintro e w4 ⟨hb4,⟨_,rfl⟩|⟨he,_⟩⟩;rotate_left;(exact absurd he hz);have B4:=Lib.hid (b3.out.trans (hb4.mono b3.out.size));have Z4:=Lib.hid ((hb4.block _ (by rw[S3];omega)).trans Z3.out);clear hb4)
   |((with_reducible apply at_store (.tmp 4) (.tmp 8));refine wpList_store_row rfl 67 (.tmp 4) (.tmp 8) rfl (w.heap.size+1+1) dz rfl rfl 67 dz Z4.out (by kernel_rfl) rfl (by simp[Value.oneCell']) ?_)
   |fail)
  refine bodyPost_ret (v:= .tuple #[.agg dz,.int .i64 cd]) (by exact res_rowG Tryz.results32 _ _ (w.heap.size+1+1) 67 _ (0,0) _ _ rfl rfl (setRow_heap _ (w.heap.size+1+1) _ _ _ (0,0) Z4.out) Tryz.underlying67 rfl (by kernel_rfl)) rfl ?_
  have b5:=below_setRow (B:=w.heap.size) (g:=w.heap.size+1+1) B4.out (by omega) dz
  exact⟨b5,.inl ⟨hz,rfl⟩⟩
end Re
end Go.Proofs.YtjecmgkmcfkcjaaGreat
