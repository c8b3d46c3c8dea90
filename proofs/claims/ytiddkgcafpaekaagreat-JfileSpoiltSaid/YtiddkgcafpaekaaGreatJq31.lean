/-
  Texts beneath the proof.
-/
import Derived.WalkSmall
import Derived.Test.YtiddkgcafpaekaaGreatJq30
set_option linter.unusedVariables false
set_option linter.unusedSimpArgs false
set_option maxRecDepth 100000
set_option maxHeartbeats 4000000
open Go.ChangeShapes Go.WideShapes Go.ChangeAt Go.RowKit
namespace Go.Proofs.YtiddkgcafpaekaaGreat
namespace Rc
open Bytes8 Blk8 Own8 OwnE Rows2 Ga Gb Ra
abbrev haltE (c:Int):PanicEntry:={v:= .iface 337 (.int .i64 c),recovered:=false}
attribute [local irreducible] wpList Code.wp
theorem need_yes (c:Int)(w:World):Calls Tryz.prog 222 #[.bool true,.int .i64 c] w fun e w'=>e= .returned (.tuple #[])∧w=w':=by
 go_enter Tryz.func222,Tryz.ntmps222
 go_wp2
 go_end0
 exact⟨rfl,rfl⟩
theorem need_no (c:Int)(w:World):Calls Tryz.prog 222 #[.bool false,.int .i64 c] w fun e w'=>e= .panicked [haltE c]∧w=w':=by
 go_enter Tryz.func222,Tryz.ntmps222
 go_wp2
 exact⟨rfl,rfl,rfl⟩
structure ViewAt (w:World)(gv:Nat)(h:HD)(A:Option Addr)(n c:Nat)(l:List Int):Prop where
 blk:Blk w gv (viewC h (.slice A n c)) 160
 by_:Bytes w A l
 len:l.length=n
 cap:n≤c
 big:n≤1000000
 ok:h.Ok 21
theorem ViewAt.below {w w':World}{gv:Nat}{h:HD}{A:Option Addr}{n c:Nat}{l:List Int}(v:ViewAt w gv h A n c l)(hb:Below w.heap.size w w'):ViewAt w' gv h A n c l:=
 ⟨v.blk.below hb v.blk.lt,v.by_.below hb (yR _),v.len,v.cap,v.big,v.ok⟩
theorem view_N (h:HD)(b:Value)(i:Nat)(hi:i<21):(viewC h b)[67+i]? =some (.int .u64 (h.N i)):=by
 unfold viewC
 rw[List.getElem?_append_left (by rw[HD.len];omega)]
 exact h.get_N 21 i hi
theorem view_b (h:HD)(b:Value):(viewC h b)[91]? =some b:=by
 unfold viewC
 rw[List.getElem?_append_right (by rw[HD.len];omega),HD.len]
 rfl
theorem vend_any {gv:Nat}{h:HD}{A:Option Addr}{n c:Nat}{l:List Int}(w:World)(v:ViewAt w gv h A n c l):Calls Tryz.prog 105 #[.pointer (some ⟨gv,0,none⟩)] w fun e w'=>e= .returned (.int .u64 (n:Int))∧w=w':=by
 have c91:=v.blk.cell (view_b _ _)
 have hn:=v.big
 have hw:IntKind.u64.wrap (n:Int)=(n:Int):=by rw[IntKind.wrap_u64];omega
 clear v
 go_enter Tryz.func105,Tryz.ntmps105
 go_wp2
 go_ret
 exact⟨rfl,rfl⟩
theorem from_yes {gv:Nat}{h:HD}{A:Option Addr}{n c:Nat}{l:List Int}(at_:Int)(w:World)(v:ViewAt w gv h A n c l)(h1:h.N 0≤at_)(h2:at_<(n:Int)):Calls Tryz.prog 200 #[.pointer (some ⟨gv,0,none⟩),.int .u64 at_] w fun e w'=>e= .returned (.slice A n c)∧w=w':=by
 have c91:=v.blk.cell (view_b _ _)
 have c67:w.cell? ⟨gv,67,none⟩=some (.int .u64 (h.N 0)):=v.blk.cell (view_N _ _ 0 (by decide))
 have HE:=yH (vend_any w v)
 have HN:=yH (need_yes 2)
 have d1:decide (h.N 0≤at_)=true:=by simpa using h1
 have d2:decide (at_<(n:Int))=true:=by simpa using h2
 clear v
 go_enter Tryz.func200,Tryz.ntmps200
 go_wp2_with(first
  |(go_at_call 105;(refine HE.out.mono ?_);rintro e w1 ⟨rfl,rfl⟩)
  |(go_at_call 222;(refine(HN.out _).mono ?_);rintro e w1 ⟨rfl,rfl⟩)
  |fail)
 go_ret
 exact⟨rfl,rfl⟩
theorem from_no {gv:Nat}{h:HD}{A:Option Addr}{n c:Nat}{l:List Int}(at_:Int)(w:World)(v:ViewAt w gv h A n c l)(h1: ¬(h.N 0≤at_∧at_<(n:Int))):Calls Tryz.prog 200 #[.pointer (some ⟨gv,0,none⟩),.int .u64 at_] w fun e w'=>e= .panicked [haltE 2]∧w=w':=by
 have c91:=v.blk.cell (view_b _ _)
 have c67:w.cell? ⟨gv,67,none⟩=some (.int .u64 (h.N 0)):=v.blk.cell (view_N _ _ 0 (by decide))
 have HE:=yH (vend_any w v)
 have HN:=yH (need_no 2)
 clear v
 by_cases h3:h.N 0≤at_
 ·have d1:decide (h.N 0≤at_)=true:=by simpa using h3
  have d2:decide (at_<(n:Int))=false:=by simp;omega
  have d3: ¬at_<(n:Int):=by omega
  clear h1
  go_enter Tryz.func200,Tryz.ntmps200
  go_wp2_with(first
   |(go_at_call 105;(refine HE.out.mono ?_);rintro e w1 ⟨rfl,rfl⟩)
   |(go_at_call 222;(refine(HN.out _).mono ?_);rintro e w1 ⟨rfl,rfl⟩)
   |fail)
  exact⟨rfl,rfl,rfl⟩
 ·have d1:decide (h.N 0≤at_)=false:=by simpa using h3
  clear h1
  go_enter Tryz.func200,Tryz.ntmps200
  go_wp2_with(first
   |(go_at_call 222;(refine(HN.out _).mono ?_);rintro e w1 ⟨rfl,rfl⟩)
   |fail)
  exact⟨rfl,rfl,rfl⟩
end Rc
namespace Rd
open Bytes8 Blk8 Own8 OwnE Rows2 Ob Ga Gb Oj Ok7 Rc
abbrev dz:Array Value:= #[.int .u64 0,.int .u64 0,.int .u64 0,.int .u64 0,.int .u64 0,.int .u64 0,.slice none 0 0]
theorem bytes_apart {w:World}{A:Option Addr}{l:List Int}{s:Nat}(h:Bytes w A l)(hs:w.heap[s]? =some (.cells dz 65 (0,0)))(cs:Array Value):Bytes (w.setRow s cs) A l:=by
 refine⟨h.1,fun i hi=>?_⟩
 obtain⟨b,off,e,hb,hc⟩:=h.2 i hi
 have hne:b≠s:=by
  intro he
  subst he
  rw[World.cell?,hs]at hc
  dsimp only at hc
  have hk:dz[off+i]? =some (.int .u8 (l.getD i 0)):=by simpa using hc
  have hlt:off+i<7:=by
   rcases Nat.lt_or_ge (off+i) 7 with h1|h1
   ·exact h1
   ·rw[Array.getElem?_eq_none (by simpa using h1)]at hk;cases hk
  generalize off+i=k at*
  rcases k with _|_|_|_|_|_|_|k
  all_goals first|(simp at hk)|omega
 exact⟨b,off,e,by simpa using hb,(World.cell?_of_block (setRow_other w s b cs hne)).trans hc⟩
attribute [local irreducible] wpList Code.wp
theorem got_no (a b c d e f:Int)(A:Option Addr)(n k:Nat)(cd:Int)(h0:cd≠0)(w:World):Calls Tryz.prog 252 #[dataV a b c d e f A n k,.int .i64 cd] w fun e w'=>e= .panicked [haltE cd]∧Below w.heap.size w w':=by
 have HN:=yH (need_no cd)
 have d0:(cd==0)=false:=by simpa using h0
 have b2:=yH (((Below.refl w.heap.size w).alloc (yR _) (.cells #[.int .u64 a,.int .u64 b,.int .u64 c,.int .u64 d,.int .u64 e,.int .u64 f,.slice A n k] 65)).alloc (by simp) (.cells dz 65))
 go_enter Tryz.func252,Tryz.ntmps252
 go_wp2_with(first
  |(go_at_call 222;(refine(HN.out _).mono ?_);rintro e w1 ⟨rfl,rfl⟩)
  |fail)
 exact⟨rfl,rfl,b2.out⟩
theorem got_yes (a b c d e f:Int)(A:Option Addr)(n k:Nat)(w:World):Calls Tryz.prog 252 #[dataV a b c d e f A n k,.int .i64 0] w fun e' w'=>e'= .returned (dataV a b c d e f A n k)∧Below w.heap.size w w':=by
 have HN:=yH (need_yes 0)
 go_enter Tryz.func252,Tryz.ntmps252
 go_wp2_with(first
  |(go_at_call 222;(refine(HN.out _).mono ?_);rintro e w1 ⟨rfl,rfl⟩)
  |fail)
 refine bodyPost_ret (v:=dataV a b c d e f A n k) (by exact results_cell_row Tryz.results252 _ _ (w.heap.size+1) 65 _ (0,0) _ rfl (heap_alloc2_new w _ _) Tryz.underlying65 rfl (by kernel_rfl)) rfl ?_
 exact⟨rfl,((Below.refl w.heap.size w).alloc (yR _) _).alloc (by simp) _⟩
def dcode (h:HD)(l:List Int)(n a:Nat):Int:=if h.N 0≤(a:Int)∧a<n then bcode l a 1 6 else 2
theorem vdata_out {gv:Nat}{h:HD}{A:Option Addr}{n c:Nat}{l:List Int}(a:Nat)(w:World)(v:ViewAt w gv h A n c l)(h1: ¬(h.N 0≤(a:Int)∧a<n)):
 Calls Tryz.prog 229 #[.pointer (some ⟨gv,0,none⟩),.int .u64 (a:Int)] w fun e w'=>e= .panicked [haltE 2]∧Below w.heap.size w w':=by
 have HF:=yH (from_no (a:Int) _ (v.below ((Below.refl _ _).alloc (yR _) (.cells dz 65))) (by omega))
 have b1:=yH ((Below.refl w.heap.size w).alloc (yR _) (.cells dz 65))
 clear v h1
 go_enter Tryz.func229,Tryz.ntmps229
 go_wp2_with(first
  |(go_at_call 200;(refine HF.out.mono ?_);rintro e w1 ⟨rfl,rfl⟩)
  |fail)
 exact⟨rfl,rfl,b1.out⟩
theorem vdata_in {gv:Nat}{h:HD}{A:Option Addr}{n c:Nat}{l:List Int}(a:Nat)(w:World)(v:ViewAt w gv h A n c l)(hcm:c≤maxLen)(h1:h.N 0≤(a:Int)∧a<n):
 Calls Tryz.prog 229 #[.pointer (some ⟨gv,0,none⟩),.int .u64 (a:Int)] w fun e w'=>Below w.heap.size w w'∧
  ((bcode l a 1 6≠0∧e= .panicked [haltE (bcode l a 1 6)])∨(bcode l a 1 6=0∧ ∃A' m' c',e= .returned (dataV (bnum l a 1 6 0) (bnum l a 1 6 1) (bnum l a 1 6 2) (bnum l a 1 6 3) (bnum l a 1 6 4) (bnum l a 1 6 5) A' m' c')∧Bytes w' A' (bpay l a 1 6)∧(bpay l a 1 6).length=m'∧Cap w.heap.size A' m' c')):=by
 have v1:=v.below ((Below.refl _ _).alloc (yR _) (.cells dz 65))
 have HF:=yH (from_yes (a:Int) _ v1 h1.1 (by omega))
 have HR:=yH (readData_n A l n c a _ v1.by_ v1.len v1.big v1.cap hcm (by have:=v.big;omega))
 have b1:=yH ((Below.refl w.heap.size w).alloc (yR _) (.cells dz 65))
 have Z1:=yH (heap_alloc_new w (.cells dz 65))
 have s1:=yH (show w.heap.size<(w.alloc (.cells dz 65)).heap.size by simp)
 unfold DataTold2 at HR
 generalize bnum l a 1 6 0=x0 at*
 generalize bnum l a 1 6 1=x1 at*
 generalize bnum l a 1 6 2=x2 at*
 generalize bnum l a 1 6 3=x3 at*
 generalize bnum l a 1 6 4=x4 at*
 generalize bnum l a 1 6 5=x5 at*
 generalize bcode l a 1 6=cd at*
 generalize bpay l a 1 6=pl at*
 clear v v1 h1
 by_cases hz:cd=0
 ·subst hz
  go_enter Tryz.func229,Tryz.ntmps229
  go_wp2_with(first
   |(go_at_call 200;(refine HF.out.mono ?_);rintro e w1 ⟨rfl,rfl⟩)
   |(go_at_call 29;(refine HR.out.mono ?_);rintro e w2 ⟨A2,m2,c2,rfl,hb2,hy2,hl2,hm2⟩;have B2:=yH hb2;have HY2:=yH hy2;clear hb2 hy2)
   |(go_at_call 252;(refine(got_yes x0 x1 x2 x3 x4 x5 A2 m2 c2 w2).mono ?_);rintro e w3 ⟨rfl,hb3⟩;have B3:=yH (B2.out.trans (hb3.mono B2.out.size));have HY3:=yH (HY2.out.below hb3 (yR _));have Z3:=yH ((B3.out.block _ s1.out).trans Z1.out);clear hb3)
   |((with_reducible apply at_store (.tmp 4) (.tmp 12));refine wpList_store_row rfl 65 (.tmp 4) (.tmp 12) rfl w.heap.size #[.int .u64 x0,.int .u64 x1,.int .u64 x2,.int .u64 x3,.int .u64 x4,.int .u64 x5,.slice A2 m2 c2] rfl rfl 65 dz Z3.out (by kernel_rfl) rfl (by simp[Value.oneCell']) ?_)
   |fail)
  refine bodyPost_ret (v:=dataV x0 x1 x2 x3 x4 x5 A2 m2 c2) (by exact results_cell_row Tryz.results229 _ _ w.heap.size 65 _ (0,0) _ rfl (setRow_heap _ w.heap.size _ _ _ (0,0) Z3.out) Tryz.underlying65 rfl (by kernel_rfl)) rfl ?_
  have b4:=below_setRow (B:=w.heap.size) (b1.out.trans (B3.out.mono b1.out.size)) (yR _) #[.int .u64 x0,.int .u64 x1,.int .u64 x2,.int .u64 x3,.int .u64 x4,.int .u64 x5,.slice A2 m2 c2]
  exact⟨b4,.inr ⟨trivial,A2,m2,c2,rfl,bytes_apart HY3.out Z3.out _,hl2,hm2.mono (Nat.le_of_lt s1.out)⟩⟩
 ·go_enter Tryz.func229,Tryz.ntmps229
  go_wp2_with(first
   |(go_at_call 200;(refine HF.out.mono ?_);rintro e w1 ⟨rfl,rfl⟩)
   |(go_at_call 29;(refine HR.out.mono ?_);rintro e w2 ⟨A2,m2,c2,rfl,hb2,hy2,hl2,hm2⟩;have B2:=yH (b1.out.trans (hb2.mono b1.out.size));clear hb2 hy2)
   |(go_at_call 252;(refine(got_no x0 x1 x2 x3 x4 x5 A2 m2 c2 cd hz w2).mono ?_);rintro e w3 ⟨rfl,hb3⟩;have B3:=yH (B2.out.trans (hb3.mono B2.out.size));clear hb3)
   |fail)
  exact⟨rfl,B3.out,.inl ⟨hz,rfl⟩⟩
end Rd
namespace Re
open Bytes8 Blk8 OwnE Ob Ga Gb Oj Ok7 Rc Rd
def ReadD (B:Nat)(l:List Int)(a:Nat)(cd:Int)(e:Ending)(w':World):Prop:=
 (cd≠0∧e= .panicked [haltE cd])∨(cd=0∧ ∃A' m' c',e= .returned (dataV (bnum l a 1 6 0) (bnum l a 1 6 1) (bnum l a 1 6 2) (bnum l a 1 6 3) (bnum l a 1 6 4) (bnum l a 1 6 5) A' m' c')∧Bytes w' A' (bpay l a 1 6)∧(bpay l a 1 6).length=m'∧Cap B A' m' c')
theorem vdata_any {gv:Nat}{h:HD}{A:Option Addr}{n c:Nat}{l:List Int}(a:Nat)(w:World)(v:ViewAt w gv h A n c l)(hcm:c≤maxLen):
 Calls Tryz.prog 229 #[.pointer (some ⟨gv,0,none⟩),.int .u64 (a:Int)] w fun e w'=>Below w.heap.size w w'∧ReadD w.heap.size l a (dcode h l n a) e w':=by
 unfold ReadD dcode
 by_cases h1:h.N 0≤(a:Int)∧a<n
 ·rw[if_pos h1]
  exact vdata_in a w v hcm h1
 ·rw[if_neg h1]
  refine(vdata_out a w v h1).mono ?_
  rintro e w' ⟨rfl,hb⟩
  exact⟨hb,.inl ⟨by decide,rfl⟩⟩
attribute [local irreducible] wpList Code.wp
theorem res_row_cell {P:Program}{fn:Func}{p q:Tmp}{ty ty2:TypeId}(h:fn.results= #[.cell p ty,.cell q ty2])(tmps:Array Value)(w:World)(g gq:Nat)(t:TypeId)(cs:Array Value)(fr:Nat×Nat)(d:TypeDesc)(c:Value)
 (hp:tmps.getD p undef= .pointer (some ⟨g,0,none⟩))(hq:tmps.getD q undef= .pointer (some ⟨gq,0,none⟩))(hg:w.heap[g]? =some (.cells cs t fr))(hu:P.underlying ty=some d)(hd:(match d with| .struct _| .array _ _=>true|_=>false)=true)(hi:(P.info? ty).map (·.size)=some cs.size)
 (hl:(loadVar ty2 ⟨gq,0,none⟩).run P w= .ok c w):(results fn tmps).run P w= .ok (.tuple #[.agg cs,c]) w:=by
 have hp':tmps[p]?.getD undef= .pointer (some ⟨g,0,none⟩):=by simpa using hp
 have hq':tmps[q]?.getD undef= .pointer (some ⟨gq,0,none⟩):=by simpa using hq
 simp[results,h,hp',hq',asAddr,run_loadVar_row w g t ty cs fr d hg hu hd hi,hl]
theorem load_code (g:Nat)(x:Int)(w:World)(h:Blk w g [.int .i64 x] 3):(loadVar 3 ⟨g,0,none⟩).run Tryz.prog w= .ok (.int .i64 x) w:=by
 have c0:=h.cell (i:=0) rfl
 simp[loadVar,go_sem,c0,Tryz.underlying3]
end Re
namespace Rp
open Bytes8 Blk8 Own8 OwnE Rows2 Ga Gb Gf Gj Ok7 Ra Rc
open Go1 (hcode rhd hread_any HTold magicB)
def Opened (l:List Int)(E:Nat)(w:World)(e:Ending)(w':World):Prop:= ∃(gv:Nat) (A2:Option Addr) (c2:Nat),e= .returned (.tuple #[.pointer (some ⟨gv,0,none⟩),.int .i64 0])∧w.heap.size≤gv∧ViewAt w' gv (hdOf l) A2 E c2 (l.take E)∧c2≤maxLen∧Below w.heap.size w w'
attribute [local irreducible] HD.cells wpList Code.wp
attribute [local go_sem ↓] bldV_fold
theorem open_fine (l:List Int)(A:Option Addr)(n c:Nat)(w:World)(hb:Bytes w A l)(hL:l.length=n)(hn:n≤800000)(hc:n≤c)(hz:hcode l n=0)(E:Nat)(hE:endV (hdOf l)=(E:Int))(hEB:endB (hdOf l)=true)(hEn:E≤n)(hok:(hdOf l).Ok 21):
 Calls Tryz.prog 24 #[.slice A n c] w (Opened l E w):=by
 have R1:=yH (by have k:=hread_any A l n c w hb hL (by omega) hc;rw[show rhd l n=hdOf l from if_pos hz,hz]at k;exact k)
 unfold HTold at R1
 have HE:=yH fun(W:World)=>end_any (hdOf l) hok W
 rw[hE,hEB]at HE
 have HB:=yH hb
 unfold Opened
 have HLB:=yH hL
 have HOk:=yH hok
 have hTk:(l.take E).length=E:=by rw[List.length_take];omega
 generalize hdOf l=H at*
 clear hok hb hL hz hE hEB
 go_enter Tryz.func24,Tryz.ntmps24
 go_upto_region 4 with(first
  |(go_at_call 19;((refine R1.out.mono ?_);rintro e w1 ⟨rfl,hb1⟩;have B1:=yH hb1;clear hb1))
  |((with_reducible apply at_store (.tmp 4) (.tmp 11));refine wpList_store_row rfl 39 (.tmp 4) (.tmp 11) rfl w1.heap.size ((H).cells 21).toArray rfl rfl 39 Tryz.zeroCells39 (heap_alloc_new w1 _) (cells_info _) zeros_size (HD.one _ 21) ?_)
  |fail)
 have R2:=yH (show Blk ((w1.alloc (.cells Tryz.zeroCells39 39)).setRow w1.heap.size ((H).cells 21).toArray) w1.heap.size ((H).cells 21) 39 from setRow_heap _ _ _ _ _ (0,0) (heap_alloc_new w1 _))
 have B2:=yH (show Below w.heap.size w ((w1.alloc (.cells Tryz.zeroCells39 39)).setRow w1.heap.size ((H).cells 21).toArray)from below_setRow (B1.out.alloc B1.out.size _) B1.out.size _)
 generalize (w1.alloc (.cells Tryz.zeroCells39 39)).setRow w1.heap.size ((H).cells 21).toArray=w2 at*
 generalize w1.heap.size=s4 at*
 clear R1 B1
 go_upto_region 5 with(first
  |((with_reducible apply at_slot 17);refine wpList_load_row rfl 39 (.tmp 4) rfl s4 rfl 39 ((H).cells 21).toArray (0,0) _ R2.out Tryz.underlying39 rfl (cells_info _) ?_)
  |(go_at_call 71;((refine(HE.out _).mono ?_);rintro e w4 ⟨rfl,hb4⟩;have B4:=yH (B2.out.trans (hb4.mono B2.out.size));have R4:=yH (R2.out.below hb4 R2.out.lt);clear hb4))
  |fail)
 have D4:=yH (show Below w4.heap.size w4 w4.drew from(Below.refl w4.heap.size w4).drew)
 have HS:=yH fun(W:World) (hW:Below w4.heap.size w4 W)=>show(fun W:World=>W.rangeAt s4 0 ((H).cells 21)) W from whole (R4.out.below hW R4.out.lt)
 have hcut:=fun W:World=>cut_hu A n c E (by omega) (by omega) W
 have HBw:=yH (show Bytes w4.drew (cutA A c 0) (l.take E)from by
  have k:=Bytes.cut ((HB.out.below B4.out (yR _)).below D4.out (yR _)) c 0 E (by rw[HLB.out];exact hc)
  rw[List.drop_zero]at k
  exact k)
 have HCl:=yH fun(W:World) (hW:Bytes W (cutA A c 0) (l.take E))=>clone_cap (cutA A c 0) (l.take E) E c W hW hTk (by omega)
 have hbld:=fun(A':Option Addr) (c':Nat) (W:World)=>build_view H A' E c' W
 clear HE R2 B2 HB HLB hc hEn hn
 refine wp_region_noPanic ?_
 refine wp_region_held_drew (S:=fun W:World=>W.rangeAt s4 0 ((H).cells 21)) (by kernel_rfl) (by exact(HS.out _ D4.out)) (fun hHeld=>?_)
 refine tk (i:=0) (oi:=⟨some 21,_,_,_,_,_⟩) rfl (yieldsIf_load_mid (by rfl) _ _ rfl _ _ rfl _ _ (fun _ h=>h) Tryz.underlying39 rfl (hcells_len _)) ?_
 try simp only[Act.put,sA,sZ,sS]
 refine tk (i:=1) (oi:=⟨some 22,_,_,_,_,_⟩) (v:=?_) rfl (Or.inl ⟨by rfl,?_⟩) ?_
 rotate_left
 ·intro W hSw;go_simp;try (with_reducible rfl)
 try simp only[Act.put,sA,sZ,sS]
 refine tk (i:=2) (oi:=⟨some 23,_,_,_,_,_⟩) (v:=?_) rfl (Or.inl ⟨by rfl,?_⟩) ?_
 rotate_left
 ·intro W hSw;go_simp;try (with_reducible rfl)
 try simp only[Act.put,sA,sZ,sS]
 refine tk (i:=3) (oi:=⟨some 24,_,_,_,_,_⟩) (v:=?_) rfl (Or.inl ⟨by rfl,?_⟩) ?_
 rotate_left
 ·intro W hSw;go_simp;try (with_reducible rfl)
 try simp only[Act.put,sA,sZ,sS]
 refine wpAnyH_ready (rs:=[4]) (by kernel_rfl) (by simp) ?_
 refine AllReadyH.cons (o:=⟨some 25,_,_,_,_,_⟩) rfl (fun K hK=>?_) AllReadyH.nil
 go_simp
 ((refine(HCl.out _ HBw.out).mono ?_);rintro e w5 ⟨A5,c5,rfl,hby5,hb5,hcp5⟩;have B5:=yH (D4.out.trans hb5);have HB5:=yH hby5;have HC5:=yH hcp5;clear hb5 hby5 hcp5)
 try go_wp2_with fail
 refine hK.out _ _ (by exact(HS.out _ B5.out)) (fun hHeld=>?_)
 clear hK K
 try simp only[Act.put,sA,sZ,sS]
 refine tk (i:=5) (oi:=⟨some 26,_,_,_,_,_⟩) (v:=?_) rfl (Or.inl ⟨by rfl,?_⟩) ?_
 rotate_left
 ·intro W hSw;go_simp;try (with_reducible rfl)
 try simp only[Act.put,sA,sZ,sS]
 refine wpAnyH_ready (rs:=[6]) (by kernel_rfl) (by simp) ?_
 refine AllReadyH.cons (o:=⟨some 27,_,_,_,_,_⟩) rfl (fun K hK=>?_) AllReadyH.nil
 go_simp
 skip
 try go_wp2_with fail
 refine hK.out _ _ (by exact(HS.out _ (B5.out.alloc B5.out.size _))) (fun hHeld=>?_)
 clear hK K
 try simp only[Act.put,sA,sZ,sS]
 refine tk (i:=7) (oi:=⟨some 2,_,_,_,_,_⟩) (v:=?_) rfl (Or.inl ⟨by rfl,?_⟩) ?_
 rotate_left
 ·intro W hSw;go_simp;try (with_reducible rfl)
 try simp only[Act.put,sA,sZ,sS]
 refine tk (i:=8) (oi:=⟨some 3,_,_,_,_,_⟩) (v:=?_) rfl (Or.inl ⟨by rfl,?_⟩) ?_
 rotate_left
 ·intro W hSw;go_simp;try (with_reducible rfl)
 try simp only[Act.put,sA,sZ,sS]
 refine wpAnyH_done (by kernel_rfl) ?_ _
 refine NoPanic.normal ?_
 go_wp2
 go_ret2
 exact⟨_,A5,c5,rfl,Nat.le_trans B4.out.size B5.out.size,⟨Blk.new w5 _ _,HB5.out.below ((Below.refl _ _).alloc (yR _) _) (yR _),hTk,HC5.out.2.1,HC5.out.1,HOk.out⟩,HC5.out.2.2.1,B4.out.trans ((B5.out.alloc B5.out.size _).mono B4.out.size)⟩
end Rp
end Go.Proofs.YtiddkgcafpaekaaGreat
