/-
  Texts beneath the proof.
-/
import Derived.Test.YtjecmgkmcfkcjaaGreatQh43
import Derived.Test.YtjecmgkmcfkcjaaGreatQh41
set_option linter.unusedVariables false
set_option linter.unusedSimpArgs false
set_option maxRecDepth 100000
set_option maxHeartbeats 4000000
open Go.ChangeShapes Go.WideShapes Go.ChangeAt Go.RowKit
namespace Go.Proofs.YtjecmgkmcfkcjaaGreat
namespace Cl8
open Bytes8 Blk8 Own8 OwnE
def Made (m:List Int)(n:Nat)(w:World)(e:Ending)(w':World):Prop:= ∃A c,e= .returned (.slice A n c)∧Bytes w' A m∧Below w.heap.size w w'
theorem clone_any (A:Option Addr)(l:List Int)(len cap:Nat)(w:World)(hb:Bytes w A l)(hL:l.length=len)(hmax:len≤1000000):
 Calls Tryz.prog 68 #[.slice A len cap] w (Made l len w):=by
 have q22: ∀(w:World) (a:Option Addr) (n c n' c':Nat),(binOp .eql 23 (.slice a n c) (.slice none n' c')).run Tryz.prog w= .ok (.bool a.isNone) w:=fun w a n c n' c'=>Lib.run_eql_slice_nil w _ _ a n c n' c' Tryz.underlying23
 cases A with
 |none=>
  have h0:l=[]:=by
   rcases l with _|⟨x,r⟩
   ·rfl
   ·obtain⟨b,off,e,_⟩:=hb.2 0 (by simp)
    cases e
  subst h0
  obtain rfl:len=0:=by simpa using hL.symm
  clear hb hL
  go_enter Tryz.func68,Tryz.ntmps68
  go_wp2
  go_ret
  exact⟨none,0,rfl,Bytes.nil _ _,Below.refl _ _⟩
 |some a=>
  have HB:=Lib.hid (hb.below ((Below.refl w.heap.size w).alloc (Nat.le_refl _) (.cells #[] 5)) (Nat.le_refl _))
  have HL:=Lib.hid hL
  clear hb hL
  go_enter Tryz.func68,Tryz.ntmps68
  go_wp2_with(at_builtin;refine wpList_append_bytes rfl (.tmp 5) (.tmp 6) rfl w.heap.size _ 0 0 [] rfl (Own.made w _ (Nat.le_refl _)) (some a) len cap l rfl HB.out HL.out (by omega) ?_;intro A2 c2 w2 ho2 hbel2;rw[Nat.zero_add,List.nil_append]at ho2;rw[Nat.zero_add];have HO2:=Lib.hid ho2;clear ho2)
  go_ret
  exact⟨A2,c2,rfl,HO2.out.bytes,((Below.refl _ _).alloc (Nat.le_refl _) _).trans hbel2⟩
end Cl8
namespace Yp
open Ob
def arN (bd:List Int):Nat:=(bd.length-8)/8
def arF (bd:List Int)(i:Nat):Int:=u8 bd (8+8*i)
end Yp
namespace Yg
open Blk8 OwnE Kf
theorem Blk.setRow {w:World}{g:Nat}{vs:List Value}{T:TypeId}(h:Blk w g vs T)(cs:List Value):Blk (w.setRow g cs.toArray) g cs T:=setRow_heap w g _ _ T (0,0) h
theorem setRow_keepB {B:Nat}{w0 w:World}(hb:Below B w0 w){g:Nat}(hg:B≤g)(cs:Array Value):Below B w0 (w.setRow g cs):=below_setRow hb hg cs
def NewIn (B:Nat)(A:Option Addr):Prop:= ∀b off,A=some ⟨b,off,none⟩→B≤b
attribute [local go_sem ↓] st_fold
end Yg
namespace Yh
open Bytes8 Blk8 Own8 OwnE Ob Rows2 Kf Yc Yp Yd Ye Yg
def arX (l:List Int)(a:Nat):Int:=if ecode l a 6 8 8=0 then u8 (bodyL l a) 0 else 0
def arM (l:List Int)(a:Nat):Nat:=if ecode l a 6 8 8=0 then arN (bodyL l a)else 0
def ArrTold2 (l:List Int)(a:Nat)(w:World)(e:Ending)(w':World):Prop:=
 ∃A c,e= .returned (.tuple #[arrV (arX l a) A (arM l a) c,.int .i64 (ecode l a 6 8 8)])∧Below w.heap.size w w'∧InInts .u64 w' A (arM l a) (arF (bodyL l a))∧NewIn w.heap.size A
def Part1 (w:World)(g m k:Nat)(f:Nat→Int)(T:TypeId):Prop:=
 ∃vs:List Value,Blk w g vs T∧vs.length=m∧ ∀i,i<k→vs[i]? =some (.int .u64 (f i))
theorem Part1.new (w:World)(m:Nat)(f:Nat→Int)(T:TypeId)(g:Nat)(hg:w.heap.size=g):Part1 (w.alloc (.cells (Array.replicate m (Value.int .u64 0)) T)) g m 0 f T:=
 ⟨List.replicate m (.int .u64 0),by subst hg;have:=Blk.new w (List.replicate m (.int .u64 0)) T;simpa using this,by simp,fun i hi=>absurd hi (by omega)⟩
theorem Part1.cells {w:World}{g m k:Nat}{f:Nat→Int}{T:TypeId}(hp:Part1 w g m k f T)(hk:k<m):(∃u,w.cell? ⟨g,k,none⟩=some u)∧w.frozen? ⟨g,k,none⟩=false:=by
 obtain⟨vs,hb,hl,_⟩:=hp
 exact⟨⟨vs[k],hb.cell (List.getElem?_eq_getElem (by omega))⟩,hb.frozen _⟩
theorem Part1.step {w:World}{g m k:Nat}{f:Nat→Int}{T:TypeId}(hp:Part1 w g m k f T)(hk:k<m):Part1 (w.setCell ⟨g,k,none⟩ (.int .u64 (f k))) g m (k+1) f T:=by
 obtain⟨vs,hb,hl,hv⟩:=hp
 refine⟨_,hb.set_ k _,by simp[hl],fun i hi=>?_⟩
 rcases Nat.lt_or_ge i k with h1|h1
 ·rw[List.getElem?_set,if_neg (by omega)]
  exact hv i h1
 ·obtain rfl:i=k:=by omega
  rw[List.getElem?_set,if_pos rfl,if_pos (by omega)]
theorem Part1.lt {w:World}{g m k:Nat}{f:Nat→Int}{T:TypeId}(hp:Part1 w g m k f T):g<w.heap.size:=by
 obtain⟨vs,hb,_⟩:=hp
 exact hb.lt
theorem Part1.blk {w w':World}{g m k:Nat}{f:Nat→Int}{T:TypeId}(hp:Part1 w g m k f T)(h:w'.heap[g]? =w.heap[g]?):Part1 w' g m k f T:=by
 obtain⟨vs,hb,h2⟩:=hp
 exact⟨vs,h.trans hb,h2⟩
theorem Part1.old {w:World}{g m k:Nat}{f:Nat→Int}{T:TypeId}(hp:Part1 w g m k f T)(o:Obj):Part1 (w.alloc o).drew g m k f T:=hp.blk (Below.heap_alloc w o g hp.lt)
theorem Part1.ints {w:World}{g m:Nat}{f:Nat→Int}{T:TypeId}(hp:Part1 w g m m f T)(hf: ∀i,0≤f i∧f i≤18446744073709551615):InInts .u64 w (some ⟨g,0,none⟩) m f:=fun i hi=>by
 obtain⟨vs,hb,hl,hv⟩:=hp
 refine⟨g,0,rfl,hb.lt,by rw[Nat.zero_add];exact hb.cell (hv i hi),?_⟩
 have:=hf i
 simp[Lit.wf,IntKind.min,IntKind.max,IntKind.signed,IntKind.bits]
 omega
theorem wordInfo:(Tryz.prog.info? 40).map (fun i=>(i.zero,i.size,i.bytes))=some (some (.int .u64 0),1,8):=by kernel_rfl
theorem make_words (p:Nat)(z:Int)(hz:z=(p:Int))(hp:p≤1000000)(w:World):
 (Instr.makeSlice 33 (.int .i64 z) (.int .i64 z)).run Tryz.prog w= .ok (.slice (some ⟨w.heap.size,0,none⟩) p p) (w.alloc (.cells (Array.replicate p (Value.int .u64 0)) 40)):=by
 subst hz
 have h:=run_make_row' (P:=Tryz.prog) 33 40 (.int .u64 0) 8 Tryz.underlying33 wordInfo rfl .i64 .i64 p (by omega) (by omega) w
 have e:madeCells #[Value.int .u64 0] p=Array.replicate p (Value.int .u64 0):=by
  apply Array.ext'
  rw[toList_madeCells_one]
  simp
 rw[e]at h
 exact h
theorem arrInfo:(Tryz.prog.info? 279).map (·.size)=some 2:=by kernel_rfl
abbrev aL (x:Int)(A:Option Addr)(n c:Nat):List Value:=[.int .u64 x,.slice A n c]
theorem InInts.setRow {k:IntKind}{w:World}{a:Option Addr}{n:Nat}{f:Nat→Int}(hi:InInts k w a n f){g:Nat}(hg: ∀b off,a=some ⟨b,off,none⟩→b≠g)(cs:Array Value):InInts k (w.setRow g cs) a n f:=fun i hx=>by
 obtain⟨b,off,e,h1,h2,h3⟩:=hi i hx
 exact⟨b,off,e,by simpa using h1,(cell_setRow_other w g cs _ (hg b off e)).trans h2,h3⟩
theorem readArray_n (A:Option Addr)(l:List Int)(n cap a:Nat)(w:World)(hb:Bytes w A l)(hL:l.length=n)(hn:n≤1000000)(hc:n≤cap)(hcm:cap≤maxLen)(ha:a≤18446744073709551615):
 Calls Tryz.prog 216 #[.slice A n cap,.int .u64 (a:Int)] w (ArrTold2 l a w):=by
 have b0:=Lib.hid ((Below.refl w.heap.size w).alloc (Nat.le_refl _) (arrC 279 0 none 0 0))
 have R0:=Lib.hid (show Blk (w.alloc (arrC 279 0 none 0 0)) w.heap.size (aL 0 none 0 0) 279 from Blk.new w _ _)
 have HBo:=Lib.hid (bodyOf_z A l n cap a 8 8 6 8 8 (w.alloc (arrC 279 0 none 0 0)) (hb.below b0.out (Nat.le_refl _)) hL hn hc hcm ha (by decide) (by decide) (by decide) (by decide) rfl rfl)
 unfold Bodied2 at HBo
 have HAb:=Lib.hid (body_all (a:=a) hb.1)
 have hno:ecode l a 6 8 8≠0→arX l a=0∧arM l a=0:=fun h=>⟨if_neg h,if_neg h⟩
 have hyes:ecode l a 6 8 8=0→arX l a=u8 (bodyL l a) 0∧arM l a=arN (bodyL l a):=fun h=>⟨if_pos h,if_pos h⟩
 by_cases h1:ecode l a 6 8 8≠0
 ·have HF:=Lib.hid (hno h1)
  have HX:=Lib.hid h1
  obtain⟨cd,hcd⟩: ∃cd,cd=ecode l a 6 8 8:=⟨_,rfl⟩
  rw[←hcd]at HBo HX h1
  have HCe:=Lib.hid hcd
  clear hcd hno hyes hb hL
  go_enter Tryz.func216,Tryz.ntmps216
  go_wp2_with(first
   |(go_at_call 211;(with_reducible refine HBo.out.mono ?_);rintro e w2 ⟨B,m,cb,rfl,hbel,_⟩;have R2:=Lib.hid (R0.out.below hbel R0.out.lt);have HB2:=Lib.hid (b0.out.trans (hbel.mono b0.out.size));clear hbel)
   |(refine wpList_store_row rfl 279 (.tmp 4) (.tmp 18) rfl w.heap.size _ rfl rfl 279 _ R2.out arrInfo rfl (by simp[Value.oneCell']) ?_))
  refine bodyPost_ret (v:= .tuple #[arrV 0 none 0 0,.int .i64 cd]) (by exact res_row Tryz.results216 _ _ w.heap.size 279 _ (0,0) _ _ rfl rfl (Blk.setRow R2.out (aL 0 none 0 0)) Tryz.underlying279 rfl arrInfo) rfl ?_
  unfold ArrTold2
  rw[HF.out.1,HF.out.2,←HCe.out]
  exact⟨none,0,rfl,setRow_keepB HB2.out (Nat.le_refl _) _,fun i hi=>absurd hi (by omega),fun b off e=>by cases e⟩
 ·have h0:ecode l a 6 8 8=0:=by omega
  obtain⟨_,_,hlen,hmod,hln⟩:=ecode_there hL h0
  rw[h0]at HBo
  have HCe:=Lib.hid h0
  have HF:=Lib.hid (hyes h0)
  have HNu:=Lib.hid fun(i:Nat) (z:Int) (B:Option Addr) (m cb:Nat) (W:World) (hB:Bytes W B (bodyL l a)) (hm:(bodyL l a).length=m) (hz:z=(i:Int)) (hi:i+8≤m)=>number_e B (bodyL l a) m cb i z W hB hm (by omega) hi hz
  have HM:=Lib.hid fun(m:Nat) (hm:(bodyL l a).length=m)=>show 16≤m∧m≤1000000∧arN (bodyL l a)=(m-8)/8 from⟨by omega,by omega,by unfold arN;rw[hm]⟩
  clear hno hyes hb hL h1 h0 hlen hmod hln
  generalize hbd0:bodyL l a=bd at*
  have HBD:=Lib.hid hbd0
  clear hbd0
  go_enter Tryz.func216,Tryz.ntmps216
  go_upto_region 4 with(go_at_call 211;(with_reducible refine HBo.out.mono ?_);rintro e w2 ⟨B,m,cb,rfl,hbel,hbd⟩)
  obtain⟨d1,d2,d3,d4,d5⟩:=hbd (by first|rfl|trivial)
  have R2:=Lib.hid (R0.out.below hbel R0.out.lt)
  have HB2:=Lib.hid (b0.out.trans (hbel.mono b0.out.size))
  have D1:=Lib.hid d1
  have D2:=Lib.hid d2
  obtain⟨hm16,hmx,htn⟩:=HM.out m d2
  obtain⟨t,ht⟩: ∃t,t=(m-8)/8:=⟨_,rfl⟩
  rw[←ht]at htn
  have hs8:IntKind.i64.wrap ((m:Int)-8)=(m:Int)-8:=by rw[IntKind.wrap_i64];omega
  have hq:((m:Int)-8).tdiv 8=(t:Int):=by rw[Int.tdiv_eq_ediv_of_nonneg (by omega)];omega
  have hq2:((m:Int)-8)/8=(t:Int):=by omega
  have hq3:IntKind.i64.wrap (t:Int)=(t:Int):=by rw[IntKind.wrap_i64];omega
  have hmk:=make_words t (t:Int) rfl (by omega)
  have HTN:=Lib.hid htn
  have h8:8*t+8≤m:=by omega
  have HS0:=Lib.hid (Nat.le_refl w2.heap.size)
  clear d1 d2 hbel hbd htn ht
  have Ba:=Lib.hid ((Below.refl w2.heap.size w2).alloc (Nat.le_refl _) (.cells (Array.replicate t (Value.int .u64 0)) 40))
  have Bb:=Lib.hid ((Below.refl w2.heap.size w2).alloc (Nat.le_refl _) (arrC 279 0 none 0 0))
  have Da:=Lib.hid (D1.out.below Ba.out (Nat.le_refl _)).drew
  have Db:=Lib.hid (D1.out.below Bb.out (Nat.le_refl _)).drew
  have Dc:=Lib.hid (D1.out.below (Ba.out.alloc Ba.out.size (arrC 279 0 none 0 0)) (Nat.le_refl _)).drew
  have Dd:=Lib.hid (D1.out.below (Bb.out.alloc Bb.out.size (.cells (Array.replicate t (Value.int .u64 0)) 40)) (Nat.le_refl _)).drew
  go_cut [8]from 20 to 27 (fun z wx=> ∃(g gi:Nat),z= .pointer (some ⟨g,0,none⟩)∧g≠gi∧Hid (Blk wx g (aL (u8 bd 0) (some ⟨gi,0,none⟩) t t) 279)∧Hid (Part1 wx gi t 0 (arF bd) 40)∧Hid (Below w2.heap.size w2 wx)∧Hid (w2.heap.size≤g∧w2.heap.size≤gi))
  case first=>
   go_region_held3 (fun w'=>True) (first|(with_reducible exact trivial)) (first
    |(go_at_call 212;(with_reducible refine(HNu.out 0 0 _ _ _ _ D1.out.drew D2.out rfl (by omega)).mono ?_);rintro e w' ⟨rfl,rfl⟩)
    |(go_at_call 212;(with_reducible refine(HNu.out 0 0 _ _ _ _ Da.out D2.out rfl (by omega)).mono ?_);rintro e w' ⟨rfl,rfl⟩)
    |(go_at_call 212;(with_reducible refine(HNu.out 0 0 _ _ _ _ Db.out D2.out rfl (by omega)).mono ?_);rintro e w' ⟨rfl,rfl⟩)
    |(go_at_call 212;(with_reducible refine(HNu.out 0 0 _ _ _ _ Dc.out D2.out rfl (by omega)).mono ?_);rintro e w' ⟨rfl,rfl⟩)
    |(go_at_call 212;(with_reducible refine(HNu.out 0 0 _ _ _ _ Dd.out D2.out rfl (by omega)).mono ?_);rintro e w' ⟨rfl,rfl⟩))
   all_goals
    go_wp2_with fail
    go_meet
    case rel=>
     first
     |exact⟨w2.heap.size+1,w2.heap.size,rfl,by omega,Lib.hid (Blk.new_at (w2.alloc (.cells (Array.replicate t (Value.int .u64 0)) 40)) (aL (u8 bd 0) (some ⟨w2.heap.size,0,none⟩) t t) 279 (w2.heap.size+1) (by simp)).drew,Lib.hid (Part1.old (Part1.new w2 t (arF bd) 40 w2.heap.size rfl) _),Lib.hid (Ba.out.alloc Ba.out.size _).drew,Lib.hid ⟨by omega,Nat.le_refl _⟩⟩
     |exact⟨w2.heap.size,w2.heap.size+1,rfl,by omega,Lib.hid ((Blk.new_at w2 (aL (u8 bd 0) (some ⟨w2.heap.size+1,0,none⟩) t t) 279 w2.heap.size rfl).alloc _).drew,Lib.hid (Part1.new (w2.alloc (.cells (aL (u8 bd 0) (some ⟨w2.heap.size+1,0,none⟩) t t).toArray 279)) t (arF bd) 40 (w2.heap.size+1) (by simp)),Lib.hid ((((Below.refl w2.heap.size w2).alloc (Nat.le_refl _) _).alloc (by simp) _).drew),Lib.hid ⟨Nat.le_refl _,by omega⟩⟩
  case rest=>
   obtain⟨g,gi,rfl,hgg,E3,P3,B3,G3⟩:=hcut
   clear Ba Bb Da Db Dc Dd hmk hq hq2 hq3 hs8
   have HGG:=Lib.hid hgg
   have q1:=E3.out.cell (i:=1) rfl
   go_wp2_with fail
   go_loopw [31] (fun i wr=> ∃k:Nat,k≤t∧i= .int .i64 (k:Int)∧Hid (Part1 wr gi t k (arF bd) 40)∧Hid (Blk wr g (aL (u8 bd 0) (some ⟨gi,0,none⟩) t t) 279)∧Hid (Below w2.heap.size w2 wr)) (fun i _=>t-(intOf i).toNat)
   case atStart=>exact⟨0,Nat.zero_le _,rfl,P3,E3,B3⟩
   case round=>
    obtain⟨k,hk,rfl,hp,he,hb⟩:=hrel
    have r0:=he.out.cell (i:=0) rfl
    have r1:=he.out.cell (i:=1) rfl
    by_cases hlt:k<t
    ·obtain⟨⟨v1,c1⟩,f1⟩:=hp.out.cells hlt
     have r1d:wr.drew.cell? ⟨g,1,none⟩=some (.slice (some ⟨gi,0,none⟩) t t):=r1
     have r1s:(wr.setCell ⟨gi,k,none⟩ (.int .u64 (u8 bd (8+8*k)))).drew.cell? ⟨g,1,none⟩=some (.slice (some ⟨gi,0,none⟩) t t):=(he.out.far (p:=⟨gi,k,none⟩) (fun e=>HGG.out e) _).drew.cell (i:=1) rfl
     have c1d:wr.drew.cell? ⟨gi,k,none⟩=some v1:=c1
     have f1d:wr.drew.frozen? ⟨gi,k,none⟩=false:=f1
     have HS:=Lib.hid (hp.out.step hlt)
     have hp1:arF bd k=u8 bd (8+8*k):=rfl
     rw[hp1]at HS
     have Dr:=Lib.hid (D1.out.below hb.out (Nat.le_refl _)).drew
     have hw1:IntKind.i64.wrap ((k:Int)*8)=(k:Int)*8:=by rw[IntKind.wrap_i64];omega
     have hw2:IntKind.i64.wrap (8+(k:Int)*8)=8+(k:Int)*8:=by rw[IntKind.wrap_i64];omega
     have hk0:(0:Int)≤(k:Int):=by omega
     have hkt:(k:Int)<(t:Int):=by omega
     go_wp2_with fail
     go_region_held3 (fun W=>W.cell? ⟨g,1,none⟩=some (.slice (some ⟨gi,0,none⟩) t t)) (first|(with_reducible exact r1d)|(with_reducible exact r1s)|go_keep) (first
      |(go_at_call 212;(with_reducible refine(HNu.out (8+8*k) _ _ _ _ _ Dr.out D2.out (by omega) (by omega)).mono ?_);rintro e w' ⟨rfl,rfl⟩))
     all_goals
      go_wp2
      go_roundw
      case rel=>exact⟨k+1,by omega,by go_num,Lib.hid (HS.out.blk rfl),Lib.hid ((he.out.far (fun e=>HGG.out e) _).drew),Lib.hid ((hb.out.setCell G3.out.2 _).drew)⟩
      case measure=>simp[intOf];omega
    ·obtain rfl:k=t:=by omega
     have HI:=Lib.hid (hp.out.ints (fun i=>u8_bd HAb.out _))
     have R3:=Lib.hid (R2.out.below hb.out R2.out.lt)
     have W3:=Lib.hid (HB2.out.trans (hb.out.mono HB2.out.size))
     have HNe:=Lib.hid (show gi≠w.heap.size by have h1:=G3.out.2;have h2:=R2.out.lt;omega)
     have HNw:=Lib.hid (show w.heap.size≤gi by have h1:=G3.out.2;have h2:=R2.out.lt;omega)
     go_wp2_with(first
      |(refine wpList_load_row rfl 279 (.tmp 8) rfl g rfl 279 (aL (u8 bd 0) (some ⟨gi,0,none⟩) k k).toArray (0,0) _ he.out Tryz.underlying279 rfl arrInfo ?_)
      |(refine wpList_store_row rfl 279 (.tmp 4) (.tmp 44) rfl w.heap.size (aL (u8 bd 0) (some ⟨gi,0,none⟩) k k).toArray rfl rfl 279 _ R3.out arrInfo rfl (by simp[Value.oneCell']) ?_))
     refine bodyPost_ret (v:= .tuple #[arrV (u8 bd 0) (some ⟨gi,0,none⟩) k k,.int .i64 0]) (by exact res_row Tryz.results216 _ _ w.heap.size 279 _ (0,0) _ _ rfl rfl (Blk.setRow R3.out (aL (u8 bd 0) (some ⟨gi,0,none⟩) k k)) Tryz.underlying279 rfl arrInfo) rfl ?_
     unfold ArrTold2
     rw[HCe.out,HF.out.1,HF.out.2,HTN.out,HBD.out]
     exact⟨_,k,rfl,setRow_keepB W3.out (Nat.le_refl _) _,InInts.setRow HI.out (fun b off e=>by injection e with e;injection e with e;have:=HNe.out;omega) _,fun b off e=>by injection e with e;injection e with e;have:=HNw.out;omega⟩
end Yh
namespace Nt
open Bytes8 Ga Gb Gj Gm Go1 Ma Mh Na Nc Ns
theorem Says.cells {h k:HD}(s:Says h k):h.cells 21=k.cells 21:=at_cong fun i hi=>by
 unfold HD.at_
 by_cases h1:i<3
 ·rw[if_pos h1,if_pos h1,s.cp,s.ic,s.st]
 rw[if_neg h1,if_neg h1]
 by_cases h2:i<67
 ·rw[if_pos h2,if_pos h2,s.I _ (by omega)]
 rw[if_neg h2,if_neg h2]
 by_cases h3:i<67+21
 ·rw[if_pos h3,if_pos h3,s.N _ (by omega)]
 rw[if_neg h3,if_neg h3,s.ta,s.ti,s.te]
theorem imgB_len {m:Mk}(h:Img m):(imgB m).length=m.b.length:=by
 have:=h.lens
 unfold imgB
 rw[List.length_append,HD.bytes_len,List.length_drop]
 omega
theorem img_says {m:Mk}(h:Img m)(r:List Int):Says (hdOf (imgB m++r)) (imgH m):=by
 have:=hd_back (imgH m) (imgH_ok h) (by show 0≤(1:Int)∧(1:Int)<256;decide) (m.b.drop 272++r)
 unfold imgB
 rw[List.append_assoc]
 exact this
theorem img_magic (m:Mk)(r:List Int):magicB (imgB m++r)=true:=by
 unfold imgB
 rw[List.append_assoc]
 exact magic_back _ _ _
theorem img_hcode {m:Mk}(h:Img m)(r:List Int)(n:Nat)(hn:m.b.length≤n):hcode (imgB m++r) n=0:=by
 have:=h.lens
 unfold hcode
 rw[if_neg (by omega),img_magic,if_neg (by simp),(img_says h r).fcode,img_fcode h _ (by omega)]
end Nt
namespace Nv
open Bytes8 OwnE Ga Gj Ma Mh Na Nt
open Go1 (hcode rhd hread_any HTold bytes_take magicB)
theorem read_img {m:Mk}(h:Img m)(r:List Int)(A:Option Addr)(n c:Nat)(w:World)(hb:Bytes w A (imgB m++r))(hL:(imgB m++r).length=n)(hn:n≤1000000)(hc:n≤c):
 Calls Tryz.prog 66 #[.slice A n c] w (HTold (imgH m) 0 w):=by
 have h1:=hread_any A (imgB m++r) n c w hb hL hn hc
 have hN:m.b.length≤n:=by rw[←hL,List.length_append,imgB_len h];omega
 have hc0:=img_hcode h r n hN
 have hr:rhd (imgB m++r) n=hdOf (imgB m++r):=if_pos hc0
 rw[hr,hc0]at h1
 refine h1.mono fun e w' ⟨he,hb'⟩=>⟨?_,hb'⟩
 rw[he,(img_says h r).cells]
end Nv
namespace Ra
open Bytes8 Blk8 Own8 OwnE Rows2 Ga Gb Gf Ma Mb Mh Na Nt Nu Nv
open Go1 (HTold)
attribute [local irreducible] HD.cells wpList Code.wp
attribute [local go_sem ↓] bldV_fold
def Viewed (m:Mk)(w:World)(e:Ending)(w':World):Prop:= ∃(gv:Nat) (A:Option Addr) (c:Nat),e= .returned (.tuple #[.pointer (some ⟨gv,0,none⟩),.int .i64 0])∧w.heap.size≤gv∧Blk w' gv (viewC (imgH m) (.slice A m.b.length c)) 123∧Bytes w' A (imgB m)∧Below w.heap.size w w'
theorem open_img {m:Mk}(h:Img m)(A:Option Addr)(n c:Nat)(w:World)(hn:m.b.length=n)(hb:Bytes w A (imgB m))(hc:n≤c):Calls Tryz.prog 15 #[.slice A n c] w (Viewed m w):=by
 obtain⟨l1,l2,l3⟩:=h.lens
 have hLB:=imgB_len h
 have hend:=img_end h
 have hok:=imgH_ok h
 have R1:=Lib.hid (by have k:=read_img h [] A n c w (by rw[List.append_nil];exact hb) (by rw[List.append_nil,hLB];exact hn) (by omega) hc;exact k)
 unfold HTold at R1
 have HE:=Lib.hid fun(W:World)=>end_any (imgH m) hok W
 rw[hend.1,hend.2,hn]at HE
 have HB:=Lib.hid hb
 unfold Viewed
 rw[hn]at l1 l2 l3 hLB⊢
 have HLB:=Lib.hid hLB
 clear hLB hend hok h hb hn
 go_enter Tryz.func15,Tryz.ntmps15
 go_upto_region 4 with(first
  |(go_at_call 66;((refine R1.out.mono ?_);rintro e w1 ⟨rfl,hb1⟩;have B1:=Lib.hid hb1;clear hb1))
  |((with_reducible apply at_store (.tmp 4) (.tmp 11));refine wpList_store_row rfl 78 (.tmp 4) (.tmp 11) rfl w1.heap.size ((imgH m).cells 21).toArray rfl rfl 78 Tryz.zeroCells78 (heap_alloc_new w1 _) (cells_info _) zeros_size (HD.one _ 21) ?_)
  |fail)
 have R2:=Lib.hid (show Blk ((w1.alloc (.cells Tryz.zeroCells78 78)).setRow w1.heap.size ((imgH m).cells 21).toArray) w1.heap.size ((imgH m).cells 21) 78 from setRow_heap _ _ _ _ _ (0,0) (heap_alloc_new w1 _))
 have B2:=Lib.hid (show Below w.heap.size w ((w1.alloc (.cells Tryz.zeroCells78 78)).setRow w1.heap.size ((imgH m).cells 21).toArray)from below_setRow (B1.out.alloc B1.out.size _) B1.out.size _)
 generalize (w1.alloc (.cells Tryz.zeroCells78 78)).setRow w1.heap.size ((imgH m).cells 21).toArray=w2 at*
 generalize w1.heap.size=s4 at*
 clear R1 B1
 go_upto_region 5 with(first
  |((with_reducible apply at_slot 17);refine wpList_load_row rfl 78 (.tmp 4) rfl s4 rfl 78 ((imgH m).cells 21).toArray (0,0) _ R2.out Tryz.underlying78 rfl (cells_info _) ?_)
  |(go_at_call 67;((refine(HE.out _).mono ?_);rintro e w4 ⟨rfl,hb4⟩;have B4:=Lib.hid (B2.out.trans (hb4.mono B2.out.size));have R4:=Lib.hid (R2.out.below hb4 R2.out.lt);clear hb4))
  |fail)
 have D4:=Lib.hid (show Below w4.heap.size w4 w4.drew from(Below.refl w4.heap.size w4).drew)
 have HS:=Lib.hid fun(W:World) (hW:Below w4.heap.size w4 W)=>show(fun W:World=>W.rangeAt s4 0 ((imgH m).cells 21)) W from whole (R4.out.below hW R4.out.lt)
 have hcut:=fun W:World=>cut_hu A n c n hc (by omega) W
 have HBw:=Lib.hid (show Bytes w4.drew (cutA A c 0) (imgB m)from by
  have k:=Bytes.cut ((HB.out.below B4.out (Nat.le_refl _)).below D4.out (Nat.le_refl _)) c 0 n (by rw[HLB.out];exact hc)
  rw[List.drop_zero,List.take_of_length_le (by rw[HLB.out];exact Nat.le_refl _)]at k
  exact k)
 have HCl:=Lib.hid fun(W:World) (hW:Bytes W (cutA A c 0) (imgB m))=>Cl8.clone_any (cutA A c 0) (imgB m) n c W hW HLB.out (by omega)
 have hbld:=fun(A':Option Addr) (c':Nat) (W:World)=>build_view (imgH m) A' n c' W
 unfold Cl8.Made at HCl
 clear HE R2 B2 HB HLB hc
 refine wp_region_noPanic ?_
 refine wp_region_held_drew (S:=fun W:World=>W.rangeAt s4 0 ((imgH m).cells 21)) (by kernel_rfl) (by exact(HS.out _ D4.out)) (fun hHeld=>?_)
 refine tk (i:=0) (oi:=⟨some 21,_,_,_,_,_⟩) rfl (yieldsIf_load_mid (by rfl) _ _ rfl _ _ rfl _ _ (fun _ h=>h) Tryz.underlying78 rfl (hcells_len _)) ?_
 try simp only[Act.put,sA,sZ,sS]
 refine tk (i:=1) (oi:=⟨some 22,_,_,_,_,_⟩) (v:=?_) rfl (Or.inl ⟨by rfl,?_⟩) ?_
 rotate_left
 ·intro W hSw;go_simp;try (with_reducible rfl)
 try simp only[Act.put,sA,sZ,sS]
 refine tk (i:=2) (oi:=⟨some 23,_,_,_,_,_⟩) (v:=?_) rfl (Or.inl ⟨by rfl,?_⟩) ?_
 rotate_left
 ·intro W hSw;go_simp;try (with_reducible rfl)
 try simp only[Act.put,sA,sZ,sS]
 refine tk (i:=3) (oi:=⟨some 24,_,_,_,_,_⟩) (v:=?_) rfl (Or.inl ⟨by rfl,?_⟩) ?_
 rotate_left
 ·intro W hSw;go_simp;try (with_reducible rfl)
 try simp only[Act.put,sA,sZ,sS]
 refine wpAnyH_ready (rs:=[4]) (by kernel_rfl) (by simp) ?_
 refine AllReadyH.cons (o:=⟨some 25,_,_,_,_,_⟩) rfl (fun K hK=>?_) AllReadyH.nil
 go_simp
 ((refine(HCl.out _ HBw.out).mono ?_);rintro e w5 ⟨A5,c5,rfl,hby5,hb5⟩;have B5:=Lib.hid (D4.out.trans hb5);have HB5:=Lib.hid hby5;clear hb5 hby5)
 try go_wp2_with fail
 refine hK.out _ _ (by exact(HS.out _ B5.out)) (fun hHeld=>?_)
 clear hK K
 try simp only[Act.put,sA,sZ,sS]
 refine tk (i:=5) (oi:=⟨some 26,_,_,_,_,_⟩) (v:=?_) rfl (Or.inl ⟨by rfl,?_⟩) ?_
 rotate_left
 ·intro W hSw;go_simp;try (with_reducible rfl)
 try simp only[Act.put,sA,sZ,sS]
 refine wpAnyH_ready (rs:=[6]) (by kernel_rfl) (by simp) ?_
 refine AllReadyH.cons (o:=⟨some 27,_,_,_,_,_⟩) rfl (fun K hK=>?_) AllReadyH.nil
 go_simp
 skip
 try go_wp2_with fail
 refine hK.out _ _ (by exact(HS.out _ (B5.out.alloc B5.out.size _))) (fun hHeld=>?_)
 clear hK K
 try simp only[Act.put,sA,sZ,sS]
 refine tk (i:=7) (oi:=⟨some 2,_,_,_,_,_⟩) (v:=?_) rfl (Or.inl ⟨by rfl,?_⟩) ?_
 rotate_left
 ·intro W hSw;go_simp;try (with_reducible rfl)
 try simp only[Act.put,sA,sZ,sS]
 refine tk (i:=8) (oi:=⟨some 3,_,_,_,_,_⟩) (v:=?_) rfl (Or.inl ⟨by rfl,?_⟩) ?_
 rotate_left
 ·intro W hSw;go_simp;try (with_reducible rfl)
 try simp only[Act.put,sA,sZ,sS]
 refine wpAnyH_done (by kernel_rfl) ?_ _
 refine NoPanic.normal ?_
 go_wp2
 go_ret2
 exact⟨_,_,_,rfl,Nat.le_trans B4.out.size B5.out.size,Blk.new w5 _ _,HB5.out.below ((Below.refl _ _).alloc (Nat.le_refl _) _) (Nat.le_refl _),B4.out.trans ((B5.out.alloc B5.out.size _).mono B4.out.size)⟩
end Ra
namespace Lk
open Bytes8 Blk8 Own8 OwnM OwnE Rows2 Ga Gb Ma Mb Na Ns Nt Nu Ra
def rp (i:Nat):Nat:=4*2^i
theorem rp_succ (i:Nat):rp (i+1)=rp i*2:=by unfold rp;rw[Nat.pow_succ];omega
theorem rp_lt {i:Nat}(h:i<6):rp i<256:=by
 unfold rp
 rcases i with _|_|_|_|_|_|i
 all_goals first|decide|omega
theorem rp_zero:((rp 0:Nat):Int)=4:=rfl
theorem rp_six:rp 6=256:=rfl
theorem rp_le {i:Nat}(h:i≤6):rp i≤256:=by
 rcases Nat.lt_or_ge i 6 with h1|h1
 ·exact Nat.le_of_lt (rp_lt h1)
 ·have:i=6:=by omega
  subst this;exact Nat.le_refl _
def roomP (k:Int):Int:=if k<0 then 0 else(rp (min k.toNat 6):Nat)
theorem room_three:roomP 3=32:=rfl
def natOf:Value→Nat
 | .int _ z=>z.toNat
 |_=>0
attribute [local irreducible] rp HD.cells wpList Code.wp
theorem room_any (k:Int)(hk:k≤9223372036854775807)(w:World):Calls Tryz.prog 94 #[.int .i64 k] w fun e w'=>e= .returned (.int .i64 (roomP k))∧w=w':=by
 unfold roomP
 by_cases hneg:k<0
 ·rw[if_pos hneg]
  have d:decide (k<0)=true:=by simpa using hneg
  go_enter Tryz.func94,Tryz.ntmps94
  go_wp2
  go_ret
  exact⟨rfl,rfl⟩
 ·rw[if_neg hneg]
  have d:decide (k<0)=false:=by simpa using hneg
  obtain⟨K,rfl⟩: ∃K:Nat,k=(K:Int):=⟨k.toNat,by omega⟩
  obtain⟨M,hM⟩: ∃M,M=min (K:Int).toNat 6:=⟨_,rfl⟩
  rw[←hM]
  have HM:=Lib.hid hM
  clear hM
  clear hneg
  have hK:(K:Int)≤9223372036854775807:=hk
  clear hk
  go_enter Tryz.func94,Tryz.ntmps94
  go_upto_region 4 with fail
  go_loopw [0,3] (fun a b wr=>w=wr∧ ∃i x:Nat,i≤6∧i+x=K∧a= .int .i64 (x:Int)∧b= .int .i64 ((rp i:Nat):Int)) (fun a _ _=>natOf a)
  case atStart=>exact⟨rfl,0,K,by omega,by omega,rfl,by rw[rp_zero]⟩
  case round=>
   obtain⟨rfl,i,x,hi,hx,rfl,rfl⟩:=hrel
   by_cases h1:0<x
   ·have d1:decide ((x:Int)>0)=true:=by simpa using h1
    by_cases h2:i<6
    ·have h3:=rp_lt h2
     have d2:decide (((rp i:Nat):Int)<256)=true:=by simp;omega
     have hw:IntKind.i64.wrap (((rp i:Nat):Int)*2)=((rp (i+1):Nat):Int):=by rw[rp_succ,IntKind.wrap_i64];omega
     have hw2:IntKind.i64.wrap ((x:Int)-1)=((x-1:Nat):Int):=by rw[IntKind.wrap_i64];omega
     go_wp2
     go_roundw
     case rel=>exact⟨trivial,i+1,x-1,by omega,by omega,rfl,rfl⟩
     case measure=>simp[natOf];omega
    ·have h6:i=6:=by omega
     have hx6:i+x=K:=hx
     have d2:decide (((rp i:Nat):Int)<256)=false:=by subst h6;rw[rp_six];decide
     have d3:decide (((rp i:Nat):Int)≤256)=true:=by subst h6;rw[rp_six];decide
     have hmn:min ((rp i:Nat):Int) 256=((rp i:Nat):Int):=by subst h6;rw[rp_six];decide
     have hng: ¬(256:Int)<((rp i:Nat):Int):=by subst h6;rw[rp_six];decide
     have hlt: ¬((rp i:Nat):Int)<256:=by subst h6;rw[rp_six];decide
     have hle:((rp i:Nat):Int)≤256:=by subst h6;rw[rp_six];decide
     clear h6
     go_wp2
     go_ret
     exact⟨by rw[show M=i from by have:=HM.out;omega];rfl,rfl⟩
   ·have d1:decide ((x:Int)>0)=false:=by simpa using h1
    have hle:((rp i:Nat):Int)≤256:=by have:=rp_le hi;omega
    have hmn:min ((rp i:Nat):Int) 256=((rp i:Nat):Int):=by omega
    have hng: ¬(256:Int)<((rp i:Nat):Int):=by omega
    go_wp2
    go_ret
    exact⟨by rw[show M=i from by have:=HM.out;omega];rfl,rfl⟩
theorem view_head {w:World}{gv:Nat}{h:HD}{b:Value}(hv:Blk w gv (viewC h b) 123):w.rangeAt gv 0 (h.cells 21):=fun j x hj=>by
 rw[Nat.zero_add]
 refine hv.cell ?_
 unfold viewC
 rw[List.getElem?_append_left (List.getElem?_eq_some_iff.1 hj).1]
 exact hj
theorem vhead_any {gv:Nat}{h:HD}{b:Value}(w:World)(hv:Blk w gv (viewC h b) 123):Calls Tryz.prog 36 #[.pointer (some ⟨gv,0,none⟩)] w fun e w'=>e= .returned (.agg (h.cells 21).toArray)∧Below w.heap.size w w':=by
 have b1:=Lib.hid ((Below.refl w.heap.size w).alloc (Nat.le_refl _) (.cells Tryz.zeroCells78 78))
 have HR:=Lib.hid (view_head (hv.below b1.out hv.lt))
 have Z:=Lib.hid (heap_alloc_new w (.cells Tryz.zeroCells78 78))
 clear hv
 go_enter Tryz.func36,Tryz.ntmps36
 go_wp2_with(first
  |((with_reducible apply at_slot 6);refine wpList_load_mid rfl 78 (.tmp 5) rfl gv 0 rfl (h.cells 21) _ HR.out Tryz.underlying78 rfl (hcells_len _) ?_)
  |((with_reducible apply at_store (.tmp 2) (.tmp 6));refine wpList_store_row rfl 78 (.tmp 2) (.tmp 6) rfl w.heap.size (h.cells 21).toArray rfl rfl 78 Tryz.zeroCells78 Z.out (cells_info _) zeros_size (HD.one _ 21) ?_)
  |fail)
 refine bodyPost_ret (v:= .agg (h.cells 21).toArray) (by exact results_cell_row Tryz.results36 _ _ w.heap.size 78 _ (0,0) _ rfl (setRow_heap _ w.heap.size _ _ _ (0,0) Z.out) Tryz.underlying78 rfl (cells_info _)) rfl ?_
 exact⟨rfl,below_setRow b1.out (Nat.le_refl _) _⟩
theorem gather_none (gv:Nat)(at_ c1 c2:Int)(w:World):Calls Tryz.prog 95 #[.pointer (some ⟨gv,0,none⟩),.slice none 0 0,.int .u64 0,.int .u64 at_,.agg #[.int .i64 c1,.int .i64 c2]] w fun e w'=>e= .returned (.tuple #[.slice none 0 0,.int .i64 0])∧Below w.heap.size w w':=by
 go_enter Tryz.func95,Tryz.ntmps95
 go_wp2
 refine bodyPost_ret (v:= .tuple #[.slice none 0 0,.int .i64 0]) (by simp[results,Tryz.results95,go_sem]) rfl ?_
 exact⟨rfl,((((((Below.refl w.heap.size w).alloc (Nat.le_refl _) _).alloc (by simp<;>omega) _).alloc (by simp<;>omega) _).alloc (by simp<;>omega) _).alloc (by simp<;>omega) _).alloc (by simp<;>omega) _⟩
theorem entries_none {gv:Nat}{h:HD}{b:Value}(w:World)(hv:Blk w gv (viewC h b) 123)(h8:h.N 8=0):Calls Tryz.prog 35 #[.pointer (some ⟨gv,0,none⟩)] w fun e w'=>e= .returned (.tuple #[.slice none 0 0,.int .i64 0])∧Below w.heap.size w w':=by
 have HH:=Lib.hid (vhead_any w hv)
 clear hv
 go_enter Tryz.func35,Tryz.ntmps35
 go_upto_region 2 with(first
  |(go_at_call 36;(refine HH.out.mono ?_);rintro e w1 ⟨rfl,hb1⟩;have B1:=Lib.hid hb1;clear hb1)
  |((with_reducible apply at_store (.tmp 4) (.tmp 6));refine wpList_store_row rfl 78 (.tmp 4) (.tmp 6) rfl w1.heap.size (h.cells 21).toArray rfl rfl 78 Tryz.zeroCells78 (heap_alloc_new w1 _) (cells_info _) zeros_size (HD.one _ 21) ?_)
  |fail)
 have R2:=Lib.hid (show Blk ((w1.alloc (.cells Tryz.zeroCells78 78)).setRow w1.heap.size (h.cells 21).toArray) w1.heap.size (h.cells 21) 78 from setRow_heap _ _ _ _ _ (0,0) (heap_alloc_new w1 _))
 have B2:=Lib.hid (show Below w.heap.size w ((w1.alloc (.cells Tryz.zeroCells78 78)).setRow w1.heap.size (h.cells 21).toArray)from below_setRow (B1.out.alloc B1.out.size _) B1.out.size _)
 generalize (w1.alloc (.cells Tryz.zeroCells78 78)).setRow w1.heap.size (h.cells 21).toArray=w2 at*
 generalize w1.heap.size=s4 at*
 have c75:w2.cell? ⟨s4,75,none⟩=some (.int .u64 0):=by have k:=R2.out.cell (h.get_N 21 8 (by decide));rw[h8]at k;exact k
 have c78:w2.cell? ⟨s4,78,none⟩=some (.int .u64 (h.N 11)):=R2.out.cell (h.get_N 21 11 (by decide))
 clear HH B1
 go_wp2_with(first
  |(go_at_call 95;(refine(gather_none _ _ _ _ _).mono ?_);rintro e w3 ⟨rfl,hb3⟩;have B3:=Lib.hid (B2.out.trans (hb3.mono B2.out.size));clear hb3)
  |fail)
 go_ret2
 exact⟨rfl,B3.out⟩
theorem first_link (w:World):Calls Tryz.prog 34 #[] w fun e w'=>e= .returned (.bool true)∧Below w.heap.size w w':=by
 have HI:=Lib.hid (image_n none 0 0 (fun _=>0) 0 w (fun i hi=>absurd hi (Nat.not_lt_zero i)) (by decide) (by decide))
 unfold ImagedN at HI
 have r3:=room_three
 have HRm:=Lib.hid fun(W:World)=>room_any 3 (by decide) W
 rw[r3]at HRm
 go_enter Tryz.func34,Tryz.ntmps34
 go_upto_region 2 with(first
  |(go_at_call 14;((refine HI.out.mono ?_);rintro e w2 ⟨A,c,m,n,rfl,hg2,ho2,hb2⟩;have HG:=Lib.hid hg2;have B2:=Lib.hid hb2;have HOp:=Lib.hid (open_img hg2.img A m.b.length c w2 rfl ho2.bytes (own_cap ho2).1);clear hg2 ho2 hb2;unfold Viewed at HOp))
  |(go_at_call 15;((refine HOp.out.mono ?_);rintro e w3 ⟨gv,A3,c3,rfl,hgv,hv3,hby3,hb3⟩;have B3:=Lib.hid (B2.out.trans (hb3.mono B2.out.size));have HE:=Lib.hid (entries_none w3 hv3 (by rw[imgH_N m 8 (by decide),if_neg (by decide),HG.out.cnt];have:=HG.out.le;omega));clear hgv hv3 hby3 hb3))
  |fail)
 go_wp2_with(first
  |(go_at_call 35;((refine HE.out.mono ?_);rintro e w4 ⟨rfl,hb4⟩;have B4:=Lib.hid (B3.out.trans (hb4.mono B3.out.size));clear hb4))
  |(go_at_call 94;((refine(HRm.out _).mono ?_);rintro e w5 ⟨rfl,rfl⟩))
  |fail)
 go_ret
 exact⟨rfl,B4.out⟩
end Lk
end Go.Proofs.YtjecmgkmcfkcjaaGreat
