/-
  Texts beneath the proof.
-/
import Derived.Recover
import Derived.Defers
import Derived.Test.YtjecmgkmcfkcjaaGreatQb35
import Derived.Test.YtjecmgkmcfkcjaaGreatQb5
import Derived.Test.YtjecmgkmcfkcjaaGreatQb33
import Derived.Test.YtjecmgkmcfkcjaaGreatQb4
import Derived.Test.YtjecmgkmcfkcjaaGreatQb2
set_option linter.unusedVariables false
set_option linter.unusedSimpArgs false
set_option maxRecDepth 100000
set_option maxHeartbeats 4000000
open Go.ChangeShapes Go.WideShapes Go.ChangeAt Go.RowKit
namespace Go.Proofs.YtjecmgkmcfkcjaaGreat
namespace Vb
open Ob Ga Gb Np Sg
open Rd (dcode dz)
attribute [local irreducible] HD.cells wpList Code.wp
attribute [local irreducible] ofS bnum bpay bcode
end Vb
namespace Vf
open Bytes8 Blk8 Own8 OwnE Rows2 Ob Ga Gb Ok7 Rc
open Yc Yp Ye Yh
open Rl (res_slot_cell)
open Re (load_code)
theorem caught_idle (g3:Nat)(w:World):CallsD Tryz.prog 181 #[.pointer (some ⟨g3,0,none⟩)] .returning w fun e u' w'=>e= .returned (.tuple #[])∧u'= .returning∧w'=w:=by
 refine callsD_of_wpS Tryz.func181 rfl fun c₀ cs hu=>?_
 apply wpS_seq
 apply wpS_region
 simp[wpOpsS,go_sem,recoverD,hu,Tryz.ntmps181,Exit.thenS]
 refine wpS_of_wp ?_
 go_wp2
 cases c₀
 simp_all[bodyPostS,results,Tryz.results181]
theorem caught_halt (g3:Nat)(c y:Int)(older:List PanicEntry)(w:World)(h:Blk w g3 [.int .i64 y] 3):CallsD Tryz.prog 181 #[.pointer (some ⟨g3,0,none⟩)] (.panicking ({v:= .iface 230 (.int .i64 c),recovered:=false}::older)) w fun e u' w'=>e= .returned (.tuple #[])∧u'= .panicking ({v:= .iface 230 (.int .i64 c),recovered:=true}::older)∧w'=w.setCell ⟨g3,0,none⟩ (.int .i64 c):=by
 have c0:=h.cell (i:=0) rfl
 have z0:=h.frozen 0
 have hta: ∀w:World,(Instr.typeAssert (.iface 230 (.int .i64 c)) 20 230 true).run Tryz.prog w= .ok (.tuple #[.int .i64 c,.bool true]) w:=fun _=>by kernel_rfl
 refine callsD_of_wpS Tryz.func181 rfl fun c₀ cs hu=>?_
 apply wpS_seq
 apply wpS_region
 simp[wpOpsS,go_sem,recoverD,hu,Tryz.ntmps181,Exit.thenS]
 refine wpS_of_wp ?_
 go_wp2
 cases c₀
 simp_all[bodyPostS,results,Tryz.results181]
def tAt (h:HD)(kd:Int):Int:=if kd=4 then h.N 2 else h.N 4
def tSz (h:HD)(kd:Int):Nat:=(if kd=4 then h.N 3 else h.N 5).toNat
def tOff (h:HD)(kd:Int):Nat:=((tAt h kd-16)%18446744073709551616).toNat
def tCd (h:HD)(l:List Int)(kd:Int):Int:=if tabC l (tOff h kd) kd≠0 then tabC l (tOff h kd) kd else if taNum l (tOff h kd) kd=tSz h kd/16 then 0 else 14
def tCode (h:HD)(l:List Int)(kd:Int):Int:=if kd=4∨kd=5 then tCd h l kd else 1
def tNum (h:HD)(l:List Int)(kd:Int):Nat:=if tCode h l kd=0 then taNum l (tOff h kd) kd else 0
theorem tSz_is {h:HD}(ok:h.Ok 21)(kd:Int):(if kd=4 then h.N 3 else h.N 5)=(tSz h kd:Int)∧tSz h kd≤18446744073709551615:=by
 have h1:=ok.N 3
 have h2:=ok.N 5
 unfold tSz
 split<;>omega
theorem tOff_is {h:HD}(kd:Int):IntKind.u64.wrap (tAt h kd-16)=(tOff h kd:Int)∧tOff h kd≤18446744073709551615:=by
 unfold tOff
 rw[IntKind.wrap_u64]
 omega
def TellT (h:HD)(l:List Int)(kd:Int)(w:World)(e:Ending)(w':World):Prop:=Below w.heap.size w w'∧ ∃A' c,e= .returned (.tuple #[.slice A' (tNum h l kd) c,.int .i64 (tCode h l kd)])∧In2 w' A' (tNum h l kd) (taA (bodyL l (tOff h kd))) (taB (bodyL l (tOff h kd)))
def ReadT (h:HD)(l:List Int)(kd:Int)(w:World)(e:Ending)(w':World):Prop:=Below w.heap.size w w'∧((tCode h l kd≠0∧e= .panicked [haltE (tCode h l kd)])∨(tCode h l kd=0∧ ∃A' c,e= .returned (.slice A' (tNum h l kd) c)∧In2 w' A' (tNum h l kd) (taA (bodyL l (tOff h kd))) (taB (bodyL l (tOff h kd)))))
theorem in2_code {w:World}{A:Option Addr}{n:Nat}{f f2:Nat→Int}{g:Nat}{x:Int}(h:In2 w A n f f2)(hg:Blk w g [.int .i64 x] 3)(v:Value):In2 (w.setCell ⟨g,0,none⟩ v) A n f f2:=fun i hi=>by
 obtain⟨b,off,e,hb,h1,h2,h3⟩:=h i hi
 have hne:b≠g:=by
  intro he
  subst he
  have hgg:w.heap[b]? =some (.cells #[.int .i64 x] 3 (0,0)):=hg
  rw[World.cell?,hgg]at h1
  dsimp only at h1
  generalize off+i*2=k at*
  rcases k with _|k
  ·simp at h1
  ·simp at h1
 have hc:=Below.heap_setCell w ⟨g,0,none⟩ v b hne
 exact⟨b,off,e,by simpa using hb,(World.cell?_of_block (a:=⟨b,off+i*2,none⟩) hc).trans h1,(World.cell?_of_block (a:=⟨b,off+i*2+1,none⟩) hc).trans h2,h3⟩
attribute [local irreducible] HD.cells wpList Code.wp
theorem gots_no (A:Option Addr)(n k:Nat)(cd:Int)(h0:cd≠0)(w:World):Calls Tryz.prog 183 #[.slice A n k,.int .i64 cd] w fun e w'=>e= .panicked [haltE cd]∧w=w':=by
 have HN:=Lib.hid (need_no cd)
 have d0:(cd==0)=false:=by simpa using h0
 go_enter Tryz.func183,Tryz.ntmps183
 go_wp2_with(first
  |(go_at_call 148;(refine(HN.out _).mono ?_);rintro e w1 ⟨rfl,rfl⟩)
  |fail)
 exact⟨rfl,rfl,rfl⟩
theorem gots_yes (A:Option Addr)(n k:Nat)(w:World):Calls Tryz.prog 183 #[.slice A n k,.int .i64 0] w fun e w'=>e= .returned (.slice A n k)∧w=w':=by
 have HN:=Lib.hid (need_yes 0)
 go_enter Tryz.func183,Tryz.ntmps183
 go_wp2_with(first
  |(go_at_call 148;(refine(HN.out _).mono ?_);rintro e w1 ⟨rfl,rfl⟩)
  |fail)
 go_ret
 exact⟨rfl,rfl⟩
theorem vslots_any {gv:Nat}{h:HD}{A:Option Addr}{n c:Nat}{l:List Int}(kd:Int)(w:World)(v:ViewAt w gv h A n c l)(hk:kd=4∨kd=5):Calls Tryz.prog 182 #[.pointer (some ⟨gv,0,none⟩),.int .i64 kd] w fun e w'=>e= .returned (.tuple #[.int .u64 (tAt h kd),.int .u64 (tSz h kd:Int)])∧Below w.heap.size w w':=by
 have e1:=(tSz_is v.ok kd).1
 rw[←e1]
 clear e1
 unfold tAt
 have D:=Lib.hid (show Below w.heap.size w w.drew from(Below.refl w.heap.size w).drew)
 rcases hk with rfl|rfl
 ·rw[if_pos rfl,if_pos rfl]
  have c2:w.drew.cell? ⟨gv,69,none⟩=some (.int .u64 (h.N 2)):=v.blk.drew.cell (view_N _ _ 2 (by decide))
  have c3:w.drew.cell? ⟨gv,70,none⟩=some (.int .u64 (h.N 3)):=v.blk.drew.cell (view_N _ _ 3 (by decide))
  clear v
  go_enter Tryz.func182,Tryz.ntmps182
  go_upto_region 3 with fail
  go_region
  all_goals
   go_wp2
   go_ret2
   exact⟨rfl,D.out⟩
 ·rw[if_neg (by decide),if_neg (by decide)]
  have c4:w.drew.cell? ⟨gv,71,none⟩=some (.int .u64 (h.N 4)):=v.blk.drew.cell (view_N _ _ 4 (by decide))
  have c5:w.drew.cell? ⟨gv,72,none⟩=some (.int .u64 (h.N 5)):=v.blk.drew.cell (view_N _ _ 5 (by decide))
  clear v
  go_enter Tryz.func182,Tryz.ntmps182
  go_upto_region 5 with fail
  go_region
  all_goals
   go_wp2
   go_ret2
   exact⟨rfl,D.out⟩
theorem vslots_no {gv:Nat}(kd:Int)(w:World)(hk: ¬(kd=4∨kd=5)):Calls Tryz.prog 182 #[.pointer (some ⟨gv,0,none⟩),.int .i64 kd] w fun e w'=>e= .panicked [haltE 1]∧w=w':=by
 have d4:(kd==4)=false:=by simp;omega
 have d5:(kd==5)=false:=by simp;omega
 go_enter Tryz.func182,Tryz.ntmps182
 go_wp2
 exact⟨rfl,rfl,rfl⟩
theorem vtable_any {gv:Nat}{h:HD}{A:Option Addr}{n c:Nat}{l:List Int}(kd:Int)(w:World)(v:ViewAt w gv h A n c l)(hcm:c≤maxLen):Calls Tryz.prog 129 #[.pointer (some ⟨gv,0,none⟩),.int .i64 kd] w (ReadT h l kd w):=by
 unfold ReadT
 by_cases hk:kd=4∨kd=5
 ·have HSl:=Lib.hid (vslots_any kd w v hk)
  have HTb:=Lib.hid fun(W:World) (hW:Below w.heap.size w W)=>readTable_e A l n c (tOff h kd) kd W (v.below hW).by_ v.len v.big v.cap hcm (tOff_is kd).2
  unfold TabTold at HTb
  have C91:=Lib.hid fun(W:World) (hW:Below w.heap.size w W)=>(v.below hW).blk.cell (view_b _ _)
  have hwo:=(tOff_is (h:=h) kd).1
  have hsz:=(tSz_is v.ok kd).2
  have hcd:tCode h l kd=if tabC l (tOff h kd) kd≠0 then tabC l (tOff h kd) kd else if taNum l (tOff h kd) kd=tSz h kd/16 then 0 else 14:=if_pos hk
  have hnm:tNum h l kd=if tCode h l kd=0 then taNum l (tOff h kd) kd else 0:=rfl
  have hN9:taNum l (tOff h kd) kd≤1000000:=by
   unfold taNum
   have h1:(bodyL l (tOff h kd)).length≤l.length:=by unfold bodyL;rw[List.length_take,List.length_drop];omega
   have h2:=v.len
   have h3:=v.big
   split
   ·unfold taN;omega
   ·omega
  generalize tCode h l kd=cc at*
  generalize tNum h l kd=nn at*
  generalize taA (bodyL l (tOff h kd))=fa at*
  generalize taB (bodyL l (tOff h kd))=fb at*
  generalize taNum l (tOff h kd) kd=tn at*
  generalize tabC l (tOff h kd) kd=tc at*
  generalize tAt h kd=ta at*
  generalize tSz h kd=ts at*
  generalize tOff h kd=toff at*
  have HCD:=Lib.hid hcd
  have HNM:=Lib.hid hnm
  have hwn:IntKind.u64.wrap (tn:Int)=(tn:Int):=by rw[IntKind.wrap_u64];omega
  clear v hcd hnm hk
  by_cases hz:tc=0
  ·subst hz
   have hcd:=HCD.out
   rw[if_neg (by decide)]at hcd
   by_cases hq:tn=ts/16
   ·rw[if_pos hq]at hcd
    have hnm:=HNM.out
    rw[if_pos hcd]at hnm
    have HC0:=Lib.hid hcd
    have HN0:=Lib.hid hnm
    have dq:((tn:Int)==(ts:Int)/16)=true:=by simp;omega
    clear hcd hnm hq
    go_enter Tryz.func129,Tryz.ntmps129
    go_wp2_with(first
     |(go_at_call 182;(refine HSl.out.mono ?_);rintro e w1 ⟨rfl,hb1⟩;have B1:=Lib.hid hb1;have c91:=C91.out _ hb1;clear hb1)
     |(go_at_call 184;(refine(HTb.out _ B1.out).mono ?_);rintro e w2 ⟨A2,c2,rfl,hb2,hi2⟩;have B2:=Lib.hid (B1.out.trans (hb2.mono B1.out.size));have I2:=Lib.hid hi2;clear hb2 hi2)
     |(go_at_call 183;(refine(gots_yes _ _ _ _).mono ?_);rintro e w3 ⟨rfl,rfl⟩)
     |(go_at_call 148;(refine(need_yes 14 _).mono ?_);rintro e w4 ⟨rfl,rfl⟩)
     |fail)
    go_ret
    exact⟨B2.out,.inr ⟨HC0.out,A2,c2,by rw[HN0.out];rfl,by rw[HN0.out];exact I2.out⟩⟩
   ·rw[if_neg hq]at hcd
    have HC0:=Lib.hid hcd
    have dq:((tn:Int)==(ts:Int)/16)=false:=by simp;omega
    clear hcd hq
    go_enter Tryz.func129,Tryz.ntmps129
    go_wp2_with(first
     |(go_at_call 182;(refine HSl.out.mono ?_);rintro e w1 ⟨rfl,hb1⟩;have B1:=Lib.hid hb1;have c91:=C91.out _ hb1;clear hb1)
     |(go_at_call 184;(refine(HTb.out _ B1.out).mono ?_);rintro e w2 ⟨A2,c2,rfl,hb2,hi2⟩;have B2:=Lib.hid (B1.out.trans (hb2.mono B1.out.size));clear hb2 hi2)
     |(go_at_call 183;(refine(gots_yes _ _ _ _).mono ?_);rintro e w3 ⟨rfl,rfl⟩)
     |(go_at_call 148;(refine(need_no 14 _).mono ?_);rintro e w4 ⟨rfl,rfl⟩)
     |fail)
    exact⟨rfl,B2.out,.inl ⟨by rw[HC0.out];decide,by rw[HC0.out]⟩⟩
  ·have hcd:=HCD.out
   rw[if_pos hz]at hcd
   have HC0:=Lib.hid hcd
   clear hcd
   go_enter Tryz.func129,Tryz.ntmps129
   go_wp2_with(first
    |(go_at_call 182;(refine HSl.out.mono ?_);rintro e w1 ⟨rfl,hb1⟩;have B1:=Lib.hid hb1;have c91:=C91.out _ hb1;clear hb1)
    |(go_at_call 184;(refine(HTb.out _ B1.out).mono ?_);rintro e w2 ⟨A2,c2,rfl,hb2,hi2⟩;have B2:=Lib.hid (B1.out.trans (hb2.mono B1.out.size));clear hb2 hi2)
    |(go_at_call 183;(refine(gots_no _ _ _ _ hz _).mono ?_);rintro e w3 ⟨rfl,rfl⟩)
    |fail)
   exact⟨rfl,B2.out,.inl ⟨by rw[HC0.out];exact hz,by rw[HC0.out]⟩⟩
 ·have hcd:tCode h l kd=1:=if_neg hk
  have HSl:=Lib.hid (vslots_no (gv:=gv) kd w hk)
  rw[hcd]
  clear hcd v
  go_enter Tryz.func129,Tryz.ntmps129
  go_wp2_with(first
   |(go_at_call 182;(refine HSl.out.mono ?_);rintro e w1 ⟨rfl,rfl⟩)
   |fail)
  exact⟨rfl,Below.refl _ _,.inl ⟨by decide,rfl⟩⟩
end Vf
namespace Wa
open Ga Gb
open Ye
def nothB (n:Nat)(x:Int):Bool:=decide (x=0)||decide ((n:Int)≤x)
attribute [local irreducible] HD.cells wpList Code.wp
end Wa
namespace Xc
open Bytes8 Blk8 Own8 OwnE Rows2 Ob Ga Gb Ok7 Rc Va Fa Np Yg
open Rd (dcode)
open Rf (fcode)
theorem equal_any (a b:Option Addr)(l m:List Int)(n c k d:Nat)(w:World)(ha:Bytes w a l)(hb:Bytes w b m)(hn:l.length=n)(hm:m.length=k):
 Calls Tryz.prog 139 #[.slice a n c,.slice b k d] w fun e w'=>e= .returned (.bool (decide (l=m)))∧w=w':=by
 have h1:=ha.string c n hn
 have h2:=hb.string d k hm
 have h3:=T_beq ha.1 hb.1
 generalize decide (l=m)=z at*
 dsimp only[T]at h3
 generalize strOfNums l=S at*
 generalize strOfNums m=S2 at*
 clear ha hb hn hm
 go_enter Tryz.func139,Tryz.ntmps139
 go_wp2
 go_ret
 exact⟨rfl,rfl⟩
def cmpN (x y:Nat):Int:=if x<y then -1 else if y<x then 1 else 0
theorem nan_any (x:Int)(w:World):Calls Tryz.prog 185 #[.int .u64 x] w fun e w'=>e= .returned (.bool false)∧w=w':=by
 have h:(x !=x)=false:=by simp
 go_enter Tryz.func185,Tryz.ntmps185
 go_wp2
 go_ret
 exact⟨rfl,rfl⟩
theorem compare_any (x y:Nat)(w:World):Calls Tryz.prog 131 #[.int .u64 (x:Int),.int .u64 (y:Int)] w fun e w'=>e= .returned (.int .i64 (cmpN x y))∧w=w':=by
 have HN:=Lib.hid fun(z:Int)=>nan_any z w
 unfold cmpN
 rcases Nat.lt_trichotomy x y with h|h|h
 ·rw[if_pos h]
  have d1:decide ((x:Int)<(y:Int))=true:=by simp;omega
  go_enter Tryz.func131,Tryz.ntmps131
  go_wp2_with(first
   |(go_at_call 185;(refine(HN.out _).mono ?_);rintro e w1 ⟨rfl,rfl⟩)
   |fail)
  go_ret
  exact⟨rfl,rfl⟩
 ·subst h
  rw[if_neg (Nat.lt_irrefl _),if_neg (Nat.lt_irrefl _)]
  have d1:decide ((x:Int)<(x:Int))=false:=by simp
  go_enter Tryz.func131,Tryz.ntmps131
  go_wp2_with(first
   |(go_at_call 185;(refine(HN.out _).mono ?_);rintro e w1 ⟨rfl,rfl⟩)
   |fail)
  go_ret
  exact⟨rfl,rfl⟩
 ·rw[if_neg (by omega),if_pos h]
  have d1:decide ((x:Int)<(y:Int))=false:=by simp;omega
  have d2:decide ((y:Int)<(x:Int))=true:=by simp;omega
  go_enter Tryz.func131,Tryz.ntmps131
  go_wp2_with(first
   |(go_at_call 185;(refine(HN.out _).mono ?_);rintro e w1 ⟨rfl,rfl⟩)
   |fail)
  go_ret
  exact⟨rfl,rfl⟩
abbrev linkV (a h x d:Int)(A:Option Addr)(m c:Nat):Value:= .agg #[.int .u64 a,.int .u64 h,.int .u64 x,.int .u64 d,.slice A m c]
def ReadK (oC oH oX oD:Nat→Int)(oP:Nat→List Int)(a:Nat)(w:World)(e:Ending)(w':World):Prop:=Below w.heap.size w w'∧ ∃A m c,e= .returned (.tuple #[linkV a (oH a) (oX a) (oD a) A m c,.int .i64 (oC a)])∧Bytes w' A (oP a)∧(oP a).length=m
theorem bytes_set {w:World}{g:Nat}{vs:List Value}{T:TypeId}(hB:Blk w g vs T)(hne: ∀v∈vs,∀x,v≠ .int .u8 x){A:Option Addr}{l:List Int}(h:Bytes w A l)(cs:Array Value):Bytes (w.setRow g cs) A l:=⟨h.1,fun i hi=>by
 obtain⟨b,off,e,hb,hc⟩:=h.2 i hi
 have hbg:b≠g:=fun h1=>by
  subst h1
  have h2:w.heap[b]? =some (.cells vs.toArray T (0,0)):=hB
  simp only[World.cell?,h2]at hc
  rw[List.getElem?_toArray]at hc
  exact hne _ (List.mem_of_getElem? hc) _ rfl
 exact⟨b,off,e,by simpa using hb,(World.cell?_of_block (a:=⟨b,off+i,none⟩) (setRow_other w g b cs hbg)).trans hc⟩⟩
abbrev zK:List Value:=[.int .u64 0,.int .u64 0,.int .u64 0,.int .u64 0,.slice none 0 0]
theorem zK_u8: ∀v∈zK,∀x,v≠ .int .u8 x:=by
 intro v hv x e
 subst e
 simp[zK]at hv
theorem linkInfo (a h x d:Int)(F:Value):(Tryz.prog.info? 156).map (·.size)=some (#[Value.int .u64 a,.int .u64 h,.int .u64 x,.int .u64 d,F]:Array Value).size:=by kernel_rfl
attribute [local irreducible] HD.cells wpList Code.wp
theorem dbh_any {gv:Nat}{h:HD}{A:Option Addr}{n c:Nat}{l:List Int}(a:Nat)(w:World)(v:ViewAt w gv h A n c l)(hcm:c≤maxLen):
 Calls Tryz.prog 133 #[.pointer (some ⟨gv,0,none⟩),.int .u64 (a:Int)] w (ReadK (dcode h l n) (fun a=>dN h l n a 0) (fun a=>dN h l n a 1) (fun _=>0) (dP h l n) a w):=by
 have B1:=Lib.hid ((Below.refl w.heap.size w).alloc (Nat.le_refl _) (.cells #[.int .u64 0,.int .u64 0,.int .u64 0,.int .u64 0,.slice none 0 0] 156))
 have HD:=Lib.hid (dataTell a _ (v.below B1.out) hcm)
 unfold TellD at HD
 have R1:=Lib.hid (Blk.new w zK 156)
 have hz1:w.heap.size<(w.alloc (.cells #[.int .u64 0,.int .u64 0,.int .u64 0,.int .u64 0,.slice none 0 0] 156)).heap.size:=by simp
 clear v
 unfold ReadK
 dsimp only
 generalize dN h l n a 0=x0 at*
 generalize dN h l n a 1=x1 at*
 generalize dN h l n a 2=x2 at*
 generalize dN h l n a 3=x3 at*
 generalize dN h l n a 4=x4 at*
 generalize dN h l n a 5=x5 at*
 generalize dP h l n a=pl at*
 generalize dcode h l n a=cd at*
 go_enter Tryz.func133,Tryz.ntmps133
 go_upto_region 2 with(first
  |(go_at_call 32;(refine HD.out.mono ?_);rintro e w2 ⟨hb2,A2,m2,c2,rfl,hy2,hl2,hc2⟩;have B2:=Lib.hid hb2;have Y2:=Lib.hid hy2;have L2:=Lib.hid hl2;clear hb2 hy2 hl2 hc2)
  |fail)
 have B3:=Lib.hid ((B1.out.trans (B2.out.mono B1.out.size)).alloc (Nat.le_trans B1.out.size B2.out.size) (.cells #[.int .u64 x0,.int .u64 x1,.int .u64 x2,.int .u64 x3,.int .u64 x4,.int .u64 x5,.slice A2 m2 c2] 67))
 have R3:=Lib.hid (Blk.new w2 [.int .u64 x0,.int .u64 x1,.int .u64 x2,.int .u64 x3,.int .u64 x4,.int .u64 x5,.slice A2 m2 c2] 67)
 have R2:=Lib.hid ((R1.out.below B2.out hz1).alloc (.cells #[.int .u64 x0,.int .u64 x1,.int .u64 x2,.int .u64 x3,.int .u64 x4,.int .u64 x5,.slice A2 m2 c2] 67))
 have Y3:=Lib.hid (Y2.out.below ((Below.refl w2.heap.size w2).alloc (Nat.le_refl _) (.cells #[.int .u64 x0,.int .u64 x1,.int .u64 x2,.int .u64 x3,.int .u64 x4,.int .u64 x5,.slice A2 m2 c2] 67)) (Nat.le_refl _))
 clear HD B1 B2 R1 Y2
 generalize (w2.alloc (.cells #[.int .u64 x0,.int .u64 x1,.int .u64 x2,.int .u64 x3,.int .u64 x4,.int .u64 x5,.slice A2 m2 c2] 67))=w3 at*
 generalize w2.heap.size=g2 at*
 have k0:=R3.out.cell (i:=0) rfl;have k1:=R3.out.cell (i:=1) rfl;have k6:=R3.out.cell (i:=6) rfl
 go_wp2_with(first
  |((with_reducible apply at_store (.tmp 4) (.tmp 21));refine wpList_store_row rfl 156 (.tmp 4) (.tmp 21) rfl w.heap.size #[Value.int .u64 (a:Int),.int .u64 (x0),.int .u64 (x1),.int .u64 (0),.slice A2 m2 c2] rfl rfl 156 zK.toArray R2.out (linkInfo _ _ _ _ _) rfl (by simp[Value.oneCell']) ?_)
  |fail)
 refine bodyPost_ret (v:= .tuple #[.agg #[Value.int .u64 (a:Int),.int .u64 (x0),.int .u64 (x1),.int .u64 (0),.slice A2 m2 c2],.int .i64 cd]) (by exact res_row Tryz.results133 _ _ w.heap.size 156 _ (0,0) _ _ rfl rfl (setRow_heap _ _ _ _ _ (0,0) R2.out) Tryz.underlying156 rfl (linkInfo _ _ _ _ _)) rfl ?_
 exact⟨below_setRow B3.out (Nat.le_refl _) _,A2,m2,c2,rfl,bytes_set R2.out zK_u8 Y3.out _,L2.out⟩
theorem fbh_any {gv:Nat}{h:HD}{A:Option Addr}{n c:Nat}{l:List Int}(a:Nat)(w:World)(v:ViewAt w gv h A n c l)(hcm:c≤maxLen):
 Calls Tryz.prog 132 #[.pointer (some ⟨gv,0,none⟩),.int .u64 (a:Int)] w (ReadK (fcode h l n) (fun a=>fN h l n a 0) (fun a=>fN h l n a 1) (fun a=>fN h l n a 2) (fP h l n) a w):=by
 have B1:=Lib.hid ((Below.refl w.heap.size w).alloc (Nat.le_refl _) (.cells #[.int .u64 0,.int .u64 0,.int .u64 0,.int .u64 0,.slice none 0 0] 156))
 have HD:=Lib.hid (fieldTell a _ (v.below B1.out) hcm)
 unfold TellF at HD
 have R1:=Lib.hid (Blk.new w zK 156)
 have hz1:w.heap.size<(w.alloc (.cells #[.int .u64 0,.int .u64 0,.int .u64 0,.int .u64 0,.slice none 0 0] 156)).heap.size:=by simp
 clear v
 unfold ReadK
 dsimp only
 generalize fN h l n a 0=x0 at*
 generalize fN h l n a 1=x1 at*
 generalize fN h l n a 2=x2 at*
 generalize fP h l n a=pl at*
 generalize fcode h l n a=cd at*
 go_enter Tryz.func132,Tryz.ntmps132
 go_upto_region 2 with(first
  |(go_at_call 33;(refine HD.out.mono ?_);rintro e w2 ⟨hb2,A2,m2,c2,rfl,hy2,hl2,hc2⟩;have B2:=Lib.hid hb2;have Y2:=Lib.hid hy2;have L2:=Lib.hid hl2;clear hb2 hy2 hl2 hc2)
  |fail)
 have B3:=Lib.hid ((B1.out.trans (B2.out.mono B1.out.size)).alloc (Nat.le_trans B1.out.size B2.out.size) (.cells #[.int .u64 x0,.int .u64 x1,.int .u64 x2,.slice A2 m2 c2] 71))
 have R3:=Lib.hid (Blk.new w2 [.int .u64 x0,.int .u64 x1,.int .u64 x2,.slice A2 m2 c2] 71)
 have R2:=Lib.hid ((R1.out.below B2.out hz1).alloc (.cells #[.int .u64 x0,.int .u64 x1,.int .u64 x2,.slice A2 m2 c2] 71))
 have Y3:=Lib.hid (Y2.out.below ((Below.refl w2.heap.size w2).alloc (Nat.le_refl _) (.cells #[.int .u64 x0,.int .u64 x1,.int .u64 x2,.slice A2 m2 c2] 71)) (Nat.le_refl _))
 clear HD B1 B2 R1 Y2
 generalize (w2.alloc (.cells #[.int .u64 x0,.int .u64 x1,.int .u64 x2,.slice A2 m2 c2] 71))=w3 at*
 generalize w2.heap.size=g2 at*
 have k0:=R3.out.cell (i:=0) rfl;have k1:=R3.out.cell (i:=1) rfl;have k2:=R3.out.cell (i:=2) rfl;have k3:=R3.out.cell (i:=3) rfl
 go_wp2_with(first
  |((with_reducible apply at_store (.tmp 4) (.tmp 23));refine wpList_store_row rfl 156 (.tmp 4) (.tmp 23) rfl w.heap.size #[Value.int .u64 (a:Int),.int .u64 (x0),.int .u64 (x1),.int .u64 (x2),.slice A2 m2 c2] rfl rfl 156 zK.toArray R2.out (linkInfo _ _ _ _ _) rfl (by simp[Value.oneCell']) ?_)
  |fail)
 refine bodyPost_ret (v:= .tuple #[.agg #[Value.int .u64 (a:Int),.int .u64 (x0),.int .u64 (x1),.int .u64 (x2),.slice A2 m2 c2],.int .i64 cd]) (by exact res_row Tryz.results132 _ _ w.heap.size 156 _ (0,0) _ _ rfl rfl (setRow_heap _ _ _ _ _ (0,0) R2.out) Tryz.underlying156 rfl (linkInfo _ _ _ _ _)) rfl ?_
 exact⟨below_setRow B3.out (Nat.le_refl _) _,A2,m2,c2,rfl,bytes_set R2.out zK_u8 Y3.out _,L2.out⟩
end Xc
end Go.Proofs.YtjecmgkmcfkcjaaGreat
