/-
  Texts beneath the proof.
-/
import Derived.Test.YtjecmgkmcfkcjaaGreatQhChainDatasb1
set_option linter.unusedVariables false
set_option linter.unusedSimpArgs false
set_option maxRecDepth 100000
set_option maxHeartbeats 4000000
open Go.ChangeShapes Go.WideShapes Go.ChangeAt Go.RowKit
namespace Go.Proofs.YtjecmgkmcfkcjaaGreat
namespace Vf
open Bytes8 Blk8 Own8 OwnE Rows2 Ob Ga Gb Ok7 Rc
open Yc Yp Ye Yg Yh
open Rl (res_slot_cell)
open Re (load_code)
theorem caught_idle (g3:Nat)(w:World):CallsD Tryz.prog 181 #[.pointer (some ⟨g3,0,none⟩)] .returning w fun e u' w'=>e= .returned (.tuple #[])∧u'= .returning∧w'=w:=by
 refine callsD_of_wpS Tryz.func181 rfl fun c₀ cs hu=>?_
 apply wpS_seq
 apply wpS_region
 simp[wpOpsS,go_sem,recoverD,hu,Tryz.ntmps181,Exit.thenS]
 refine wpS_of_wp ?_
 go_wp2
 cases c₀
 simp_all[bodyPostS,results,Tryz.results181]
theorem caught_halt (g3:Nat)(c y:Int)(older:List PanicEntry)(w:World)(h:Blk w g3 [.int .i64 y] 3):CallsD Tryz.prog 181 #[.pointer (some ⟨g3,0,none⟩)] (.panicking ({v:= .iface 230 (.int .i64 c),recovered:=false}::older)) w fun e u' w'=>e= .returned (.tuple #[])∧u'= .panicking ({v:= .iface 230 (.int .i64 c),recovered:=true}::older)∧w'=w.setCell ⟨g3,0,none⟩ (.int .i64 c):=by
 have c0:=h.cell (i:=0) rfl
 have z0:=h.frozen 0
 have hta: ∀w:World,(Instr.typeAssert (.iface 230 (.int .i64 c)) 20 230 true).run Tryz.prog w= .ok (.tuple #[.int .i64 c,.bool true]) w:=fun _=>by kernel_rfl
 refine callsD_of_wpS Tryz.func181 rfl fun c₀ cs hu=>?_
 apply wpS_seq
 apply wpS_region
 simp[wpOpsS,go_sem,recoverD,hu,Tryz.ntmps181,Exit.thenS]
 refine wpS_of_wp ?_
 go_wp2
 cases c₀
 simp_all[bodyPostS,results,Tryz.results181]
def tAt (h:HD)(kd:Int):Int:=if kd=4 then h.N 2 else h.N 4
def tSz (h:HD)(kd:Int):Nat:=(if kd=4 then h.N 3 else h.N 5).toNat
def tOff (h:HD)(kd:Int):Nat:=((tAt h kd-16)%18446744073709551616).toNat
def tCd (h:HD)(l:List Int)(kd:Int):Int:=if tabC l (tOff h kd) kd≠0 then tabC l (tOff h kd) kd else if taNum l (tOff h kd) kd=tSz h kd/16 then 0 else 14
def tCode (h:HD)(l:List Int)(kd:Int):Int:=if kd=4∨kd=5 then tCd h l kd else 1
def tNum (h:HD)(l:List Int)(kd:Int):Nat:=if tCode h l kd=0 then taNum l (tOff h kd) kd else 0
theorem tSz_is {h:HD}(ok:h.Ok 21)(kd:Int):(if kd=4 then h.N 3 else h.N 5)=(tSz h kd:Int)∧tSz h kd≤18446744073709551615:=by
 have h1:=ok.N 3
 have h2:=ok.N 5
 unfold tSz
 split<;>omega
theorem tOff_is {h:HD}(kd:Int):IntKind.u64.wrap (tAt h kd-16)=(tOff h kd:Int)∧tOff h kd≤18446744073709551615:=by
 unfold tOff
 rw[IntKind.wrap_u64]
 omega
def TellT (h:HD)(l:List Int)(kd:Int)(w:World)(e:Ending)(w':World):Prop:=Below w.heap.size w w'∧ ∃A' c,e= .returned (.tuple #[.slice A' (tNum h l kd) c,.int .i64 (tCode h l kd)])∧In2 w' A' (tNum h l kd) (taA (bodyL l (tOff h kd))) (taB (bodyL l (tOff h kd)))
def ReadT (h:HD)(l:List Int)(kd:Int)(w:World)(e:Ending)(w':World):Prop:=Below w.heap.size w w'∧((tCode h l kd≠0∧e= .panicked [haltE (tCode h l kd)])∨(tCode h l kd=0∧ ∃A' c,e= .returned (.slice A' (tNum h l kd) c)∧In2 w' A' (tNum h l kd) (taA (bodyL l (tOff h kd))) (taB (bodyL l (tOff h kd)))))
theorem in2_code {w:World}{A:Option Addr}{n:Nat}{f f2:Nat→Int}{g:Nat}{x:Int}(h:In2 w A n f f2)(hg:Blk w g [.int .i64 x] 3)(v:Value):In2 (w.setCell ⟨g,0,none⟩ v) A n f f2:=fun i hi=>by
 obtain⟨b,off,e,hb,h1,h2,h3⟩:=h i hi
 have hne:b≠g:=by
  intro he
  subst he
  have hgg:w.heap[b]? =some (.cells #[.int .i64 x] 3 (0,0)):=hg
  rw[World.cell?,hgg]at h1
  dsimp only at h1
  generalize off+i*2=k at*
  rcases k with _|k
  ·simp at h1
  ·simp at h1
 have hc:=Below.heap_setCell w ⟨g,0,none⟩ v b hne
 exact⟨b,off,e,by simpa using hb,(World.cell?_of_block (a:=⟨b,off+i*2,none⟩) hc).trans h1,(World.cell?_of_block (a:=⟨b,off+i*2+1,none⟩) hc).trans h2,h3⟩
attribute [local irreducible] HD.cells wpList Code.wp
theorem gots_no (A:Option Addr)(n k:Nat)(cd:Int)(h0:cd≠0)(w:World):Calls Tryz.prog 183 #[.slice A n k,.int .i64 cd] w fun e w'=>e= .panicked [haltE cd]∧w=w':=by
 have HN:=Lib.hid (need_no cd)
 have d0:(cd==0)=false:=by simpa using h0
 go_enter Tryz.func183,Tryz.ntmps183
 go_wp2_with(first
  |(go_at_call 148;(refine(HN.out _).mono ?_);rintro e w1 ⟨rfl,rfl⟩)
  |fail)
 exact⟨rfl,rfl,rfl⟩
theorem gots_yes (A:Option Addr)(n k:Nat)(w:World):Calls Tryz.prog 183 #[.slice A n k,.int .i64 0] w fun e w'=>e= .returned (.slice A n k)∧w=w':=by
 have HN:=Lib.hid (need_yes 0)
 go_enter Tryz.func183,Tryz.ntmps183
 go_wp2_with(first
  |(go_at_call 148;(refine(HN.out _).mono ?_);rintro e w1 ⟨rfl,rfl⟩)
  |fail)
 go_ret
 exact⟨rfl,rfl⟩
theorem vslots_any {gv:Nat}{h:HD}{A:Option Addr}{n c:Nat}{l:List Int}(kd:Int)(w:World)(v:ViewAt w gv h A n c l)(hk:kd=4∨kd=5):Calls Tryz.prog 182 #[.pointer (some ⟨gv,0,none⟩),.int .i64 kd] w fun e w'=>e= .returned (.tuple #[.int .u64 (tAt h kd),.int .u64 (tSz h kd:Int)])∧Below w.heap.size w w':=by
 have e1:=(tSz_is v.ok kd).1
 rw[←e1]
 clear e1
 unfold tAt
 have D:=Lib.hid (show Below w.heap.size w w.drew from(Below.refl w.heap.size w).drew)
 rcases hk with rfl|rfl
 ·rw[if_pos rfl,if_pos rfl]
  have c2:w.drew.cell? ⟨gv,69,none⟩=some (.int .u64 (h.N 2)):=v.blk.drew.cell (view_N _ _ 2 (by decide))
  have c3:w.drew.cell? ⟨gv,70,none⟩=some (.int .u64 (h.N 3)):=v.blk.drew.cell (view_N _ _ 3 (by decide))
  clear v
  go_enter Tryz.func182,Tryz.ntmps182
  go_upto_region 3 with fail
  go_region
  all_goals
   go_wp2
   go_ret2
   exact⟨rfl,D.out⟩
 ·rw[if_neg (by decide),if_neg (by decide)]
  have c4:w.drew.cell? ⟨gv,71,none⟩=some (.int .u64 (h.N 4)):=v.blk.drew.cell (view_N _ _ 4 (by decide))
  have c5:w.drew.cell? ⟨gv,72,none⟩=some (.int .u64 (h.N 5)):=v.blk.drew.cell (view_N _ _ 5 (by decide))
  clear v
  go_enter Tryz.func182,Tryz.ntmps182
  go_upto_region 5 with fail
  go_region
  all_goals
   go_wp2
   go_ret2
   exact⟨rfl,D.out⟩
theorem vslots_no {gv:Nat}(kd:Int)(w:World)(hk: ¬(kd=4∨kd=5)):Calls Tryz.prog 182 #[.pointer (some ⟨gv,0,none⟩),.int .i64 kd] w fun e w'=>e= .panicked [haltE 1]∧w=w':=by
 have d4:(kd==4)=false:=by simp;omega
 have d5:(kd==5)=false:=by simp;omega
 go_enter Tryz.func182,Tryz.ntmps182
 go_wp2
 exact⟨rfl,rfl,rfl⟩
theorem vtable_any {gv:Nat}{h:HD}{A:Option Addr}{n c:Nat}{l:List Int}(kd:Int)(w:World)(v:ViewAt w gv h A n c l)(hcm:c≤maxLen):Calls Tryz.prog 129 #[.pointer (some ⟨gv,0,none⟩),.int .i64 kd] w (ReadT h l kd w):=by
 unfold ReadT
 by_cases hk:kd=4∨kd=5
 ·have HSl:=Lib.hid (vslots_any kd w v hk)
  have HTb:=Lib.hid fun(W:World) (hW:Below w.heap.size w W)=>readTable_e A l n c (tOff h kd) kd W (v.below hW).by_ v.len v.big v.cap hcm (tOff_is kd).2
  unfold TabTold at HTb
  have C91:=Lib.hid fun(W:World) (hW:Below w.heap.size w W)=>(v.below hW).blk.cell (view_b _ _)
  have hwo:=(tOff_is (h:=h) kd).1
  have hsz:=(tSz_is v.ok kd).2
  have hcd:tCode h l kd=if tabC l (tOff h kd) kd≠0 then tabC l (tOff h kd) kd else if taNum l (tOff h kd) kd=tSz h kd/16 then 0 else 14:=if_pos hk
  have hnm:tNum h l kd=if tCode h l kd=0 then taNum l (tOff h kd) kd else 0:=rfl
  have hN9:taNum l (tOff h kd) kd≤1000000:=by
   unfold taNum
   have h1:(bodyL l (tOff h kd)).length≤l.length:=by unfold bodyL;rw[List.length_take,List.length_drop];omega
   have h2:=v.len
   have h3:=v.big
   split
   ·unfold taN;omega
   ·omega
  generalize tCode h l kd=cc at*
  generalize tNum h l kd=nn at*
  generalize taA (bodyL l (tOff h kd))=fa at*
  generalize taB (bodyL l (tOff h kd))=fb at*
  generalize taNum l (tOff h kd) kd=tn at*
  generalize tabC l (tOff h kd) kd=tc at*
  generalize tAt h kd=ta at*
  generalize tSz h kd=ts at*
  generalize tOff h kd=toff at*
  have HCD:=Lib.hid hcd
  have HNM:=Lib.hid hnm
  have hwn:IntKind.u64.wrap (tn:Int)=(tn:Int):=by rw[IntKind.wrap_u64];omega
  clear v hcd hnm hk
  by_cases hz:tc=0
  ·subst hz
   have hcd:=HCD.out
   rw[if_neg (by decide)]at hcd
   by_cases hq:tn=ts/16
   ·rw[if_pos hq]at hcd
    have hnm:=HNM.out
    rw[if_pos hcd]at hnm
    have HC0:=Lib.hid hcd
    have HN0:=Lib.hid hnm
    have dq:((tn:Int)==(ts:Int)/16)=true:=by simp;omega
    clear hcd hnm hq
    go_enter Tryz.func129,Tryz.ntmps129
    go_wp2_with(first
     |(go_at_call 182;(refine HSl.out.mono ?_);rintro e w1 ⟨rfl,hb1⟩;have B1:=Lib.hid hb1;have c91:=C91.out _ hb1;clear hb1)
     |(go_at_call 184;(refine(HTb.out _ B1.out).mono ?_);rintro e w2 ⟨A2,c2,rfl,hb2,hi2⟩;have B2:=Lib.hid (B1.out.trans (hb2.mono B1.out.size));have I2:=Lib.hid hi2;clear hb2 hi2)
     |(go_at_call 183;(refine(gots_yes _ _ _ _).mono ?_);rintro e w3 ⟨rfl,rfl⟩)
     |(go_at_call 148;(refine(need_yes 14 _).mono ?_);rintro e w4 ⟨rfl,rfl⟩)
     |fail)
    go_ret
    exact⟨B2.out,.inr ⟨HC0.out,A2,c2,by rw[HN0.out];rfl,by rw[HN0.out];exact I2.out⟩⟩
   ·rw[if_neg hq]at hcd
    have HC0:=Lib.hid hcd
    have dq:((tn:Int)==(ts:Int)/16)=false:=by simp;omega
    clear hcd hq
    go_enter Tryz.func129,Tryz.ntmps129
    go_wp2_with(first
     |(go_at_call 182;(refine HSl.out.mono ?_);rintro e w1 ⟨rfl,hb1⟩;have B1:=Lib.hid hb1;have c91:=C91.out _ hb1;clear hb1)
     |(go_at_call 184;(refine(HTb.out _ B1.out).mono ?_);rintro e w2 ⟨A2,c2,rfl,hb2,hi2⟩;have B2:=Lib.hid (B1.out.trans (hb2.mono B1.out.size));clear hb2 hi2)
     |(go_at_call 183;(refine(gots_yes _ _ _ _).mono ?_);rintro e w3 ⟨rfl,rfl⟩)
     |(go_at_call 148;(refine(need_no 14 _).mono ?_);rintro e w4 ⟨rfl,rfl⟩)
     |fail)
    exact⟨rfl,B2.out,.inl ⟨by rw[HC0.out];decide,by rw[HC0.out]⟩⟩
  ·have hcd:=HCD.out
   rw[if_pos hz]at hcd
   have HC0:=Lib.hid hcd
   clear hcd
   go_enter Tryz.func129,Tryz.ntmps129
   go_wp2_with(first
    |(go_at_call 182;(refine HSl.out.mono ?_);rintro e w1 ⟨rfl,hb1⟩;have B1:=Lib.hid hb1;have c91:=C91.out _ hb1;clear hb1)
    |(go_at_call 184;(refine(HTb.out _ B1.out).mono ?_);rintro e w2 ⟨A2,c2,rfl,hb2,hi2⟩;have B2:=Lib.hid (B1.out.trans (hb2.mono B1.out.size));clear hb2 hi2)
    |(go_at_call 183;(refine(gots_no _ _ _ _ hz _).mono ?_);rintro e w3 ⟨rfl,rfl⟩)
    |fail)
   exact⟨rfl,B2.out,.inl ⟨by rw[HC0.out];exact hz,by rw[HC0.out]⟩⟩
 ·have hcd:tCode h l kd=1:=if_neg hk
  have HSl:=Lib.hid (vslots_no (gv:=gv) kd w hk)
  rw[hcd]
  clear hcd v
  go_enter Tryz.func129,Tryz.ntmps129
  go_wp2_with(first
   |(go_at_call 182;(refine HSl.out.mono ?_);rintro e w1 ⟨rfl,rfl⟩)
   |fail)
  exact⟨rfl,Below.refl _ _,.inl ⟨by decide,rfl⟩⟩
end Vf
namespace Xc
open Bytes8 Blk8 Own8 OwnE Rows2 Ob Ga Gb Ok7 Rc Va Fa Np Yg
open Rd (dcode)
open Rf (fcode)
theorem equal_any (a b:Option Addr)(l m:List Int)(n c k d:Nat)(w:World)(ha:Bytes w a l)(hb:Bytes w b m)(hn:l.length=n)(hm:m.length=k):
 Calls Tryz.prog 139 #[.slice a n c,.slice b k d] w fun e w'=>e= .returned (.bool (decide (l=m)))∧w=w':=by
 have h1:=ha.string c n hn
 have h2:=hb.string d k hm
 have h3:=T_beq ha.1 hb.1
 generalize decide (l=m)=z at*
 dsimp only[T]at h3
 generalize strOfNums l=S at*
 generalize strOfNums m=S2 at*
 clear ha hb hn hm
 go_enter Tryz.func139,Tryz.ntmps139
 go_wp2
 go_ret
 exact⟨rfl,rfl⟩
def cmpN (x y:Nat):Int:=if x<y then -1 else if y<x then 1 else 0
theorem nan_any (x:Int)(w:World):Calls Tryz.prog 185 #[.int .u64 x] w fun e w'=>e= .returned (.bool false)∧w=w':=by
 have h:(x !=x)=false:=by simp
 go_enter Tryz.func185,Tryz.ntmps185
 go_wp2
 go_ret
 exact⟨rfl,rfl⟩
theorem compare_any (x y:Nat)(w:World):Calls Tryz.prog 131 #[.int .u64 (x:Int),.int .u64 (y:Int)] w fun e w'=>e= .returned (.int .i64 (cmpN x y))∧w=w':=by
 have HN:=Lib.hid fun(z:Int)=>nan_any z w
 unfold cmpN
 rcases Nat.lt_trichotomy x y with h|h|h
 ·rw[if_pos h]
  have d1:decide ((x:Int)<(y:Int))=true:=by simp;omega
  go_enter Tryz.func131,Tryz.ntmps131
  go_wp2_with(first
   |(go_at_call 185;(refine(HN.out _).mono ?_);rintro e w1 ⟨rfl,rfl⟩)
   |fail)
  go_ret
  exact⟨rfl,rfl⟩
 ·subst h
  rw[if_neg (Nat.lt_irrefl _),if_neg (Nat.lt_irrefl _)]
  have d1:decide ((x:Int)<(x:Int))=false:=by simp
  go_enter Tryz.func131,Tryz.ntmps131
  go_wp2_with(first
   |(go_at_call 185;(refine(HN.out _).mono ?_);rintro e w1 ⟨rfl,rfl⟩)
   |fail)
  go_ret
  exact⟨rfl,rfl⟩
 ·rw[if_neg (by omega),if_pos h]
  have d1:decide ((x:Int)<(y:Int))=false:=by simp;omega
  have d2:decide ((y:Int)<(x:Int))=true:=by simp;omega
  go_enter Tryz.func131,Tryz.ntmps131
  go_wp2_with(first
   |(go_at_call 185;(refine(HN.out _).mono ?_);rintro e w1 ⟨rfl,rfl⟩)
   |fail)
  go_ret
  exact⟨rfl,rfl⟩
abbrev linkV (a h x d:Int)(A:Option Addr)(m c:Nat):Value:= .agg #[.int .u64 a,.int .u64 h,.int .u64 x,.int .u64 d,.slice A m c]
def ReadK (oC oH oX oD:Nat→Int)(oP:Nat→List Int)(a:Nat)(w:World)(e:Ending)(w':World):Prop:=Below w.heap.size w w'∧ ∃A m c,e= .returned (.tuple #[linkV a (oH a) (oX a) (oD a) A m c,.int .i64 (oC a)])∧Bytes w' A (oP a)∧(oP a).length=m
theorem bytes_set {w:World}{g:Nat}{vs:List Value}{T:TypeId}(hB:Blk w g vs T)(hne: ∀v∈vs,∀x,v≠ .int .u8 x){A:Option Addr}{l:List Int}(h:Bytes w A l)(cs:Array Value):Bytes (w.setRow g cs) A l:=⟨h.1,fun i hi=>by
 obtain⟨b,off,e,hb,hc⟩:=h.2 i hi
 have hbg:b≠g:=fun h1=>by
  subst h1
  have h2:w.heap[b]? =some (.cells vs.toArray T (0,0)):=hB
  simp only[World.cell?,h2]at hc
  rw[List.getElem?_toArray]at hc
  exact hne _ (List.mem_of_getElem? hc) _ rfl
 exact⟨b,off,e,by simpa using hb,(World.cell?_of_block (a:=⟨b,off+i,none⟩) (setRow_other w g b cs hbg)).trans hc⟩⟩
abbrev zK:List Value:=[.int .u64 0,.int .u64 0,.int .u64 0,.int .u64 0,.slice none 0 0]
theorem zK_u8: ∀v∈zK,∀x,v≠ .int .u8 x:=by
 intro v hv x e
 subst e
 simp[zK]at hv
theorem linkInfo (a h x d:Int)(F:Value):(Tryz.prog.info? 156).map (·.size)=some (#[Value.int .u64 a,.int .u64 h,.int .u64 x,.int .u64 d,F]:Array Value).size:=by kernel_rfl
attribute [local irreducible] HD.cells wpList Code.wp
theorem dbh_any {gv:Nat}{h:HD}{A:Option Addr}{n c:Nat}{l:List Int}(a:Nat)(w:World)(v:ViewAt w gv h A n c l)(hcm:c≤maxLen):
 Calls Tryz.prog 133 #[.pointer (some ⟨gv,0,none⟩),.int .u64 (a:Int)] w (ReadK (dcode h l n) (fun a=>dN h l n a 0) (fun a=>dN h l n a 1) (fun _=>0) (dP h l n) a w):=by
 have B1:=Lib.hid ((Below.refl w.heap.size w).alloc (Nat.le_refl _) (.cells #[.int .u64 0,.int .u64 0,.int .u64 0,.int .u64 0,.slice none 0 0] 156))
 have HD:=Lib.hid (dataTell a _ (v.below B1.out) hcm)
 unfold TellD at HD
 have R1:=Lib.hid (Blk.new w zK 156)
 have hz1:w.heap.size<(w.alloc (.cells #[.int .u64 0,.int .u64 0,.int .u64 0,.int .u64 0,.slice none 0 0] 156)).heap.size:=by simp
 clear v
 unfold ReadK
 dsimp only
 generalize dN h l n a 0=x0 at*
 generalize dN h l n a 1=x1 at*
 generalize dN h l n a 2=x2 at*
 generalize dN h l n a 3=x3 at*
 generalize dN h l n a 4=x4 at*
 generalize dN h l n a 5=x5 at*
 generalize dP h l n a=pl at*
 generalize dcode h l n a=cd at*
 go_enter Tryz.func133,Tryz.ntmps133
 go_upto_region 2 with(first
  |(go_at_call 32;(refine HD.out.mono ?_);rintro e w2 ⟨hb2,A2,m2,c2,rfl,hy2,hl2,hc2⟩;have B2:=Lib.hid hb2;have Y2:=Lib.hid hy2;have L2:=Lib.hid hl2;clear hb2 hy2 hl2 hc2)
  |fail)
 have B3:=Lib.hid ((B1.out.trans (B2.out.mono B1.out.size)).alloc (Nat.le_trans B1.out.size B2.out.size) (.cells #[.int .u64 x0,.int .u64 x1,.int .u64 x2,.int .u64 x3,.int .u64 x4,.int .u64 x5,.slice A2 m2 c2] 67))
 have R3:=Lib.hid (Blk.new w2 [.int .u64 x0,.int .u64 x1,.int .u64 x2,.int .u64 x3,.int .u64 x4,.int .u64 x5,.slice A2 m2 c2] 67)
 have R2:=Lib.hid ((R1.out.below B2.out hz1).alloc (.cells #[.int .u64 x0,.int .u64 x1,.int .u64 x2,.int .u64 x3,.int .u64 x4,.int .u64 x5,.slice A2 m2 c2] 67))
 have Y3:=Lib.hid (Y2.out.below ((Below.refl w2.heap.size w2).alloc (Nat.le_refl _) (.cells #[.int .u64 x0,.int .u64 x1,.int .u64 x2,.int .u64 x3,.int .u64 x4,.int .u64 x5,.slice A2 m2 c2] 67)) (Nat.le_refl _))
 clear HD B1 B2 R1 Y2
 generalize (w2.alloc (.cells #[.int .u64 x0,.int .u64 x1,.int .u64 x2,.int .u64 x3,.int .u64 x4,.int .u64 x5,.slice A2 m2 c2] 67))=w3 at*
 generalize w2.heap.size=g2 at*
 have k0:=R3.out.cell (i:=0) rfl;have k1:=R3.out.cell (i:=1) rfl;have k6:=R3.out.cell (i:=6) rfl
 go_wp2_with(first
  |((with_reducible apply at_store (.tmp 4) (.tmp 21));refine wpList_store_row rfl 156 (.tmp 4) (.tmp 21) rfl w.heap.size #[Value.int .u64 (a:Int),.int .u64 (x0),.int .u64 (x1),.int .u64 (0),.slice A2 m2 c2] rfl rfl 156 zK.toArray R2.out (linkInfo _ _ _ _ _) rfl (by simp[Value.oneCell']) ?_)
  |fail)
 refine bodyPost_ret (v:= .tuple #[.agg #[Value.int .u64 (a:Int),.int .u64 (x0),.int .u64 (x1),.int .u64 (0),.slice A2 m2 c2],.int .i64 cd]) (by exact res_row Tryz.results133 _ _ w.heap.size 156 _ (0,0) _ _ rfl rfl (setRow_heap _ _ _ _ _ (0,0) R2.out) Tryz.underlying156 rfl (linkInfo _ _ _ _ _)) rfl ?_
 exact⟨below_setRow B3.out (Nat.le_refl _) _,A2,m2,c2,rfl,bytes_set R2.out zK_u8 Y3.out _,L2.out⟩
theorem fbh_any {gv:Nat}{h:HD}{A:Option Addr}{n c:Nat}{l:List Int}(a:Nat)(w:World)(v:ViewAt w gv h A n c l)(hcm:c≤maxLen):
 Calls Tryz.prog 132 #[.pointer (some ⟨gv,0,none⟩),.int .u64 (a:Int)] w (ReadK (fcode h l n) (fun a=>fN h l n a 0) (fun a=>fN h l n a 1) (fun a=>fN h l n a 2) (fP h l n) a w):=by
 have B1:=Lib.hid ((Below.refl w.heap.size w).alloc (Nat.le_refl _) (.cells #[.int .u64 0,.int .u64 0,.int .u64 0,.int .u64 0,.slice none 0 0] 156))
 have HD:=Lib.hid (fieldTell a _ (v.below B1.out) hcm)
 unfold TellF at HD
 have R1:=Lib.hid (Blk.new w zK 156)
 have hz1:w.heap.size<(w.alloc (.cells #[.int .u64 0,.int .u64 0,.int .u64 0,.int .u64 0,.slice none 0 0] 156)).heap.size:=by simp
 clear v
 unfold ReadK
 dsimp only
 generalize fN h l n a 0=x0 at*
 generalize fN h l n a 1=x1 at*
 generalize fN h l n a 2=x2 at*
 generalize fP h l n a=pl at*
 generalize fcode h l n a=cd at*
 go_enter Tryz.func132,Tryz.ntmps132
 go_upto_region 2 with(first
  |(go_at_call 33;(refine HD.out.mono ?_);rintro e w2 ⟨hb2,A2,m2,c2,rfl,hy2,hl2,hc2⟩;have B2:=Lib.hid hb2;have Y2:=Lib.hid hy2;have L2:=Lib.hid hl2;clear hb2 hy2 hl2 hc2)
  |fail)
 have B3:=Lib.hid ((B1.out.trans (B2.out.mono B1.out.size)).alloc (Nat.le_trans B1.out.size B2.out.size) (.cells #[.int .u64 x0,.int .u64 x1,.int .u64 x2,.slice A2 m2 c2] 71))
 have R3:=Lib.hid (Blk.new w2 [.int .u64 x0,.int .u64 x1,.int .u64 x2,.slice A2 m2 c2] 71)
 have R2:=Lib.hid ((R1.out.below B2.out hz1).alloc (.cells #[.int .u64 x0,.int .u64 x1,.int .u64 x2,.slice A2 m2 c2] 71))
 have Y3:=Lib.hid (Y2.out.below ((Below.refl w2.heap.size w2).alloc (Nat.le_refl _) (.cells #[.int .u64 x0,.int .u64 x1,.int .u64 x2,.slice A2 m2 c2] 71)) (Nat.le_refl _))
 clear HD B1 B2 R1 Y2
 generalize (w2.alloc (.cells #[.int .u64 x0,.int .u64 x1,.int .u64 x2,.slice A2 m2 c2] 71))=w3 at*
 generalize w2.heap.size=g2 at*
 have k0:=R3.out.cell (i:=0) rfl;have k1:=R3.out.cell (i:=1) rfl;have k2:=R3.out.cell (i:=2) rfl;have k3:=R3.out.cell (i:=3) rfl
 go_wp2_with(first
  |((with_reducible apply at_store (.tmp 4) (.tmp 23));refine wpList_store_row rfl 156 (.tmp 4) (.tmp 23) rfl w.heap.size #[Value.int .u64 (a:Int),.int .u64 (x0),.int .u64 (x1),.int .u64 (x2),.slice A2 m2 c2] rfl rfl 156 zK.toArray R2.out (linkInfo _ _ _ _ _) rfl (by simp[Value.oneCell']) ?_)
  |fail)
 refine bodyPost_ret (v:= .tuple #[.agg #[Value.int .u64 (a:Int),.int .u64 (x0),.int .u64 (x1),.int .u64 (x2),.slice A2 m2 c2],.int .i64 cd]) (by exact res_row Tryz.results132 _ _ w.heap.size 156 _ (0,0) _ _ rfl rfl (setRow_heap _ _ _ _ _ (0,0) R2.out) Tryz.underlying156 rfl (linkInfo _ _ _ _ _)) rfl ?_
 exact⟨below_setRow B3.out (Nat.le_refl _) _,A2,m2,c2,rfl,bytes_set R2.out zK_u8 Y3.out _,L2.out⟩
theorem dbf_any {gv:Nat}{h:HD}{A:Option Addr}{n c:Nat}{l:List Int}(a:Nat)(w:World)(v:ViewAt w gv h A n c l)(hcm:c≤maxLen):
 Calls Tryz.prog 81 #[.pointer (some ⟨gv,0,none⟩),.int .u64 (a:Int)] w (ReadK (dcode h l n) (fun _=>0) (fun a=>dN h l n a 2) (fun _=>0) (fun _=>[]) a w):=by
 have B1:=Lib.hid ((Below.refl w.heap.size w).alloc (Nat.le_refl _) (.cells #[.int .u64 0,.int .u64 0,.int .u64 0,.int .u64 0,.slice none 0 0] 156))
 have HD:=Lib.hid (dataTell a _ (v.below B1.out) hcm)
 unfold TellD at HD
 have R1:=Lib.hid (Blk.new w zK 156)
 have hz1:w.heap.size<(w.alloc (.cells #[.int .u64 0,.int .u64 0,.int .u64 0,.int .u64 0,.slice none 0 0] 156)).heap.size:=by simp
 clear v
 unfold ReadK
 dsimp only
 generalize dN h l n a 0=x0 at*
 generalize dN h l n a 1=x1 at*
 generalize dN h l n a 2=x2 at*
 generalize dN h l n a 3=x3 at*
 generalize dN h l n a 4=x4 at*
 generalize dN h l n a 5=x5 at*
 generalize dP h l n a=pl at*
 generalize dcode h l n a=cd at*
 go_enter Tryz.func81,Tryz.ntmps81
 go_upto_region 2 with(first
  |(go_at_call 32;(refine HD.out.mono ?_);rintro e w2 ⟨hb2,A2,m2,c2,rfl,hy2,hl2,hc2⟩;have B2:=Lib.hid hb2;have Y2:=Lib.hid hy2;have L2:=Lib.hid hl2;clear hb2 hy2 hl2 hc2)
  |fail)
 have B3:=Lib.hid ((B1.out.trans (B2.out.mono B1.out.size)).alloc (Nat.le_trans B1.out.size B2.out.size) (.cells #[.int .u64 x0,.int .u64 x1,.int .u64 x2,.int .u64 x3,.int .u64 x4,.int .u64 x5,.slice A2 m2 c2] 67))
 have R3:=Lib.hid (Blk.new w2 [.int .u64 x0,.int .u64 x1,.int .u64 x2,.int .u64 x3,.int .u64 x4,.int .u64 x5,.slice A2 m2 c2] 67)
 have R2:=Lib.hid ((R1.out.below B2.out hz1).alloc (.cells #[.int .u64 x0,.int .u64 x1,.int .u64 x2,.int .u64 x3,.int .u64 x4,.int .u64 x5,.slice A2 m2 c2] 67))
 have Y3:=Lib.hid (Y2.out.below ((Below.refl w2.heap.size w2).alloc (Nat.le_refl _) (.cells #[.int .u64 x0,.int .u64 x1,.int .u64 x2,.int .u64 x3,.int .u64 x4,.int .u64 x5,.slice A2 m2 c2] 67)) (Nat.le_refl _))
 clear HD B1 B2 R1 Y2
 generalize (w2.alloc (.cells #[.int .u64 x0,.int .u64 x1,.int .u64 x2,.int .u64 x3,.int .u64 x4,.int .u64 x5,.slice A2 m2 c2] 67))=w3 at*
 generalize w2.heap.size=g2 at*
 have k2:=R3.out.cell (i:=2) rfl
 go_wp2_with(first
  |((with_reducible apply at_store (.tmp 4) (.tmp 17));refine wpList_store_row rfl 156 (.tmp 4) (.tmp 17) rfl w.heap.size #[Value.int .u64 (a:Int),.int .u64 (0),.int .u64 (x2),.int .u64 (0),.slice none 0 0] rfl rfl 156 zK.toArray R2.out (linkInfo _ _ _ _ _) rfl (by simp[Value.oneCell']) ?_)
  |fail)
 refine bodyPost_ret (v:= .tuple #[.agg #[Value.int .u64 (a:Int),.int .u64 (0),.int .u64 (x2),.int .u64 (0),.slice none 0 0],.int .i64 cd]) (by exact res_row Tryz.results81 _ _ w.heap.size 156 _ (0,0) _ _ rfl rfl (setRow_heap _ _ _ _ _ (0,0) R2.out) Tryz.underlying156 rfl (linkInfo _ _ _ _ _)) rfl ?_
 exact⟨below_setRow B3.out (Nat.le_refl _) _,none,0,0,rfl,Bytes.nil _ _,rfl⟩
end Xc
namespace Vh
open Bytes8 Blk8 Own8 OwnE Rows2 Ob Ga Gb Ok7 Rc Vf
open Yp Ye Yg Yh
open Rl (res_slot_cell)
open Re (load_code)
attribute [local irreducible] HD.cells wpList Code.wp
theorem vtab_cl {gv:Nat}{h:HD}{A:Option Addr}{n c:Nat}{l:List Int}(kd:Int)(g2 g3:Nat)(w:World)(v:ViewAt w gv h A n c l)(hcm:c≤maxLen)(H2:Blk w g2 [.pointer (some ⟨gv,0,none⟩)] 27)(H3:Blk w g3 [.int .i64 kd] 3):
 Calls Tryz.prog 128 #[.pointer (some ⟨g2,0,none⟩),.pointer (some ⟨g3,0,none⟩)] w (ReadT h l kd w):=by
 have c2:=H2.cell (i:=0) rfl
 have c3:=H3.cell (i:=0) rfl
 have HV:=Lib.hid (vtable_any kd w v hcm)
 unfold ReadT at HV⊢
 generalize tCode h l kd=cd at*
 generalize tNum h l kd=nn at*
 generalize taA (bodyL l (tOff h kd))=fa at*
 generalize taB (bodyL l (tOff h kd))=fb at*
 clear v H2 H3
 by_cases hz:cd=0
 ·subst hz
  go_enter Tryz.func128,Tryz.ntmps128
  go_wp2_with(first
   |(go_at_call 129;(refine HV.out.mono ?_);rintro e w3 ⟨hb3,⟨hne,_⟩|⟨_,A2,c2',rfl,hi2⟩⟩;(exact absurd rfl hne);have B3:=Lib.hid hb3;have I3:=Lib.hid hi2;clear hb3 hi2)
   |fail)
  go_ret
  exact⟨B3.out,.inr ⟨trivial,A2,c2',rfl,I3.out⟩⟩
 ·go_enter Tryz.func128,Tryz.ntmps128
  go_wp2_with(first
   |(go_at_call 129;(refine HV.out.mono ?_);rintro e w3 ⟨hb3,⟨_,rfl⟩|⟨he,_⟩⟩;rotate_left;(exact absurd he hz);have B3:=Lib.hid hb3;clear hb3)
   |fail)
  exact⟨rfl,B3.out,.inl ⟨hz,rfl⟩⟩
theorem tNum_none {h:HD}{l:List Int}{kd:Int}(hz:tCode h l kd≠0):tNum h l kd=0:=if_neg hz
theorem asked_any {gv:Nat}{h:HD}{A:Option Addr}{n c:Nat}{l:List Int}(kd:Int)(g2 g3:Nat)(w:World)(v:ViewAt w gv h A n c l)(hcm:c≤maxLen)(H2:Blk w g2 [.pointer (some ⟨gv,0,none⟩)] 27)(H3:Blk w g3 [.int .i64 kd] 3):
 Calls Tryz.prog 127 #[.func (.func 128) #[] #[.pointer (some ⟨g2,0,none⟩),.pointer (some ⟨g3,0,none⟩)]] w (TellT h l kd w):=by
 have b2:=Lib.hid ((Below.refl w.heap.size w).alloc (Nat.le_refl _) (.cells #[.int .i64 0] 3))
 have v2:=v.below b2.out
 have HV:=Lib.hid (vtab_cl kd g2 g3 _ v2 hcm (H2.below b2.out H2.lt) (H3.below b2.out H3.lt))
 have S2:(w.alloc (.cells #[.int .i64 0] 3)).heap.size=w.heap.size+1:=by simp only[World.alloc,Array.size_push]
 have R2:=Lib.hid (Blk.new w [.int .i64 0] 3)
 have hfn: ∀(fn:Fn) (first cap:Array Value) (w:World),(Instr.makeFunc fn first cap).run Tryz.prog w= .ok (.func fn first cap) w:=fun _ _ _ _=>rfl
 have hnn:=tNum_none (h:=h) (l:=l) (kd:=kd)
 unfold ReadT at HV
 unfold TellT
 generalize tCode h l kd=cd at*
 generalize tNum h l kd=nn at*
 generalize taA (bodyL l (tOff h kd))=fa at*
 generalize taB (bodyL l (tOff h kd))=fb at*
 have HNN:=Lib.hid hnn
 clear v v2 H2 H3 hnn
 by_cases hz:cd=0
 ·subst hz
  go_enter_defers Tryz.func127,Tryz.ntmps127
  go_wp2_with(first
   |(go_at_call 128;(refine HV.out.mono ?_);rintro e w3 ⟨hb3,⟨hne,_⟩|⟨_,A2,c2',rfl,hi2⟩⟩;(exact absurd rfl hne);have B3:=Lib.hid (b2.out.trans (hb3.mono b2.out.size));have I3:=Lib.hid hi2;have R3:=Lib.hid (R2.out.below hb3 (by rw[S2];omega));have c4:=R3.out.cell (i:=0) rfl;have z4:=R3.out.frozen 0;clear hb3 hi2)
   |fail)
  refine leaves_cons (f:=181) (args:= #[.pointer (some ⟨w.heap.size,0,none⟩)]) (by simp) (by simp[go_sem]) ?_
  refine(caught_idle _ _).mono ?_
  rintro e u' w'' ⟨rfl,rfl,rfl⟩
  have b4:=B3.out.setCell (p:=⟨w.heap.size,0,none⟩) (Nat.le_refl _) (.int .i64 0)
  exact⟨.tuple #[.slice A2 nn c2',.int .i64 0],(by exact res_slot_cell Tryz.results127 _ _ w.heap.size _ _ rfl rfl (load_code _ _ _ (R3.out.set_ 0 _))),b4,A2,c2',rfl,in2_code I3.out R3.out _⟩
 ·have hn0:=HNN.out hz
  subst hn0
  go_enter_defers Tryz.func127,Tryz.ntmps127
  go_wp2_with(first
   |(go_at_call 128;(refine HV.out.mono ?_);rintro e w3 ⟨hb3,⟨_,rfl⟩|⟨he,_⟩⟩;rotate_left;(exact absurd he hz);have B3:=Lib.hid (b2.out.trans (hb3.mono b2.out.size));have R3:=Lib.hid (R2.out.below hb3 (by rw[S2];omega));clear hb3)
   |fail)
  refine leaves_cons (f:=181) (args:= #[.pointer (some ⟨w.heap.size,0,none⟩)]) (by simp) (by simp[go_sem]) ?_
  refine(caught_halt _ cd 0 [] _ R3.out).mono ?_
  rintro e u' w'' ⟨rfl,rfl,rfl⟩
  have b4:=B3.out.setCell (p:=⟨w.heap.size,0,none⟩) (Nat.le_refl _) (.int .i64 cd)
  exact⟨.tuple #[.slice none 0 0,.int .i64 cd],(by exact res_slot_cell Tryz.results127 _ _ w.heap.size _ _ rfl rfl (load_code _ _ _ (R3.out.set_ 0 _))),b4,none,0,rfl,fun i hi=>absurd hi (Nat.not_lt_zero i)⟩
theorem tabTell {gv:Nat}{h:HD}{A:Option Addr}{n c:Nat}{l:List Int}(kd:Int)(w:World)(v:ViewAt w gv h A n c l)(hcm:c≤maxLen):
 Calls Tryz.prog 71 #[.pointer (some ⟨gv,0,none⟩),.int .i64 kd] w (TellT h l kd w):=by
 have b1:=Lib.hid ((Below.refl w.heap.size w).alloc (Nat.le_refl _) (.cells #[.pointer (some ⟨gv,0,none⟩)] 27))
 have b2:=Lib.hid (b1.out.alloc b1.out.size (.cells #[.int .i64 kd] 3))
 have v2:=v.below b2.out
 have S1:(w.alloc (.cells #[.pointer (some ⟨gv,0,none⟩)] 27)).heap.size=w.heap.size+1:=by simp only[World.alloc,Array.size_push]
 have K1:=(Blk.new w [.pointer (some ⟨gv,0,none⟩)] 27).alloc (.cells #[.int .i64 kd] 3)
 have K2:=Blk.new_at (w.alloc (.cells #[.pointer (some ⟨gv,0,none⟩)] 27)) [.int .i64 kd] 3 _ S1
 have HV:=Lib.hid (asked_any kd w.heap.size (w.heap.size+1) _ v2 hcm K1 K2)
 have hfn: ∀(fn:Fn) (first cap:Array Value) (w:World),(Instr.makeFunc fn first cap).run Tryz.prog w= .ok (.func fn first cap) w:=fun _ _ _ _=>rfl
 unfold TellT at HV⊢
 generalize tCode h l kd=cd at*
 generalize tNum h l kd=nn at*
 generalize taA (bodyL l (tOff h kd))=fa at*
 generalize taB (bodyL l (tOff h kd))=fb at*
 clear v v2 K1 K2
 go_enter Tryz.func71,Tryz.ntmps71
 go_wp2_with(first
  |(go_at_call 127;(refine HV.out.mono ?_);rintro e w4 ⟨hb4,A2,c2',rfl,hi2⟩;have B4:=Lib.hid (b2.out.trans (hb4.mono b2.out.size));have I4:=Lib.hid hi2;clear hb4 hi2)
  |fail)
 go_ret2
 exact⟨B4.out,A2,c2',rfl,I4.out⟩
end Vh
namespace Wg
open Bytes8 Blk8 Ob Ga Gb Np Sg Rj Va Vf Wa
open Yp Ye Yh
open Rd (dcode)
open Rf (fcode)
def seek (E:Nat)(oC:Nat→Int)(oX:Nat→Nat)(oH:Nat→Int)(oP:Nat→List Int)(hv:Int)(pl:List Int):Nat→Nat→Nat→Int×Int
 |0,_,_=>(0,16)
 |f+1,a,last=>if nothB E a=true then(0,16)else if a≤last then(0,12)else if oC a≠0 then(0,oC a)else if oH a=hv∧oP a=pl then((a:Int),0)else seek E oC oX oH oP hv pl f (oX a) a
theorem fN_nn {h:HD}{l:List Int}{E a i:Nat}(hA:AllB l):fN h l E a i=((fN h l E a i).toNat:Int)∧(fN h l E a i).toNat≤18446744073709551615:=by
 have h2:0≤fN h l E a i∧fN h l E a i≤18446744073709551615:=by
  unfold fN
  split
  ·unfold bnum
   split
   ·exact u8_bd (fun x hx=>hA x (List.mem_of_mem_drop (List.mem_of_mem_take hx))) _
   ·omega
  ·omega
 omega
theorem dN_nn2 {h:HD}{l:List Int}{E a i:Nat}(hA:AllB l):dN h l E a i=((dN h l E a i).toNat:Int)∧(dN h l E a i).toNat≤18446744073709551615:=by
 have h2:0≤dN h l E a i∧dN h l E a i≤18446744073709551615:=by
  unfold dN
  split
  ·unfold bnum
   split
   ·exact u8_bd (fun x hx=>hA x (List.mem_of_mem_drop (List.mem_of_mem_take hx))) _
   ·omega
  ·omega
 omega
theorem taA_nn {l:List Int}{a:Nat}(hA:AllB l)(i:Nat):0≤taA (bodyL l a) i∧taA (bodyL l a) i≤18446744073709551615:=u8_bd (fun x hx=>hA x (List.mem_of_mem_drop (List.mem_of_mem_take hx))) _
attribute [local irreducible] HD.cells wpList Code.wp
def find4 (h:HD)(l:List Int)(n:Nat)(pl:List Int):Int×Int:=if tCode h l 4≠0 then(0,tCode h l 4)else seek n (dcode h l n) (fun a=>(dN h l n a 1).toNat) (fun a=>dN h l n a 0) (dP h l n) (ofS (keyB h.ic) (idL h.I) pl) pl (n+1) (taA (bodyL l (tOff h 4)) ((ofS (keyB h.ic) (idL h.I) pl).toNat%tNum h l 4)).toNat 0
def find5 (h:HD)(l:List Int)(n:Nat)(pl:List Int):Int×Int:=if tCode h l 5≠0 then(0,tCode h l 5)else seek n (fcode h l n) (fun a=>(fN h l n a 1).toNat) (fun a=>fN h l n a 0) (fP h l n) (ofS (keyB h.ic) (idL h.I) pl) pl (n+1) (taA (bodyL l (tOff h 5)) ((ofS (keyB h.ic) (idL h.I) pl).toNat%tNum h l 5)).toNat 0
end Wg
namespace Xb
open Wa Wg
def badW (ri:Bool)(a:Nat):Option Nat→Bool
 |none=>false
 |some la=>if ri then decide (a≤la)else decide (la≤a)
def yk (E:Nat)(ri:Bool)(oC:Nat→Int)(oX:Nat→Nat):Nat→Nat→Option Nat→List (Nat×Int)
 |0,_,_=>[]
 |f+1,a,la=>if nothB E a=true then []else if badW ri a la=true then [(0,12)]else if oC a≠0 then [(a,oC a)]else(a,0)::yk E ri oC oX f (oX a) (some a)
def enough (E:Nat)(ri:Bool)(f:Nat):Option Nat→Prop
 |none=>E+2≤f
 |some la=>la≤E∧(if ri then E+1≤f+la else la+1≤f)
theorem enough_next {E:Nat}{ri:Bool}{f a:Nat}{la:Option Nat}(h:enough E ri (f+1) la)(hb:badW ri a la=false)(ha:a<E):enough E ri f (some a):=by
 cases la with
 |none=>
  have h':E+2≤f+1:=h
  unfold enough
  cases ri
  ·simp;omega
  ·simp;omega
 |some x=>
  unfold enough at h⊢
  unfold badW at hb
  cases ri
  ·simp at h hb⊢;omega
  ·simp at h hb⊢;omega
theorem enough_0 {E:Nat}{ri:Bool}{la:Option Nat}(h:enough E ri 0 la):False:=by
 cases la with
 |none=>have h':E+2≤0:=h;omega
 |some x=>
  unfold enough at h
  cases ri
  ·simp at h
  ·simp at h;omega
theorem yk_len (E:Nat)(ri:Bool)(oC:Nat→Int)(oX:Nat→Nat): ∀(f a:Nat) (la:Option Nat),(yk E ri oC oX f a la).length≤f
 |0,_,_=>Nat.le_refl _
 |f+1,a,la=>by
  have:=yk_len E ri oC oX f (oX a) (some a)
  unfold yk
  split
  ·simp
  ·split
   ·simp
   ·split
    ·simp
    ·simp only[List.length_cons];omega
def plR:List (Nat×Int)→List Int→List Int×Int
 | [],out=>(out,0)
 |x::xs,out=>if x.2≠0 then([],x.2)else plR xs (out++ [(x.1:Int)])
def plA:List (Nat×Int)→List Int→Option (List Int)
 | [],out=>some out
 |x::xs,out=>if x.2≠0 then none else plA xs (out++ [(x.1:Int)])
theorem plA_snoc (x:Nat×Int)(hx:x.2=0): ∀(pre:List (Nat×Int)) (out o:List Int),plA pre out=some o→plA (pre++ [x]) out=some (o++ [(x.1:Int)])
 | [],out,o,h=>by
   injection h with h
   subst h
   show(if x.2≠0 then none else some (out++ [(x.1:Int)]))=_
   rw[if_neg (by simpa using hx)]
 |y::pre,out,o,h=>by
  unfold plA at h
  show(if y.2≠0 then none else plA (pre++ [x]) (out++ [(y.1:Int)]))=_
  by_cases h0:y.2≠0
  ·rw[if_pos h0]at h;cases h
  ·rw[if_neg h0]at h⊢
   exact plA_snoc x hx pre _ o h
theorem plA_len: ∀(l:List (Nat×Int)) (out o:List Int),plA l out=some o→o.length=out.length+l.length
 | [],out,o,h=>by injection h with h;subst h;rfl
 |x::xs,out,o,h=>by
  unfold plA at h
  by_cases h0:x.2≠0
  ·rw[if_pos h0]at h;cases h
  ·rw[if_neg h0]at h
   have:=plA_len xs _ o h
   rw[List.length_append,List.length_singleton]at this
   rw[List.length_cons];omega
theorem plR_after: ∀(pre rest:List (Nat×Int)) (out o:List Int),plA pre out=some o→plR (pre++rest) out=plR rest o
 | [],rest,out,o,h=>by injection h with h;subst h;rfl
 |y::pre,rest,out,o,h=>by
  unfold plA at h
  show(if y.2≠0 then([],y.2)else plR (pre++rest) (out++ [(y.1:Int)]))=_
  by_cases h0:y.2≠0
  ·rw[if_pos h0]at h;cases h
  ·rw[if_neg h0]at h⊢
   exact plR_after pre rest _ o h
theorem nothB_is {E a:Nat}(h: ¬nothB E (a:Int)=true):0<a∧a<E:=by simp[nothB]at h;omega
theorem yk_first (E:Nat)(oC:Nat→Int)(oX:Nat→Nat)(f a:Nat):yk E true oC oX f a none=yk E true oC oX f a (some 0):=by
 cases f with
 |zero=>rfl
 |succ f=>
  unfold yk
  by_cases h1:nothB E (a:Int)=true
  ·rw[if_pos h1,if_pos h1]
  rw[if_neg h1,if_neg h1]
  have:=nothB_is h1
  rw[show badW true a none=false from rfl,show badW true a (some 0)=false by simp[badW];omega]
theorem yk_more (E:Nat)(ri:Bool)(oC:Nat→Int)(oX:Nat→Nat): ∀(f g a:Nat) (la:Option Nat),enough E ri f la→f≤g→yk E ri oC oX g a la=yk E ri oC oX f a la
 |0,g,a,la,h,hg=>absurd h (fun h=>enough_0 h)
 |f+1,g,a,la,h,hg=>by
  obtain⟨g,rfl⟩: ∃q,g=q+1:=⟨g-1,by omega⟩
  unfold yk
  by_cases h1:nothB E (a:Int)=true
  ·rw[if_pos h1,if_pos h1]
  rw[if_neg h1,if_neg h1]
  cases hb:badW ri a la
  ·rw[if_neg (show ¬(false=true)by simp),if_neg (show ¬(false=true)by simp)]
   by_cases h3:oC a≠0
   ·rw[if_pos h3,if_pos h3]
   rw[if_neg h3,if_neg h3,yk_more E ri oC oX f g (oX a) (some a) (enough_next h hb (nothB_is h1).2) (by omega)]
  ·rw[if_pos rfl,if_pos rfl]
theorem yk_start (E:Nat)(oC:Nat→Int)(oX:Nat→Nat)(a:Nat):yk E true oC oX (E+2) a none=yk E true oC oX (E+1) a (some 0):=by
 rw[yk_first]
 exact yk_more E true oC oX (E+1) (E+2) a (some 0) ⟨Nat.zero_le _,by simp⟩ (by omega)
def fdR (oH:Nat→Int)(oP:Nat→List Int)(hv:Int)(pl:List Int):List (Nat×Int)→Int×Int
 | []=>(0,16)
 |x::xs=>if x.2≠0 then(0,x.2)else if oH x.1=hv∧oP x.1=pl then((x.1:Int),0)else fdR oH oP hv pl xs
def fdN (oH:Nat→Int)(oP:Nat→List Int)(hv:Int)(pl:List Int)(l:List (Nat×Int)):Prop:= ∀x∈l,x.2=0∧ ¬(oH x.1=hv∧oP x.1=pl)
theorem fdR_after {oH:Nat→Int}{oP:Nat→List Int}{hv:Int}{pl:List Int}(rest:List (Nat×Int)): ∀pre:List (Nat×Int),fdN oH oP hv pl pre→fdR oH oP hv pl (pre++rest)=fdR oH oP hv pl rest
 | [],_=>rfl
 |y::pre,h=>by
  obtain⟨h1,h2⟩:=h y (List.mem_cons_self ..)
  show(if y.2≠0 then _ else if _ then _ else fdR oH oP hv pl (pre++rest))=_
  rw[if_neg (by simpa using h1),if_neg h2]
  exact fdR_after rest pre fun x hx=>h x (List.mem_cons_of_mem _ hx)
theorem fdR_seek (E:Nat)(oC:Nat→Int)(oX:Nat→Nat)(oH:Nat→Int)(oP:Nat→List Int)(hv:Int)(pl:List Int): ∀(f a last:Nat),fdR oH oP hv pl (yk E true oC oX f a (some last))=seek E oC oX oH oP hv pl f a last
 |0,a,last=>rfl
 |f+1,a,last=>by
  unfold yk seek
  by_cases h1:nothB E (a:Int)=true
  ·rw[if_pos h1,if_pos h1];rfl
  rw[if_neg h1,if_neg h1]
  by_cases h2:a≤last
  ·rw[if_pos (by simpa [badW]using h2),if_pos h2];rfl
  rw[if_neg (by simpa [badW]using h2),if_neg h2]
  by_cases h3:oC a≠0
  ·rw[if_pos h3,if_pos h3]
   show(if oC a≠0 then _ else _)=_
   rw[if_pos h3]
  rw[if_neg h3,if_neg h3]
  show(if(0:Int)≠0 then _ else if oH a=hv∧oP a=pl then _ else fdR oH oP hv pl (yk E true oC oX f (oX a) (some a)))=_
  rw[if_neg (by simp),fdR_seek E oC oX oH oP hv pl f (oX a) a]
end Xb
namespace Xa
open Go.ChangeShapes Go.WideShapes Go.ChangeAt Go.RowKit Go.Shelf
variable {F : Fence} {n : Nat} {P : Program}
def SeqOwn {α:Type}(F:Fence)(n:Nat)(P:Program)(g:Nat)(lb:Array Value)(encs:α→Array Value)(Px:α→World→Prop)(Kp Ab:World→World→Prop)(S Sp:List α→Prop)(w:World):Prop:=
 ∀(l:Nat) (J Jx:List α→World→Prop) (W:World),Below w.heap.size w W→(∀s A B,J s A→Ab A B→J s B)→(∀s A B,Jx s A→Ab A B→Jx s B)→
  (∀pre x V,Px x V→Sp (pre++ [x])→J pre V→YieldAt F (n-1) P l (encs x) V fun e V'=>(e= .returned (.bool true)∧J (pre++ [x]) V'∧Kp V V')∨(e= .returned (.bool false)∧Jx (pre++ [x]) V'))→
  J [] W→CallsIn F n P g (#[.func (.yield l) #[] #[]]++lb) W fun e W'=>(∃v,e= .returned v)∧((∃xs,S xs∧J xs W')∨(∃pre,Sp pre∧Jx pre W'))
theorem range_own {α:Type}{g:Operand}{ps:Array Tmp}{assign body:Code}{Q:Exit→Act→World→Prop}{a:Act}{w:World}
 (hro:F.round=none)(h1:1≤n){gf:Nat}{lb:Array Value}(hg:a.eval g= .func (.func gf) #[] lb)(hFg:F.fn gf)(eg: ∀args w,(callFunc gf args).run P w= .ok (.enter gf args) w)
 {encs:α→Array Value}{Px:α→World→Prop}{Kp Ab:World→World→Prop}{S Sp:List α→Prop}(hseq:SeqOwn F (n-1) P gf lb encs Px Kp Ab S Sp w)
 (hAb: ∀A B,Ab A B→ ∀k o,w.heap.size≤k→A.heap[k]? =some o→o.isCells=false→B.heap[k]? =some o)
 (hKt: ∀ {A B C:World},Kp A B→Kp B C→Kp A C)(hKb: ∀(W:World) (l:Nat) (o o':Obj),w.heap.size≤l→W.heap[l]? =some o→o.isCells=false→o.isWalk=false→Kp W (W.putObj l o'))(hps: ∀x,(encs x).size=ps.size)(hPb: ∀x (W:World) (l:Nat) (o o':Obj),w.heap.size≤l→W.heap[l]? =some o→o.isCells=false→Px x W→Px x (W.putObj l o'))
 (I:List α→World→Prop)(Ix:Code→List α→World→Prop)(hI:OwnFrom w.heap.size I)(hIx: ∀c,OwnFrom w.heap.size (Ix c))(hIa: ∀s A B,I s A→Ab A B→I s B)(hIxa: ∀c s A B,Ix c s A→Ab A B→Ix c s B)(h0:I [] w)(a₁:α→World→Act)(as_:α→World→World)(hAs: ∀x W k o,w.heap.size≤k→W.heap[k]? =some o→o.isCells=false→(as_ x W).heap[k]? =some o)(hIs: ∀s x W,w.heap.size+2≤W.heap.size→I s W→I s (as_ x W))(hPs: ∀x W,Px x W→Px x (as_ x W))(hKs: ∀x W,w.heap.size+2≤W.heap.size→Kp W (as_ x W))
 (hassign: ∀(l:Nat) (x:α) (W:World) (K:Act→World→Prop),K (a₁ x W) (as_ x W)→
   assign.wpIn (F.inRound l) (n-1-1) P (Exit.then K (fun _ _ _=>False)) {tmps:=(ps.zip (encs x)).foldl (fun t (p,v)=>t.setIfInBounds p v) a.tmps,defers:=[]} W)
 (hbody: ∀(l:Nat) (pre:List α) (x:α) (W V:World),w.heap.size+2≤W.heap.size→Px x V→Sp (pre++ [x])→I pre V→V.heap.size=(as_ x W).heap.size→(∀k,k≠w.heap.size+1→V.heap[k]? =(as_ x W).heap[k]?)→body.wpIn (F.inRound l) (n-1-1) P (We.Left w.heap.size Kp I Ix (pre++ [x]) V) (a₁ x W) V)
 (hdone: ∀(D:Nat) (xs:List α) (W:World),w.heap.size≤D→S xs→I xs W→W.heap[D]? =some (.deferred (some []))→Q .normal {a with defers:={target:= .collected D,args:= #[]}::a.defers} W)
 (hstop: ∀(D:Nat) (c:Code) (pre:List α) (W:World),w.heap.size≤D→Sp pre→Ix c pre W→W.heap[D]? =some (.deferred (some []))→c.wpIn F n P Q {a with defers:={target:= .collected D,args:= #[]}::a.defers} W):
 (Code.rangeFunc g ps assign body).wpIn F n P Q a w:=by
 refine wpIn_rangeFunc fun fn hfn=>?_
 rw[hro]
 generalize hd:w.heap.size=d at*
 let mk:LoopState→Option Code→Loop:=fun st pe=>{state:=st,pending:=pe,fn,tmps:=a.tmps,params:=ps,assign,body,defers:=d}
 let At:LoopState→Option Code→World→Prop:=fun st pe W=>W.heap[d+1]? =some (.loop (mk st pe))∧W.heap[d]? =some (.deferred (some []))
 have at_put: ∀ {st pe st' pe'} {W:World},At st pe W→At st' pe' (W.putObj (d+1) (.loop (mk st' pe'))):=fun h=>
  ⟨World.putObj_heap_same (Array.getElem?_eq_some_iff.1 h.1).1,(World.putObj_heap_other (by omega)).trans h.2⟩
 have at_kept: ∀ {st pe} {W W':World},(∀k o,d≤k→W.heap[k]? =some o→o.isCells=false→W'.heap[k]? =some o)→At st pe W→At st pe W':=fun hk h=>
  ⟨hk _ _ (by omega) h.1 rfl,hk _ _ (Nat.le_refl _) h.2 rfl⟩
 let W0:World:=(w.alloc (.deferred (some []))).alloc (.loop (mk .ready none))
 have A0:At .ready none W0:=by
  refine⟨?_,?_⟩
  ·have:=World.alloc_heap_new (w.alloc (.deferred (some []))) (.loop (mk .ready none))
   rwa[World.size_alloc,hd]at this
  ·have:=World.alloc_heap_new w (.deferred (some []))
   rw[hd]at this
   exact(Below.heap_alloc _ _ _ (by simp[hd])).trans this
 have B0:Below d w W0:=((Below.refl _ w).alloc (by omega) _).alloc (by simp;omega) _
 refine⟨d+1,[{target:= .collected d,args:= #[]}],W0,{target:= .fn (.func gf) lb,args:= #[.func (.yield (d+1)) #[] #[]]},W0,gf,#[.func (.yield (d+1)) #[] #[]]++lb,W0,?_,?_,?_,?_,fun _=>h1,?_⟩
 ·have:=run_enterLoop_outer (P:=P) (w:=w) fn a.tmps ps assign body
  rw[hd]at this
  exact this
 ·simp only[resolve,hg]
  simp[go_sem]
 ·intro f' hf'
  simp[Target.leads]at hf'
  subst hf'
  exact hFg
 ·simp[invoke,go_sem,eg]
 refine(hseq (d+1) (fun pre W=>I pre W∧At .ready none W) (fun pre W=> ∃c,Ix c pre W∧At .done (some c) W) W0 (by rw[hd];exact B0)
  (fun s A B h hab=>⟨hIa s A B h.1 hab,at_kept (hAb A B hab) h.2⟩) (fun s A B h hab=>h.imp fun c hc=>⟨hIxa c s A B hc.1 hab,at_kept (hAb A B hab) hc.2⟩)
  ?round ⟨hI.alloc _ (hI.alloc _ h0),A0⟩).mono ?after
 case round=>
  rintro pre x W hpx hsp ⟨hi,hat⟩
  have hy:=run_yield (P:=P) (args:=encs x) hat.1 (hps x)
  have hszW:d+2≤W.heap.size:=(Array.getElem?_eq_some_iff.1 hat.1).1
  have hat1:At .ready none (as_ x W):=at_kept (hAs x W) hat
  have hb:=run_beginRound (P:=P) hat1.1 rfl
  have hat2:At .busy none ((as_ x W).putObj (d+1) (.loop (mk .busy none))):=at_put hat1
  refine⟨fn,_,assign,body,hy,roundIn_of_wpIn hfn (hassign _ x W _ ⟨_,hb,wpIn_mono (hbody _ pre x W _ hszW (hPb x _ _ _ _ (by omega) hat1.1 rfl (hPs x W hpx)) hsp (hI.putObj _ (hIs pre x W hszW hi) (by omega) hat1.1 rfl) (by simp) (fun k hk=>World.putObj_heap_other hk)) ?_⟩)⟩
  have ends: ∀(jump:Option Code) (V:World),KeepsFrom d ((as_ x W).putObj (d+1) (.loop (mk .busy none))) V→(Instr.endRound (d+1) jump).run P V= .ok (.bool jump.isNone) (V.putObj (d+1) (.loop (mk (if jump.isNone then .ready else .done) jump)))∧At .busy none V:=fun jump V hk=>by
   have h2:=at_kept (fun k o h3 h4 h5=>hk.same k o h3 h4 h5) hat2
   exact⟨run_endRound jump h2.1,h2⟩
  have out: ∀(c:Code) (V:World),KeepsFrom d ((as_ x W).putObj (d+1) (.loop (mk .busy none))) V→Ix c (pre++ [x]) V→Ix c (pre++ [x]) (V.putObj (d+1) (.loop (mk .done (some c))))∧At .done (some c) (V.putObj (d+1) (.loop (mk .done (some c)))):=fun c V hk hx=>
   ⟨(hIx c).putObj _ hx (by omega) (ends none V hk).2.1 rfl,at_put (ends none V hk).2⟩
  rintro e a3 V hp
  cases e with
  |normal=>
   obtain⟨hk,hkp,hi3⟩:=hp
   obtain⟨hr,h2⟩:=ends none V hk
   exact⟨_,_,hr,.inl ⟨rfl,⟨hI.putObj _ hi3 (by omega) h2.1 rfl,at_put h2⟩,hKt (hKt (hKt (hKs x W hszW) (hKb _ _ _ _ (by omega) hat1.1 rfl rfl)) hkp) (hKb _ _ _ _ (by omega) h2.1 rfl rfl)⟩⟩
  |ret=>exact⟨_,_,(ends (some .ret) V hp.1).1,.inr ⟨rfl,.ret,out _ V hp.1 hp.2⟩⟩
  |exit id=>exact⟨_,_,(ends (some (.exit id)) V hp.1).1,.inr ⟨rfl,.exit id,out _ V hp.1 hp.2⟩⟩
  |goto t=>exact⟨_,_,(ends (some (.goto t)) V hp.1).1,.inr ⟨rfl,.goto t,out _ V hp.1 hp.2⟩⟩
  |panic ch=>exact hp.elim
  |outgrown=>exact hp.elim
 case after=>
  rintro e V ⟨⟨v,rfl⟩,⟨xs,hS,hi,h2⟩|⟨pre,hSp,c,hi,h2⟩⟩
  ·exact⟨none,_,run_endLoop h2.1 (by simp[mk]),hdone d xs _ (by omega) hS (hI.putObj _ hi (by omega) h2.1 rfl) ((World.putObj_heap_other (by omega)).trans h2.2)⟩
  ·exact⟨some c,_,run_endLoop h2.1 (by simp[mk]),hstop d c pre _ (by omega) hSp ((hIx c).putObj _ hi (by omega) h2.1 rfl) ((World.putObj_heap_other (by omega)).trans h2.2)⟩
end Xa
namespace Zx
open Bytes8 Ob Ga Gb Gj Ma Mb Mg Na Nc Nt Np Nq Ns Za Zb Zc Zd Ze Zg Yp Yh Va Vf Zh Zl
open Rd (dcode)
open Rf (fcode)
theorem read_tab {l hd:List Int}{os:List O}(hl:l=hd++enc os)(hh:hd.length=272)(hok: ∀o∈os,o.Ok){a n:Nat}{k:Int}{g:Nat×Nat}(hk:k=4∨k=5)(hn:0<n)(hs:shp os a=some ⟨k,2*n,[],g⟩):
 tabC l a k=0∧taNum l a k=n∧ ∀s,s<n→taA (bodyL l a) s=wd os a (2*s):=by
 obtain⟨o,ho,hsh⟩:=shp_some hs
 have ok:=hok o (obj_mem _ _ _ _ ho)
 injection hsh with h1 h2 h3 h4
 obtain⟨c1,c2,c3,c4⟩:=read_at hl hh ho ok
 have hbl:o.body.length=16*n:=by rw[O.body_len,h2,h3];simp;omega
 have hit:isTab k=true:=by rcases hk with rfl|rfl<;>rfl
 have htc:tabC l a k=0:=by
  unfold tabC ecode
  rw[if_pos hit,if_neg (by omega),c2,h1,if_neg (by simp),c4,hbl,if_neg (by omega)]
 refine⟨htc,?_,fun s hsn=>?_⟩
 ·unfold taNum taN
  rw[if_pos htc,c4,hbl]
  omega
 ·unfold taA
  rw[c4,u8_body ok (2*s) _ (by omega) (by omega)]
  unfold wd
  rw[ho]
variable {m : Mk} {n0 : Nat} {os : List O} {hs : Nat → List Nat} {mi : List Nat} {es : List (Nat × List Int)}
theorem slot_lt (k:Kept m n0 os hs mi es)(t:List Int):Mk.dslot m t<m.C.ds∧Mk.fslot m t<m.C.fs:=by
 have hI:=k.good.img.inv
 unfold Mk.dslot Mk.fslot
 have h1:=hI.ds
 have h2:=hI.fs
 have h3:=Int.emod_lt_of_pos (Mk.sum m t) (show(0:Int)<(m.C.ds:Int)by omega)
 have h4:=Int.emod_nonneg (Mk.sum m t) (show(m.C.ds:Int)≠0 by omega)
 have h5:=Int.emod_lt_of_pos (Mk.sum m t) (show(0:Int)<(m.C.fs:Int)by omega)
 have h6:=Int.emod_nonneg (Mk.sum m t) (show(m.C.fs:Int)≠0 by omega)
 omega
theorem st_tab (k:Kept m n0 os hs mi es){st:Int}(ht:0≤st∧st≤2):
 (tCode (hdOf (stL m st)) (stL m st) 4=0∧tNum (hdOf (stL m st)) (stL m st) 4=m.C.ds∧ ∀s,s<m.C.ds→taA (bodyL (stL m st) (tOff (hdOf (stL m st)) 4)) s=wd os 272 (2*s))∧
 (tCode (hdOf (stL m st)) (stL m st) 5=0∧tNum (hdOf (stL m st)) (stL m st) 5=m.C.fs∧ ∀s,s<m.C.fs→taA (bodyL (stL m st) (tOff (hdOf (stL m st)) 5)) s=wd os (288+16*m.C.ds) (2*s)):=by
 have hI:=k.good.img
 have hl:stL m st=(stH m st).bytes 21++enc os:=by unfold stL;rw[k.hold.rep.rep.eq]
 have hh:((stH m st).bytes 21).length=272:=by rw[HD.bytes_len]
 have e2:=(st_N hI ht 2 (by decide) (by decide)).trans hI.inv.n2
 have e3:=(st_N hI ht 3 (by decide) (by decide)).trans hI.hg.n3
 have e4:=(st_N hI ht 4 (by decide) (by decide)).trans hI.inv.n4
 have e5:=(st_N hI ht 5 (by decide) (by decide)).trans hI.hg.n5
 unfold Mk.tf at e4
 have hds:=hI.inv.ds
 have hfs:=hI.inv.fs
 obtain⟨g4,h4⟩:=k.hold.td.sh
 obtain⟨g5,h5⟩:=k.hold.tf.sh
 obtain⟨a1,a2,a3⟩:=read_tab hl hh k.hold.rep.ok (.inl rfl) hds.1 h4
 obtain⟨b1,b2,b3⟩:=read_tab hl hh k.hold.rep.ok (.inr rfl) hfs.1 h5
 have o4:tOff (hdOf (stL m st)) 4=272:=by
  unfold tOff tAt
  rw[if_pos rfl,e2]
  rfl
 have o5:tOff (hdOf (stL m st)) 5=288+16*m.C.ds:=by
  unfold tOff tAt
  rw[if_neg (by decide),e4]
  omega
 have z4:tSz (hdOf (stL m st)) 4=16*m.C.ds:=by
  unfold tSz
  rw[if_pos rfl,e3]
  omega
 have z5:tSz (hdOf (stL m st)) 5=16*m.C.fs:=by
  unfold tSz
  rw[if_neg (by decide),e5]
  omega
 have c4:tCode (hdOf (stL m st)) (stL m st) 4=0:=by
  unfold tCode tCd
  rw[if_pos (.inl rfl),o4,z4,a1,a2,if_neg (by simp),if_pos (by omega)]
 have c5:tCode (hdOf (stL m st)) (stL m st) 5=0:=by
  unfold tCode tCd
  rw[if_pos (.inr rfl),o5,z5,b1,b2,if_neg (by simp),if_pos (by omega)]
 refine⟨⟨c4,?_,?_⟩,c5,?_,?_⟩
 ·unfold tNum
  rw[if_pos c4,o4,a2]
 ·rw[o4];exact a3
 ·unfold tNum
  rw[if_pos c5,o5,b2]
 ·rw[o5];exact b3
theorem st_fld (k:Kept m n0 os hs mi es)(htx: ∀d∈m.fields,d.text≠ []){st:Int}(ht:0≤st∧st≤2)(i:Nat)(hi:i<m.fields.length):
 fcode (hdOf (stL m st)) (stL m st) m.b.length m.fields[i].at_=0∧(∀j,j<3→fN (hdOf (stL m st)) (stL m st) m.b.length m.fields[i].at_ j=wd os m.fields[i].at_ j)∧fP (hdOf (stL m st)) (stL m st) m.b.length m.fields[i].at_=m.fields[i].text∧m.fields[i].at_<m.b.length∧272≤m.fields[i].at_:=by
 have hI:=k.good.img
 have hl:stL m st=(stH m st).bytes 21++enc os:=by unfold stL;rw[k.hold.rep.rep.eq]
 have hh:((stH m st).bytes 21).length=272:=by rw[HD.bytes_len]
 have e0:=(st_N hI ht 0 (by decide) (by decide)).trans hI.hg.n0
 have D:=k.hold.fld i hi
 obtain⟨r1,r2,r3,r4,r5⟩:=read_num hl hh k.hold.rep.ok D.sh (htx _ (List.getElem_mem hi))
 rw[st_len hI st]at r5
 have hr:rng (hdOf (stL m st)) m.b.length m.fields[i].at_:=by rw[rng,e0];omega
 refine⟨?_,fun j hj=>?_,?_,r5,r4⟩
 ·unfold fcode;rw[if_pos hr];exact r1
 ·unfold fN;rw[if_pos hr];exact r2 j hj
 ·unfold fP;rw[if_pos hr];exact r3
end Zx
end Go.Proofs.YtjecmgkmcfkcjaaGreat
