/-
  Texts beneath the proof.
-/
import Derived.Deep.Matrix
import Derived.Test.YtiddkgcafpaekaaGreatJq1
set_option linter.unusedVariables false
set_option linter.unusedSimpArgs false
set_option maxRecDepth 100000
open Go.ChangeShapes Go.WideShapes Go.ChangeAt Go.RowKit
namespace Go.Proofs.YtiddkgcafpaekaaGreat
namespace Blk8
open Bytes8
def Blk (w:World)(g:Nat)(vs:List Value)(T:TypeId):Prop:=w.heap[g]? =some (.cells vs.toArray T (0,0))
theorem Blk.lt {w:World}{g:Nat}{vs:List Value}{T:TypeId}(h:Blk w g vs T):g<w.heap.size:=by
 rcases Nat.lt_or_ge g w.heap.size with hlt|hge
 ·exact hlt
 ·unfold Blk at h;rw[Array.getElem?_eq_none hge]at h;cases h
theorem Blk.cell {w:World}{g:Nat}{vs:List Value}{T:TypeId}(h:Blk w g vs T){i:Nat}{v:Value}(hi:vs[i]? =some v):w.cell? ⟨g,i,none⟩=some v:=by
 unfold Blk at h
 simp[World.cell?,h,hi]
theorem Blk.frozen {w:World}{g:Nat}{vs:List Value}{T:TypeId}(h:Blk w g vs T)(i:Nat):w.frozen? ⟨g,i,none⟩=false:=by
 unfold Blk at h
 simp[World.frozen?,h]
theorem Blk.new (w:World)(vs:List Value)(T:TypeId):Blk (w.alloc (.cells vs.toArray T)) w.heap.size vs T:=heap_alloc_new w _
theorem Blk.new_at (w:World)(vs:List Value)(T:TypeId)(g:Nat)(h:w.heap.size=g):Blk (w.alloc (.cells vs.toArray T)) g vs T:=h▸Blk.new w vs T
theorem Blk.below {w w':World}{B g:Nat}{vs:List Value}{T:TypeId}(h:Blk w g vs T)(hb:Below B w w')(hg:g<B):Blk w' g vs T:=(hb.block g hg).trans h
theorem Blk.set_ {w:World}{g:Nat}{vs:List Value}{T:TypeId}(h:Blk w g vs T)(i:Nat)(v:Value):Blk (w.setCell ⟨g,i,none⟩ v) g (vs.set i v) T:=by
 unfold Blk at h⊢
 simp[World.setCell,Array.getElem?_modify,h]
theorem Blk.far {w:World}{g:Nat}{vs:List Value}{T:TypeId}(h:Blk w g vs T){p:Addr}(hp:g≠p.block)(u:Value):Blk (w.setCell p u) g vs T:=(Below.heap_setCell w p u g hp).trans h
theorem Blk.alloc {w:World}{g:Nat}{vs:List Value}{T:TypeId}(h:Blk w g vs T)(o:Obj):Blk (w.alloc o) g vs T:=(Below.heap_alloc w o g h.lt).trans h
theorem Blk.bytes {w:World}{g:Nat}{l:List Int}{T:TypeId}(h:Blk w g (l.map (Value.int .u8)) T)(hA:AllB l):Bytes w (some ⟨g,0,none⟩) l:=
 ⟨hA,fun i hi=>⟨g,0,rfl,h.lt,by rw[Nat.zero_add];exact h.cell (by simp[List.getElem?_eq_getElem hi])⟩⟩
theorem below_drewN {B:Nat}{a w:World}(h:Below B a w)(n:Nat):Below B a (w.drewN n):=⟨h.os,h.tape,h.output,h.size,h.block⟩
theorem Blk.drew {w:World}{g:Nat}{vs:List Value}{T:TypeId}(h:Blk w g vs T):Blk w.drew g vs T:=h
theorem Blk.drewN {w:World}{g:Nat}{vs:List Value}{T:TypeId}(h:Blk w g vs T)(n:Nat):Blk (w.drewN n) g vs T:=h
theorem quiet_kept {P:Program}{f:FuncId}{args:Array Value}{w:World}{n:Nat}{v:Value}
 (h:Calls P f args (w.drewN n) fun e w'=>e= .returned v∧w.drewN n=w'):Calls P f args (w.drewN n) fun e w'=>e= .returned v∧ ∃m,w'=w.drewN m:=
 h.mono fun _ _ hh=>⟨hh.1,n,hh.2.symm⟩
def IsRow (k:IntKind)(w:World)(a:Option Addr)(len cap:Nat)(zs:List Int):Prop:=
 (a=none∧len=0∧cap=0∧zs=[])∨
 ∃x,a=some x∧len≤cap∧cap≤maxLen∧zs.length=cap∧(∀i,i<zs.length→w.cell? (x.add i)=some (.int k (zs.getD i 0)))∧ ∀n∈zs,(Lit.int k n).wf=true
theorem bounds_of_cell {w:World}{p:Addr}{v:Value}(h:w.cell? p=some v):p.block<w.heap.size:=by
 rcases Nat.lt_or_ge p.block w.heap.size with hlt|hge
 ·exact hlt
 ·simp[World.cell?,Array.getElem?_eq_none hge]at h
theorem row_of_trod {H:Type}{enc:TypeId×Value→H}{P:Program}{w:World}{base:Nat}{held:Bool}{t e:TypeId}{k:IntKind}{a:Option Addr}{len cap:Nat}{d:DataW H}{p:List MemPlace}(ht:P.underlying t=some (.slice e))(he:P.underlying e=some (.int k))(hc:P.cellsOf e=1)
 (h:DataW.Trod enc P w base (fun _=>true) held t (.slice a len cap) d p): ∃zs,IsRow k w a len cap zs:=by
 obtain⟨fuel,hf⟩:=h
 rcases open_ints ht he hc hf with⟨hcs,_⟩|⟨x,l,c,zs,hcs,_,hl,hm,hz,_,hcell,hwz⟩
 ·simp[Value.cells]at hcs
  obtain⟨rfl,rfl,rfl⟩:=hcs
  exact⟨[],.inl ⟨rfl,rfl,rfl,rfl⟩⟩
 ·simp[Value.cells]at hcs
  obtain⟨rfl,rfl,rfl⟩:=hcs
  exact⟨zs,.inr ⟨_,rfl,hl,hm,by simpa using hz,hcell,hwz⟩⟩
def idL (K:Nat→Int):List Int:=[K 0,K 1,K 2,K 3,K 4,K 5,K 6,K 7,K 8,K 9,K 10,K 11,K 12,K 13,K 14,K 15]
abbrev idV (K:Nat→Int):Value:= .agg #[.int .u8 (K 0),.int .u8 (K 1),.int .u8 (K 2),.int .u8 (K 3),.int .u8 (K 4),.int .u8 (K 5),.int .u8 (K 6),.int .u8 (K 7),.int .u8 (K 8),.int .u8 (K 9),.int .u8 (K 10),.int .u8 (K 11),.int .u8 (K 12),.int .u8 (K 13),.int .u8 (K 14),.int .u8 (K 15)]
abbrev idC (T:TypeId)(K:Nat→Int):Obj:= .cells #[.int .u8 (K 0),.int .u8 (K 1),.int .u8 (K 2),.int .u8 (K 3),.int .u8 (K 4),.int .u8 (K 5),.int .u8 (K 6),.int .u8 (K 7),.int .u8 (K 8),.int .u8 (K 9),.int .u8 (K 10),.int .u8 (K 11),.int .u8 (K 12),.int .u8 (K 13),.int .u8 (K 14),.int .u8 (K 15)] T
def IdOk (K:Nat→Int):Prop:= ∀i,0≤K i∧K i<256
theorem idL_all {K:Nat→Int}(h:IdOk K):AllB (idL K):=fun n hn=>by
 simp only[idL,List.mem_cons,List.not_mem_nil,or_false]at hn
 rcases hn with h1|h1|h1|h1|h1|h1|h1|h1|h1|h1|h1|h1|h1|h1|h1|h1<;>(rw[h1];exact h _)
theorem id_boxed (T:TypeId)(K:Nat→Int)(h:IdOk K)(w:World):Bytes (w.alloc (idC T K)) (some ⟨w.heap.size,0,none⟩) (idL K):=(Blk.new w ((idL K).map (Value.int .u8)) T).bytes (idL_all h)
end Blk8
namespace Seq8
open Bytes8 Blk8
structure KeptB (B g:Nat)(w w':World):Prop where
 os:w'.os=w.os
 tape:w'.tape=w.tape
 output:w'.output=w.output
 size:w.heap.size≤w'.heap.size
 block: ∀k,k<B→k≠g→w'.heap[k]? =w.heap[k]?
theorem KeptB.of_below {B g:Nat}{w w':World}(h:Below B w w'):KeptB B g w w':=⟨h.os,h.tape,h.output,h.size,fun k hk _=>h.block k hk⟩
theorem KeptB.refl (B g:Nat)(w:World):KeptB B g w w:=KeptB.of_below (Below.refl B w)
theorem KeptB.trans {B g:Nat}{a b c:World}(h:KeptB B g a b)(k:KeptB B g b c):KeptB B g a c:=
 ⟨k.os.trans h.os,k.tape.trans h.tape,k.output.trans h.output,Nat.le_trans h.size k.size,fun i hi hg=>(k.block i hi hg).trans (h.block i hi hg)⟩
theorem KeptB.mono {B B' g:Nat}{w w':World}(h:KeptB B g w w')(hB:B'≤B):KeptB B' g w w':=⟨h.os,h.tape,h.output,h.size,fun k hk hg=>h.block k (yL hk hB) hg⟩
theorem KeptB.below {B g:Nat}{w w':World}(h:KeptB B g w w')(hg:B≤g):Below B w w':=⟨h.os,h.tape,h.output,h.size,fun k hk=>h.block k hk (by omega)⟩
theorem KeptB.drewN {B g:Nat}{a w:World}(h:KeptB B g a w)(n:Nat):KeptB B g a (w.drewN n):=⟨h.os,h.tape,h.output,h.size,h.block⟩
theorem KeptB.drew {B g:Nat}{a w:World}(h:KeptB B g a w):KeptB B g a w.drew:=⟨h.os,h.tape,h.output,h.size,h.block⟩
theorem KeptB.alloc {B g:Nat}{a w:World}(h:KeptB B g a w)(hB:B≤w.heap.size)(o:Obj):KeptB B g a (w.alloc o):=h.trans (KeptB.of_below ((Below.refl B w).alloc hB o))
theorem KeptB.setCell {B g:Nat}{a w:World}(h:KeptB B g a w){p:Addr}(hp:B≤p.block∨p.block=g)(u:Value):KeptB B g a (w.setCell p u):=
 h.trans ⟨rfl,rfl,rfl,by simp[World.setCell],fun k hk hg=>Below.heap_setCell _ _ _ _ (by rcases hp with h|h<;>omega)⟩
theorem Blk.keptB {w w':World}{B g k:Nat}{vs:List Value}{T:TypeId}(h:Blk w k vs T)(hk:KeptB B g w w')(h1:k<B)(h2:k≠g):Blk w' k vs T:=(hk.block k h1 h2).trans h
end Seq8
namespace LeA
def isW (n:Int):Bool:=n==1||n==2||n==4||n==8
theorem isWidth_any (n:Int)(w:World):
 Calls Tryz.prog 130 #[.int .i64 n] w fun e w'=>e= .returned (.bool (isW n))∧w=w':=by
 by_cases h1:n=1
 ·subst h1
  go_enter Tryz.func130,Tryz.ntmps130
  go_wp2
  go_ret
  exact⟨rfl,rfl⟩
 by_cases h2:n=2
 ·subst h2
  go_enter Tryz.func130,Tryz.ntmps130
  go_wp2
  go_ret
  exact⟨rfl,rfl⟩
 by_cases h4:n=4
 ·subst h4
  go_enter Tryz.func130,Tryz.ntmps130
  go_wp2
  go_ret
  exact⟨rfl,rfl⟩
 by_cases h8:n=8
 ·subst h8
  go_enter Tryz.func130,Tryz.ntmps130
  go_wp2
  go_ret
  exact⟨rfl,rfl⟩
 ·go_enter Tryz.func130,Tryz.ntmps130
  go_wp2
  go_ret
  exact⟨rfl,rfl⟩
def fits (len:Nat)(at1 n:Int):Bool:=isW n&&decide (0≤at1)&&decide (at1≤len-n)
theorem within_any (a:Option Addr)(len cap:Nat)(at1 n:Int)(w:World)(hl:len≤9223372036854775807):
 Calls Tryz.prog 133 #[.slice a len cap,.int .i64 at1,.int .i64 n] w fun e w'=>e= .returned (.bool (fits len at1 n))∧w=w':=by
 cases hw:isW n with
 |false=>
  go_enter Tryz.func133,Tryz.ntmps133
  go_wp2_with(go_at_call 130;refine(isWidth_any _ _).mono ?_;rintro e w' ⟨rfl,rfl⟩)
  go_ret
  exact⟨by simp[fits,hw],rfl⟩
 |true=>
  have hn:1≤n∧n≤8:=by simp[isW]at hw;omega
  obtain⟨hn1,hn8⟩:=hn
  by_cases h0:0≤at1
  ·go_enter Tryz.func133,Tryz.ntmps133
   go_wp2_with(go_at_call 130;refine(isWidth_any _ _).mono ?_;rintro e w' ⟨rfl,rfl⟩)
   go_ret
   exact⟨by simp[fits,hw,h0],rfl⟩
  ·go_enter Tryz.func133,Tryz.ntmps133
   go_wp2_with(go_at_call 130;refine(isWidth_any _ _).mono ?_;rintro e w' ⟨rfl,rfl⟩)
   go_ret
   exact⟨by simp[fits,hw];omega,rfl⟩
end LeA
namespace Fa
open Bytes8
abbrev T (l:List Int):ByteArray:=strOfNums l
def num (s:ByteArray):List Int:=s.toList.map fun c=>(c.toNat:Int)
theorem T_toList (l:List Int):(T l).toList=l.map fun n=>n.toNat.toUInt8:=by
 show(strOfNums l).toList=_
 unfold strOfNums
 rw[ByteArray.toList_eq]
theorem num_len (s:ByteArray):(num s).length=s.size:=by
 unfold num;rw[List.length_map,ByteArray.toList_eq];cases s;rfl
theorem T_size (l:List Int):(T l).size=l.length:=by
 have h:=num_len (T l)
 rw[←h];unfold num;rw[List.length_map,T_toList,List.length_map]
theorem num_T {l:List Int}(h:AllB l):num (T l)=l:=by
 unfold num;rw[T_toList,List.map_map]
 conv=>rhs;rw[←List.map_id l]
 refine List.map_congr_left fun n hn=>?_
 have:=h n hn
 simp
 omega
theorem T_app (l m:List Int):T l++T m=T (l++m):=by
 apply ByteArray.ext
 rw[ByteArray.data_append]
 apply Array.toList_inj.1
 have e:=T_toList l;have f:=T_toList m;have g:=T_toList (l++m)
 rw[ByteArray.toList_eq]at e f g
 rw[Array.toList_append,e,f,g,List.map_append]
theorem T_one:({data:= #[61]}:ByteArray)=T [61]:=by decide
theorem T_nil:({data:= #[]}:ByteArray)=T []:=by decide
theorem T_cut (l:List Int)(a b:Nat):(T l).extract a b=T ((l.drop a).take (b-a)):=by
 apply ByteArray.ext
 apply Array.toList_inj.1
 have e:=T_toList l;have g:=T_toList ((l.drop a).take (b-a))
 rw[ByteArray.toList_eq]at e g
 rw[g,ByteArray.data_extract,Array.toList_extract,e]
 simp[List.extract,List.map_take,List.map_drop]
theorem T_beq {l m:List Int}(hl:AllB l)(hm:AllB m):((T l).toList==(T m).toList)=decide (l=m):=by
 by_cases h:l=m
 ·subst h;simp
 ·have:(T l).toList≠(T m).toList:=fun e=>h (by
   rw[←num_T hl,←num_T hm];unfold num;rw[e])
  simp[h,this]
theorem index_at (l:List Int)(h:AllB l)(i:Nat)(hi:i<l.length)(w:World):
 (Instr.index 9 (.string (T l)) (.int .i64 (i:Int))).run Tryz.prog w= .ok (.int .u8 (l.getD i 0)) w:=by
 rw[run_index_string w _ _ _ _ Tryz.underlying9]
 have hs:(i:Int)<((T l).size:Int):=by rw[T_size];omega
 have hsz:i<(T l).size:=by rw[T_size];exact hi
 have hlen:i<(T l).toList.length:=by rw[T_toList,List.length_map];exact hi
 rw[dif_pos ⟨by omega,hs⟩]
 have e1:((T l)[(i:Int).toNat]'(by simpa using hsz))=(T l).toList[i]'hlen:=by
  have:(T l).toList=(T l).data.toList:=ByteArray.toList_eq _
  simp only[this]
  rfl
 rw[e1]
 have e2:(T l).toList[i]'hlen=(l[i]).toNat.toUInt8:=by
  simp only[T_toList,List.getElem_map]
 rw[e2]
 have hv:=h l[i] (List.getElem_mem hi)
 have e3:l.getD i 0=l[i]:=by simp[List.getElem?_eq_getElem hi]
 rw[e3]
 have e4:(((l[i]).toNat.toUInt8.toNat:Nat):Int)=l[i]:=by simp;omega
 rw[e4]
end Fa
namespace Fa
open Bytes8
def isDig (c:Int):Bool:=decide (48≤c)&&decide (c≤57)
def isLet (c:Int):Bool:=decide (65≤c)&&decide (c≤90)
def okC (c:Int):Bool:=isDig c||isLet c||decide (c=95)
def nmB (l:List Int):Bool:=decide (1≤l.length)&&decide (l.length≤64)&& !(isDig (l.getD 0 0))&&l.all okC
theorem all_of {l:List Int}(h: ∀j,j<l.length→okC (l.getD j 0)=true):l.all okC=true:=by
 rw[List.all_eq_true]
 intro x hx
 obtain⟨j,hj,rfl⟩:=List.mem_iff_getElem.1 hx
 have:=h j hj
 rwa[show l.getD j 0=l[j]by simp[List.getElem?_eq_getElem hj]]at this
theorem of_all {l:List Int}(h:l.all okC=true){j:Nat}(hj:j<l.length):okC (l.getD j 0)=true:=by
 rw[List.all_eq_true]at h
 have:=h l[j] (List.getElem_mem hj)
 rwa[show l.getD j 0=l[j]by simp[List.getElem?_eq_getElem hj]]
theorem nmB_no {l:List Int}{j:Nat}(hj:j<l.length)(h:okC (l.getD j 0)=false):nmB l=false:=by
 cases hn:nmB l with
 |false=>rfl
 |true=>
  unfold nmB at hn
  simp only[Bool.and_eq_true]at hn
  rw[of_all hn.2 hj]at h;cases h
theorem nmB_yes {l:List Int}(h1:1≤l.length)(h2:l.length≤64)(h3:isDig (l.getD 0 0)=false)(h: ∀j,j<l.length→okC (l.getD j 0)=true):nmB l=true:=by
 unfold nmB
 rw[decide_eq_true h1,decide_eq_true h2,h3,all_of h]
 rfl
theorem nmB_len {l:List Int}(h:nmB l=true):1≤l.length∧l.length≤64:=by
 unfold nmB at h;simp only[Bool.and_eq_true,decide_eq_true_eq]at h;exact h.1.1
theorem nmB_eq {l:List Int}(h:nmB l=true):61∉l:=fun hm=>by
 unfold nmB at h
 simp only[Bool.and_eq_true]at h
 have:=List.all_eq_true.1 h.2 61 hm
 revert this;decide
def flawI (n v:List Int):Int:=if nmB n=true then(if 256<v.length then 21 else 0)else 1
def pay (n v:List Int):List Int:=n++ [61]++v
theorem pay_all {n v:List Int}(hn:AllB n)(hv:AllB v):AllB (pay n v):=(hn.app (fun x hx=>by simp at hx;subst hx;decide)).app hv
theorem pay_len (n v:List Int):(pay n v).length=n.length+1+v.length:=by unfold pay;simp;omega
def cutI (l:List Int):Nat:=l.findIdx (· ==61)
theorem cutI_le (l:List Int):cutI l≤l.length:=List.findIdx_le_length
def splitE (l:List Int):Int:=if cutI l<l.length then(if nmB (l.take (cutI l))=true then(if 256<l.length-cutI l-1 then 21 else 0)else 20)else 20
def splitN (l:List Int):List Int:=if splitE l=0 then l.take (cutI l)else []
def splitV (l:List Int):List Int:=if splitE l=0 then l.drop (cutI l+1)else []
theorem splitN_all {l:List Int}(h:AllB l):AllB (splitN l):=by
 unfold splitN;split
 ·exact h.take _
 ·intro x hx;cases hx
theorem splitV_all {l:List Int}(h:AllB l):AllB (splitV l):=by
 unfold splitV;split
 ·exact h.drop _
 ·intro x hx;cases hx
theorem cutI_at {l:List Int}(h:cutI l<l.length):l.getD (cutI l) 0=61:=by
 have:=List.findIdx_getElem (p:=(· ==(61:Int))) (xs:=l) (w:=h)
 simp only[beq_iff_eq]at this
 rw[show l.getD (cutI l) 0=l[cutI l]by simp[List.getElem?_eq_getElem h]]
 exact this
theorem cutI_before {l:List Int}{j:Nat}(h:j<cutI l):l.getD j 0≠61:=by
 have hj:j<l.length:=yL h (cutI_le l)
 have:=List.not_of_lt_findIdx (p:=(· ==(61:Int))) (xs:=l) h
 simp only[beq_eq_false_iff_ne,ne_eq,Bool.not_eq_true]at this
 rw[show l.getD j 0=l[j]by simp[List.getElem?_eq_getElem hj]]
 simpa using this
theorem cutI_is {l:List Int}{k:Nat}(hk:k<l.length)(h1:l.getD k 0=61)(h2: ∀j,j<k→l.getD j 0≠61):cutI l=k:=by
 have hle:cutI l≤k:=by
  rcases Nat.lt_or_ge k (cutI l)with h|h
  ·exact absurd h1 (cutI_before h)
  ·exact h
 rcases Nat.lt_or_ge (cutI l) k with h|h
 ·exact absurd (cutI_at (Nat.lt_trans h hk)) (h2 _ h)
 ·omega
theorem split_pay {n v:List Int}(h:flawI n v=0):splitE (pay n v)=0∧splitN (pay n v)=n∧splitV (pay n v)=v:=by
 unfold flawI at h
 by_cases hn:nmB n=true
 ·rw[if_pos hn]at h
  have hv: ¬256<v.length:=by intro hv;rw[if_pos hv]at h;cases h
  have hc:cutI (pay n v)=n.length:=by
   refine cutI_is (by rw[pay_len];omega) ?_ fun j hj=>?_
   ·unfold pay;simp
   ·have:(pay n v).getD j 0=n[j]:=by unfold pay;simp[List.getElem?_append,hj]
    rw[this]
    intro e
    exact nmB_eq hn (e▸List.getElem_mem hj)
  have ht:(pay n v).take n.length=n:=by unfold pay;simp
  have hd:(pay n v).drop (n.length+1)=v:=by unfold pay;simp
  have he:splitE (pay n v)=0:=by
   unfold splitE
   rw[hc,if_pos (by rw[pay_len];omega),ht,if_pos hn,if_neg (by rw[pay_len];omega)]
  refine⟨he,?_,?_⟩
  ·unfold splitN;rw[if_pos he,hc,ht]
  ·unfold splitV;rw[if_pos he,hc,hd]
 ·rw[if_neg hn]at h;cases h
theorem split_not {l:List Int}(h:splitE l≠0):splitN l=[]∧splitV l=[]:=by
 unfold splitN splitV;rw[if_neg h,if_neg h];exact⟨rfl,rfl⟩
abbrev pv (n v:List Int):Value:= .agg #[.string (T n),.string (T v)]
theorem eql_pair {n v m u:List Int}(hn:AllB n)(hv:AllB v)(hm:AllB m)(hu:AllB u)(w:World):
 (binOp .eql 77 (pv n v) (pv m u)).run Tryz.prog w= .ok (.bool (decide (n=m∧v=u))) w:=by
 have a9:=Tryz.isAgg9
 have z9:=Tryz.sizeOf9
 have hS:Tryz.prog.underlying 77=some (.struct (Tryz.prog.fieldsOf 77)):=by kernel_rfl
 have hp:Tryz.prog.stoodInHeld 77=false:=by kernel_rfl
 have b1:=T_beq hn hm
 have b2:=T_beq hv hu
 rw[run_eql_struct,show(10000:Nat)=9999+1 from rfl,run_equalIn_agg w 9999 _ _ _ hS hp]
 simp only[Program.fieldsOf,Tryz.underlying77]
 generalize T n=S1 at*
 generalize T v=S2 at*
 generalize T m=S3 at*
 generalize T u=S4 at*
 go_simp
 by_cases h1:n=m<;>by_cases h2:v=u<;>simp[h1,h2]at b1 b2⊢ <;>simp[b1,b2]
end Fa
namespace Fo
open Bytes8 Fa
def ltL:List Int→List Int→Bool
 |_,[]=>false
 | [],_::_=>true
 |a::r,b::q=>if a<b then true else if b<a then false else ltL r q
theorem ltL_irrefl: ∀l,ltL l l=false
 | []=>rfl
 |a::l=>by simp[ltL,ltL_irrefl l]
theorem ltL_trans: ∀a b c,ltL a b=true→ltL b c=true→ltL a c=true
 | [],[],_,h,_=>by simp[ltL]at h
 |_::_,[],_,h,_=>by simp[ltL]at h
 |_,_::_,[],_,h=>by simp[ltL]at h
 | [],_::_,_::_,_,_=>rfl
 |x::a,y::b,z::c,h,k=>by
  unfold ltL at h k⊢
  by_cases h1:x<y
  ·by_cases k1:y<z
   ·rw[if_pos (by omega)]
   ·rw[if_neg k1]at k
    by_cases k2:z<y
    ·rw[if_pos k2]at k;cases k
    ·rw[if_pos (by omega)]
  ·rw[if_neg h1]at h
   by_cases h2:y<x
   ·rw[if_pos h2]at h;cases h
   ·rw[if_neg h2]at h
    by_cases k1:y<z
    ·rw[if_pos (by omega)]
    ·rw[if_neg k1]at k
     by_cases k2:z<y
     ·rw[if_pos k2]at k;cases k
     ·rw[if_neg k2]at k
      rw[if_neg (by omega),if_neg (by omega)]
      exact ltL_trans a b c h k
theorem ltL_total: ∀a b,ltL a b=false→ltL b a=false→a=b
 | [],[],_,_=>rfl
 | [],_::_,h,_=>by simp[ltL]at h
 |_::_,[],_,k=>by simp[ltL]at k
 |x::a,y::b,h,k=>by
  unfold ltL at h k
  by_cases h1:x<y
  ·rw[if_pos h1]at h;cases h
  ·by_cases h2:y<x
   ·rw[if_pos h2]at k;cases k
   ·rw[if_neg h1,if_neg h2]at h
    rw[if_neg h2,if_neg h1]at k
    have:x=y:=by omega
    rw[this,ltL_total a b h k]
theorem ltL_asymm (a b:List Int)(h:ltL a b=true):ltL b a=false:=by
 cases k:ltL b a with
 |false=>rfl
 |true=>rw[←ltL_irrefl a,ltL_trans a b a h k]
theorem u8_lt {x y:Int}(hx:0≤x∧x<256)(hy:0≤y∧y<256):(x.toNat.toUInt8<y.toNat.toUInt8)=(x<y):=by
 rw[UInt8.lt_iff_toNat_lt]
 simp
 omega
theorem u8_eq {x y:Int}(hx:0≤x∧x<256)(hy:0≤y∧y<256):(x.toNat.toUInt8==y.toNat.toUInt8)=decide (x=y):=by
 by_cases h:x=y
 ·simp[h]
 ·have:x.toNat.toUInt8≠y.toNat.toUInt8:=fun e=>h (by
   have:=congrArg UInt8.toNat e
   simp at this
   omega)
  simp only[beq_eq_false_iff_ne.2 this,h,decide_false]
theorem less_nums: ∀l m,AllB l→AllB m→Op.bytesLess (l.map fun n=>n.toNat.toUInt8) (m.map fun n=>n.toNat.toUInt8)=ltL l m
 | [],[],_,_=>rfl
 | [],_::_,_,_=>rfl
 |_::_,[],_,_=>rfl
 |x::l,y::m,hl,hm=>by
  have ih:=less_nums l m (fun n hn=>hl n (by simp[hn])) (fun n hn=>hm n (by simp[hn]))
  have hx:=hl x (by simp)
  have hy:=hm y (by simp)
  simp only[List.map_cons,Op.bytesLess,ltL,u8_lt hx hy,u8_eq hx hy,ih]
  by_cases h1:x<y
  ·simp[h1]
  ·by_cases h2:y<x
   ·have h3: ¬x=y:=by omega
    simp[h1,h2,h3]
   ·have h3:x=y:=by omega
    simp[h3]
theorem bytesLess_T {l m:List Int}(hl:AllB l)(hm:AllB m):Op.bytesLess (T l).toList (T m).toList=ltL l m:=by
 rw[T_toList,T_toList];exact less_nums l m hl hm
end Fo
namespace Ff
open Bytes8 Blk8
theorem const_bytes (l:List Int)(hA:AllB l)(w:World)(M:Nat×Nat):Bytes (w.alloc (.cells (l.map (Value.int .u8)).toArray 5 M)) (some ⟨w.heap.size,0,none⟩) l:=by
 refine⟨hA,fun i hi=>⟨w.heap.size,0,rfl,by simp,?_⟩⟩
 rw[Nat.zero_add,World.cell?_alloc_mark,List.getElem?_toArray,List.getElem?_map,List.getElem?_eq_getElem hi]
 simp[List.getElem?_eq_getElem hi]
theorem small_all {l:List Int}(h:l.all (fun x=>decide (0≤x)&&decide (x<256))=true):AllB l:=fun n hn=>by
 have:=List.all_eq_true.1 h n hn
 simpa using this
end Ff
namespace Ha
open Blk8 LeNum Hm
theorem and31 (k:Int)(k0:0≤k)(k1:k≤31):bits BinOp.and .u64 k 31=k:=by
 have h:=mask_low k 0
 obtain⟨n,rfl⟩:=Int.eq_ofNat_of_zero_le k0
 have e:(31:Int)=((31:Nat):Int):=rfl
 rw[e,LeNum.bits_and_u64_nat n 31 (by omega) (by decide)]
 have:=Nat.and_two_pow_sub_one_eq_mod n 5
 simp at this
 rw[this]
 omega
theorem rotl32 (x k:Int)(w:World)(h0:0≤x)(h1:x≤4294967295)(k0:0≤k)(k1:k≤31):
 Calls Tryz.prog 250 #[.int .u32 x,.int .i64 k] w fun e w'=>e= .returned (.int .u32 (rot32 x k))∧w=w':=by
 have h:=and31 k k0 k1
 go_enter Tryz.func250,Tryz.ntmps250
 go_wp2
 go_ret
 exact⟨rfl,rfl⟩
theorem turn_any (x k:Int)(w:World)(h0:0≤x)(h1:x≤4294967295)(k0:0≤k)(k1:k≤31):
 Calls Tryz.prog 188 #[.int .u32 x,.int .u64 k] w fun e w'=>e= .returned (.int .u32 (rot32 x k))∧w=w':=by
 go_enter Tryz.func188,Tryz.ntmps188
 go_wp2
 go_ret
 exact⟨rfl,rfl⟩
theorem stirred_any (x y k:Int)(w:World)(h0:0≤y)(h1:y≤4294967295)(k0:0≤k)(k1:k≤31):
 Calls Tryz.prog 216 #[.int .u32 x,.int .u32 y,.int .i64 k] w fun e w'=>e= .returned (.int .u32 (stir x y k))∧w=w':=by
 go_enter Tryz.func216,Tryz.ntmps216
 go_wp2_with(go_at_call 250;(with_reducible refine(rotl32 _ _ _ h0 h1 k0 k1).mono ?_);rintro e w' ⟨rfl,rfl⟩)
 go_ret
 exact⟨rfl,rfl⟩
theorem settled_any (x y k:Int)(w:World)(h0:0≤y)(h1:y≤4294967295)(k0:0≤k)(k1:k≤31):
 Calls Tryz.prog 217 #[.int .u32 x,.int .u32 y,.int .i64 k] w fun e w'=>e= .returned (.int .u32 (setl x y k))∧w=w':=by
 go_enter Tryz.func217,Tryz.ntmps217
 go_wp2_with(go_at_call 250;(with_reducible refine(rotl32 _ _ _ h0 h1 k0 k1).mono ?_);rintro e w' ⟨rfl,rfl⟩)
 go_ret
 exact⟨rfl,rfl⟩
abbrev trioV (t:Trio):Value:= .agg #[.int .u32 t.x,.int .u32 t.y,.int .u32 t.z]
theorem answer_any (x y z:Int)(w:World)(h:(⟨x,y,z⟩:Trio).ok):
 Calls Tryz.prog 174 #[.agg #[.int .u32 x,.int .u32 y,.int .u32 z]] w fun e w'=>e= .returned (.int .u64 (ans ⟨x,y,z⟩))∧Below w.heap.size w w':=by
 obtain⟨⟨x0,x1⟩,⟨y0,y1⟩,⟨z0,z1⟩⟩:=h
 simp only at x0 x1 y0 y1 z0 z1
 go_enter Tryz.func174,Tryz.ntmps174
 go_wp2
 go_ret
 exact⟨rfl,(Below.refl _ _).alloc (yR _) _⟩
end Ha
namespace LeB
open Bytes8 LeA LeNum
theorem get_no (a:Option Addr)(len cap:Nat)(at1 n:Int)(w:World)(hl:len≤9223372036854775807)(hf:fits len at1 n=false):
 Calls Tryz.prog 69 #[.slice a len cap,.int .i64 at1,.int .i64 n] w fun e w'=>e= .returned (.tuple #[.int .u64 0,.bool false])∧w=w':=by
 go_enter Tryz.func69,Tryz.ntmps69
 go_wp2_with(go_at_call 133;refine(within_any _ _ _ _ _ _ hl).mono ?_;rintro e w' ⟨rfl,rfl⟩)
 go_ret2
 exact⟨rfl,rfl⟩
theorem get_yes (a:Option Addr)(l:List Int)(cap:Nat)(at1 n:Nat)(w:World)(hl:l.length≤9223372036854775807)(hf:fits l.length at1 n=true)(hb:Bytes w a l)(h8:n≤8)(h1:1≤n)(hle:at1+n≤l.length):
 Calls Tryz.prog 69 #[.slice a l.length cap,.int .i64 at1,.int .i64 n] w fun e w'=>e= .returned (.tuple #[.int .u64 (leNum ((l.drop at1).take n)),.bool true])∧w=w':=by
 obtain⟨b,off,rfl,hlt,hc⟩:=hb.spot (by omega)
 have hA:AllB l:=hb.1
 generalize hL:l.length=len at*
 have HL:=yH hL
 clear hL hb
 have HC:=yH hc
 have HA:=yH hA
 clear hc hA
 go_enter Tryz.func69,Tryz.ntmps69
 go_wp2_with(go_at_call 133;refine(within_any _ _ _ _ _ _ hl).mono ?_;rintro e w' ⟨rfl,rfl⟩)
 go_loop [8,16] (fun v i=> ∃k:Nat,k≤n∧i= .int .i64 k∧v= .int .u64 (leNum ((l.drop at1).take k))) (fun _ i=>n-(intOf i).toNat)
 case atStart=>exact⟨0,Nat.zero_le _,rfl,rfl⟩
 case round=>
  obtain⟨k,hk,rfl,rfl⟩:=hrel
  by_cases hlt:k<n
  ·have hcell:=HC.out (at1+k) (by omega)
   have hs:=get_step l at1 k (by omega) (by have:=HL.out;omega) HA.out
   have HS:=yH hs
   obtain⟨hc0,hc1⟩:=HA.out.at_ (at1+k)
   clear hs
   go_wp2
   go_round
   case rel=>exact⟨k+1,by omega,by go_num,by rw[HS.out]⟩
   case measure=>simp[intOf];omega
  ·go_wp2
   go_ret2
   obtain rfl:k=n:=by omega
   exact⟨rfl,rfl⟩
end LeB
namespace Ob
open Bytes8 LeNum LeAl
def I64 (l:List Int):Prop:= ∀v∈l,0≤v∧v≤18446744073709551615
def nums (l:List Int):List Int:=l.flatMap fun v=>lowB v 8
theorem nums_nil:nums []=[]:=rfl
theorem nums_cons (v:Int)(l:List Int):nums (v::l)=lowB v 8++nums l:=by simp[nums]
theorem nums_app (l m:List Int):nums (l++m)=nums l++nums m:=by simp[nums]
theorem nums_one (v:Int):nums [v]=lowB v 8:=by simp[nums]
theorem nums_snoc (l:List Int)(v:Int):nums (l++ [v])=nums l++lowB v 8:=by rw[nums_app,nums_one]
theorem nums_len (l:List Int):(nums l).length=8*l.length:=by
 induction l with
 |nil=>rfl
 |cons v r ih=>rw[nums_cons,List.length_append,lowB_len,ih,List.length_cons];omega
theorem nums_all (l:List Int):AllB (nums l):=fun x hx=>by
 obtain⟨v,_,h⟩:=List.mem_flatMap.1 hx
 exact lowB_all v 8 x h
theorem nums_take (l:List Int)(k:Nat)(hk:k<l.length):nums (l.take (k+1))=nums (l.take k)++lowB (l.getD k 0) 8:=by
 rw[take_snoc l k hk,nums_snoc]
def u8 (l:List Int)(a:Nat):Int:=leNum ((l.drop a).take 8)
theorem u8_bd {l:List Int}(h:AllB l)(a:Nat):0≤u8 l a∧u8 l a≤18446744073709551615:=by
 have h1:=leNum_bound ((l.drop a).take 8) ((h.drop a).take 8)
 have h2:((l.drop a).take 8).length≤8:=by simp;omega
 have h3:=pow_le64 _ h2
 unfold u8
 omega
theorem u8_nums (l m:List Int)(i:Nat)(hi:i<l.length)(hb:0≤l.getD i 0∧l.getD i 0≤18446744073709551615):u8 (nums l++m) (8*i)=l.getD i 0:=by
 induction l generalizing i with
 |nil=>simp at hi
 |cons v r ih=>
  cases i with
  |zero=>
   have e:v=(v::r).getD 0 0:=rfl
   rw[←e]at hb⊢
   unfold u8
   rw[nums_cons,List.append_assoc,Nat.mul_zero,List.drop_zero,List.take_append_of_le_length (by rw[lowB_len];exact yR _),List.take_of_length_le (by rw[lowB_len];exact yR _),leNum_lowB]
   have:(256:Int)^8=18446744073709551616:=rfl
   omega
  |succ i=>
   have e:(v::r).getD (i+1) 0=r.getD i 0:=rfl
   rw[e]at hb⊢
   have:=ih i (by simpa using hi) hb
   rw[←this]
   unfold u8
   rw[nums_cons,List.append_assoc,show 8*(i+1)=(lowB v 8).length+8*i by rw[lowB_len];omega,List.drop_append,List.drop_of_length_le (by omega)]
   simp
theorem u8_app (p l:List Int)(n a:Nat)(hn:p.length=n):u8 (p++l) (n+a)=u8 l a:=by
 subst hn
 unfold u8
 rw[List.drop_append,List.drop_of_length_le (by omega)]
 simp
theorem u8_cut (l m:List Int)(a:Nat)(h:a+8≤l.length):u8 (l++m) a=u8 l a:=by
 unfold u8
 rw[List.drop_append_of_le_length (by omega),List.take_append_of_le_length (by simp;omega)]
def padN (n:Nat):Nat:=(8-n%8)%8
theorem padN_le (n:Nat):padN n≤7∧(n+padN n)%8=0:=by unfold padN;omega
theorem align_pad (n:Nat):alignUp ((16+n:Nat):Int)=((16+n+padN n:Nat):Int):=by unfold alignUp padN;omega
def front (k:Int)(n:Nat):List Int:=[k,0,0,0,0,0,0,0]++lowB ((16+n:Nat):Int) 8
theorem front_len (k:Int)(n:Nat):(front k n).length=16:=by simp[front,lowB_len]
def objB (k:Int)(body:List Int):List Int:=front k body.length++(body++List.replicate (padN body.length) 0)
theorem objB_len (k:Int)(body:List Int):(objB k body).length=16+body.length+padN body.length:=by simp[objB,front_len];omega
def code (l:List Int)(a:Nat):Int:=
 if a%8≠0 then 3
 else if l.length<a+16 then 2
 else if l.getD a 0<1∨7<l.getD a 0 then 4
 else if l.getD (a+1) 0≠0 then 7
 else if u8 l (a+8)<16 then 5
 else if(l.length:Int)<a+u8 l (a+8)then 2
 else 0
theorem code_fine {l:List Int}{a:Nat}(h:code l a=0):a%8=0∧a+16≤l.length∧1≤l.getD a 0∧l.getD a 0≤7∧l.getD (a+1) 0=0∧16≤u8 l (a+8)∧(a:Int)+u8 l (a+8)≤l.length:=by
 unfold code at h
 repeat' split at h
 all_goals first|(exact absurd h (by decide))|(rename_i h1 h2 h3 h4 h5 h6;omega)
theorem code_is {l:List Int}{a:Nat}(h1:a%8=0)(h2:a+16≤l.length)(h3:1≤l.getD a 0)(h4:l.getD a 0≤7)(h5:l.getD (a+1) 0=0)(h6:16≤u8 l (a+8))(h7:(a:Int)+u8 l (a+8)≤l.length):code l a=0:=by
 unfold code
 rw[if_neg (by omega),if_neg (by omega),if_neg (by omega),if_neg (by omega),if_neg (by omega),if_neg (by omega)]
def kindL (l:List Int)(a:Nat):Int:=if code l a=0 then l.getD a 0 else 0
def sizeL (l:List Int)(a:Nat):Int:=if code l a=0 then u8 l (a+8)else 0
def bodyL (l:List Int)(a:Nat):List Int:=(l.drop (a+16)).take ((sizeL l a).toNat-16)
def bcode (l:List Int)(a:Nat)(k:Int)(n:Nat):Int:=
 if code l a≠0 then code l a else if kindL l a≠k then 4 else if(bodyL l a).length≤8*n then 5 else 0
def bnum (l:List Int)(a:Nat)(k:Int)(n i:Nat):Int:=if bcode l a k n=0 then u8 (bodyL l a) (8*i)else 0
def bpay (l:List Int)(a:Nat)(k:Int)(n:Nat):List Int:=if bcode l a k n=0 then(bodyL l a).drop (8*n)else []
theorem body_len {l:List Int}{a:Nat}(h:code l a=0):((bodyL l a).length:Int)=sizeL l a-16:=by
 have hf:=code_fine h
 unfold bodyL sizeL
 rw[if_pos h]
 simp
 omega
theorem getD_app (p l:List Int)(n a:Nat)(hn:p.length=n):(p++l).getD (n+a) 0=l.getD a 0:=by
 subst hn
 simp[List.getD_eq_getElem?_getD,List.getElem?_append_right]
theorem size_front (k:Int)(n:Nat)(hn:n≤1000000):u8 (front k n) 8=(16+n:Nat):=by
 have h:=u8_app [k,0,0,0,0,0,0,0] (lowB ((16+n:Nat):Int) 8) 8 0 rfl
 unfold front
 rw[Nat.add_zero]at h
 rw[h,←nums_one]
 have h2:=u8_nums [((16+n:Nat):Int)] [] 0 (by simp) (by simp;omega)
 rw[List.append_nil,Nat.mul_zero]at h2
 rw[h2];rfl
theorem put_read (p q body:List Int)(k:Int)(a:Nat)(hp:p.length=a)(ha:a%8=0)(h0:1≤k)(h1:k≤7)(hn:body.length≤1000000):
 code (p++(objB k body++q)) a=0∧kindL (p++(objB k body++q)) a=k∧sizeL (p++(objB k body++q)) a=(16+body.length:Nat)∧bodyL (p++(objB k body++q)) a=body:=by
 have g0:(p++(objB k body++q)).getD a 0=k:=by
  have:=getD_app p (objB k body++q) a 0 hp
  rw[Nat.add_zero]at this
  rw[this];rfl
 have g1:(p++(objB k body++q)).getD (a+1) 0=0:=by
  rw[getD_app p _ a 1 hp];rfl
 have g8:u8 (p++(objB k body++q)) (a+8)=(16+body.length:Nat):=by
  rw[u8_app p _ a 8 hp]
  unfold objB
  rw[List.append_assoc,u8_cut _ _ 8 (by rw[front_len];omega),size_front k _ hn]
 have hl:(p++(objB k body++q)).length=a+(16+body.length+padN body.length)+q.length:=by
  simp[objB_len,hp];omega
 have hc:code (p++(objB k body++q)) a=0:=code_is ha (by omega) (by omega) (by omega) g1 (by omega) (by rw[g8,hl];omega)
 have hs:sizeL (p++(objB k body++q)) a=(16+body.length:Nat):=by unfold sizeL;rw[if_pos hc,g8]
 refine⟨hc,by unfold kindL;rw[if_pos hc,g0],hs,?_⟩
 unfold bodyL
 rw[hs]
 have e1:(p++(objB k body++q)).drop (a+16)=body++(List.replicate (padN body.length) 0++q):=by
  rw[←hp,List.drop_append]
  unfold objB
  rw[show p.length+16-p.length=16 by omega,List.drop_of_length_le (by omega),List.nil_append,List.append_assoc,List.drop_append,front_len,List.drop_of_length_le (by rw[front_len];omega)]
  simp
 rw[e1,show((16+body.length:Nat):Int).toNat-16=body.length by omega]
 simp
end Ob
namespace Ha
open Hm
theorem up_any (x k:Int)(w:World)(h0:0≤x)(h1:x≤18446744073709551615)(k0:0≤k)(k1:k≤63):
 Calls Tryz.prog 226 #[.int .u64 x,.int .u64 k] w fun e w'=>e= .returned (.int .u64 (rot64 x k))∧w=w':=by
 go_enter Tryz.func226,Tryz.ntmps226
 go_wp2
 go_ret
 exact⟨rfl,rfl⟩
end Ha
namespace LeP
open LeA
theorem size8:(Tryz.prog.info? 5).map (·.size)=some 1:=by kernel_rfl
theorem fits_parts {len:Nat}{at1 n:Int}(h:fits len at1 n=true):1≤n∧n≤8∧0≤at1∧at1+n≤len:=by
 simp[fits,isW]at h
 omega
theorem isW_bd {n:Int}(h:isW n=true):1≤n∧n≤8:=by
 simp[isW]at h
 omega
end LeP
end Go.Proofs.YtiddkgcafpaekaaGreat
