/-
  Texts beneath.
-/
import Derived.Deep.Matrix
import Derived.Test.YteaikbodkgjkdaaGreatQl1
set_option linter.unusedVariables false
set_option linter.unusedSimpArgs false
set_option maxRecDepth 100000
open Go.ChangeShapes Go.WideShapes Go.ChangeAt Go.RowKit
namespace Go.Proofs.YteaikbodkgjkdaaGreat
namespace Blk8
open Bytes8
def Blk (w:World)(g:Nat)(vs:List Value)(T:TypeId):Prop:=w.heap[g]? =some (.cells vs.toArray T (0,0))
theorem Blk.lt {w:World}{g:Nat}{c:List Value}{T:TypeId}(h:Blk w g c T):g<w.heap.size:=by
 rcases Nat.lt_or_ge g w.heap.size with b|a
 ·exact b
 ·unfold Blk at h;rw[Array.getElem?_eq_none a]at h;cases h
theorem Blk.cell {w:World}{g:Nat}{a:List Value}{T:TypeId}(h:Blk w g a T){i:Nat}{v:Value}(b:a[i]? =some v):w.cell? ⟨g,i,none⟩=some v:=by
 unfold Blk at h
 simp[World.cell?,h,b]
theorem Blk.frozen {w:World}{g:Nat}{a:List Value}{T:TypeId}(h:Blk w g a T)(i:Nat):w.frozen? ⟨g,i,none⟩=false:=by
 unfold Blk at h
 simp[World.frozen?,h]
theorem Blk.new (w:World)(a:List Value)(T:TypeId):Blk (w.alloc (.cells a.toArray T)) w.heap.size a T:=heap_alloc_new w _
theorem Blk.new_at (w:World)(a:List Value)(T:TypeId)(g:Nat)(h:w.heap.size=g):Blk (w.alloc (.cells a.toArray T)) g a T:=h▸Blk.new w a T
theorem Blk.below {w w':World}{B g:Nat}{a:List Value}{T:TypeId}(h:Blk w g a T)(b:Below B w w')(c:g<B):Blk w' g a T:=(b.block g c).trans h
theorem Blk.set_ {w:World}{g:Nat}{a:List Value}{T:TypeId}(h:Blk w g a T)(i:Nat)(v:Value):Blk (w.setCell ⟨g,i,none⟩ v) g (a.set i v) T:=by
 unfold Blk at h⊢
 simp[World.setCell,Array.getElem?_modify,h]
theorem Blk.far {w:World}{g:Nat}{a:List Value}{T:TypeId}(h:Blk w g a T){p:Addr}(b:g≠p.block)(u:Value):Blk (w.setCell p u) g a T:=(Below.heap_setCell w p u g b).trans h
theorem Blk.alloc {w:World}{g:Nat}{a:List Value}{T:TypeId}(h:Blk w g a T)(o:Obj):Blk (w.alloc o) g a T:=(Below.heap_alloc w o g h.lt).trans h
theorem Blk.bytes {w:World}{g:Nat}{l:List Int}{T:TypeId}(h:Blk w g (l.map (Value.int .u8)) T)(a:AllB l):Bytes w (some ⟨g,0,none⟩) l:=
 ⟨a,fun i hi=>⟨g,0,rfl,h.lt,by rw[Nat.zero_add];exact h.cell (by simp[yG hi])⟩⟩
theorem below_drewN {B:Nat}{a w:World}(h:Below B a w)(n:Nat):Below B a (w.drewN n):=⟨h.os,h.tape,h.output,h.size,h.block⟩
theorem Blk.drew {w:World}{g:Nat}{a:List Value}{T:TypeId}(h:Blk w g a T):Blk w.drew g a T:=h
theorem Blk.drewN {w:World}{g:Nat}{a:List Value}{T:TypeId}(h:Blk w g a T)(n:Nat):Blk (w.drewN n) g a T:=h
theorem aBZ {P:Program}{f:FuncId}{args:Array Value}{w:World}{n:Nat}{v:Value}
 (h:Calls P f args (w.drewN n) fun e w'=>e= .returned v∧w.drewN n=w'):Calls P f args (w.drewN n) fun e w'=>e= .returned v∧ ∃m,w'=w.drewN m:=
 h.mono fun _ _ hh=>⟨hh.1,n,hh.2.symm⟩
theorem aAH {w:World}{p:Addr}{v:Value}(h:w.cell? p=some v):p.block<w.heap.size:=by
 rcases Nat.lt_or_ge p.block w.heap.size with b|a
 ·exact b
 ·simp[World.cell?,Array.getElem?_eq_none a]at h
def idL (K:Nat→Int):List Int:=[K 0,K 1,K 2,K 3,K 4,K 5,K 6,K 7,K 8,K 9,K 10,K 11,K 12,K 13,K 14,K 15]
abbrev idV (K:Nat→Int):Value:= .agg #[.int .u8 (K 0),.int .u8 (K 1),.int .u8 (K 2),.int .u8 (K 3),.int .u8 (K 4),.int .u8 (K 5),.int .u8 (K 6),.int .u8 (K 7),.int .u8 (K 8),.int .u8 (K 9),.int .u8 (K 10),.int .u8 (K 11),.int .u8 (K 12),.int .u8 (K 13),.int .u8 (K 14),.int .u8 (K 15)]
abbrev idC (T:TypeId)(K:Nat→Int):Obj:= .cells #[.int .u8 (K 0),.int .u8 (K 1),.int .u8 (K 2),.int .u8 (K 3),.int .u8 (K 4),.int .u8 (K 5),.int .u8 (K 6),.int .u8 (K 7),.int .u8 (K 8),.int .u8 (K 9),.int .u8 (K 10),.int .u8 (K 11),.int .u8 (K 12),.int .u8 (K 13),.int .u8 (K 14),.int .u8 (K 15)] T
def IdOk (K:Nat→Int):Prop:= ∀i,0≤K i∧K i<256
theorem aHf {K:Nat→Int}(h:IdOk K):AllB (idL K):=fun n hn=>by
 simp only[idL,List.mem_cons,List.not_mem_nil,or_false]at hn
 rcases hn with a|a|a|a|a|a|a|a|a|a|a|a|a|a|a|a<;>(rw[a];exact h _)
theorem aIn (T:TypeId)(K:Nat→Int)(h:IdOk K)(w:World):Bytes (w.alloc (idC T K)) (some ⟨w.heap.size,0,none⟩) (idL K):=(Blk.new w ((idL K).map (Value.int .u8)) T).bytes (aHf h)
end Blk8
namespace Seq8
open Bytes8 Blk8
structure KeptB (B g:Nat)(w w':World):Prop where
 os:w'.os=w.os
 tape:w'.tape=w.tape
 output:w'.output=w.output
 size:w.heap.size≤w'.heap.size
 block: ∀k,k<B→k≠g→w'.heap[k]? =w.heap[k]?
theorem KeptB.of_below {B g:Nat}{w w':World}(h:Below B w w'):KeptB B g w w':=⟨h.os,h.tape,h.output,h.size,fun k hk _=>h.block k hk⟩
theorem KeptB.refl (B g:Nat)(w:World):KeptB B g w w:=KeptB.of_below (yB B w)
theorem KeptB.trans {B g:Nat}{a b c:World}(h:KeptB B g a b)(k:KeptB B g b c):KeptB B g a c:=
 ⟨k.os.trans h.os,k.tape.trans h.tape,k.output.trans h.output,Nat.le_trans h.size k.size,fun i hi hg=>(k.block i hi hg).trans (h.block i hi hg)⟩
theorem KeptB.mono {B B' g:Nat}{w w':World}(h:KeptB B g w w')(a:B'≤B):KeptB B' g w w':=⟨h.os,h.tape,h.output,h.size,fun k hk hg=>h.block k (yL hk a) hg⟩
theorem KeptB.below {B g:Nat}{w w':World}(h:KeptB B g w w')(a:B≤g):Below B w w':=⟨h.os,h.tape,h.output,h.size,fun k hk=>h.block k hk (by omega)⟩
theorem KeptB.drewN {B g:Nat}{a w:World}(h:KeptB B g a w)(n:Nat):KeptB B g a (w.drewN n):=⟨h.os,h.tape,h.output,h.size,h.block⟩
theorem KeptB.drew {B g:Nat}{a w:World}(h:KeptB B g a w):KeptB B g a w.drew:=⟨h.os,h.tape,h.output,h.size,h.block⟩
theorem KeptB.alloc {B g:Nat}{a w:World}(h:KeptB B g a w)(b:B≤w.heap.size)(o:Obj):KeptB B g a (w.alloc o):=h.trans (KeptB.of_below ((yB B w).alloc b o))
theorem KeptB.setCell {B g:Nat}{a w:World}(h:KeptB B g a w){p:Addr}(b:B≤p.block∨p.block=g)(u:Value):KeptB B g a (w.setCell p u):=
 h.trans ⟨rfl,rfl,rfl,by simp[World.setCell],fun k hk hg=>Below.heap_setCell _ _ _ _ (by rcases b with h|h<;>omega)⟩
theorem Blk.keptB {w w':World}{B g k:Nat}{a:List Value}{T:TypeId}(h:Blk w k a T)(b:KeptB B g w w')(d:k<B)(c:k≠g):Blk w' k a T:=(b.block k d c).trans h
end Seq8
namespace LeA
def isW (n:Int):Bool:=n==1||n==2||n==4||n==8
theorem aCd (n:Int)(w:World):
 Calls Tryz.prog 227 #[.int .i64 n] w fun e w'=>e= .returned (.bool (isW n))∧w=w':=by
 by_cases a:n=1
 ·subst a
  go_enter Tryz.func227,Tryz.ntmps227
  go_wp2
  go_ret
  exact⟨rfl,rfl⟩
 by_cases c:n=2
 ·subst c
  go_enter Tryz.func227,Tryz.ntmps227
  go_wp2
  go_ret
  exact⟨rfl,rfl⟩
 by_cases d:n=4
 ·subst d
  go_enter Tryz.func227,Tryz.ntmps227
  go_wp2
  go_ret
  exact⟨rfl,rfl⟩
 by_cases b:n=8
 ·subst b
  go_enter Tryz.func227,Tryz.ntmps227
  go_wp2
  go_ret
  exact⟨rfl,rfl⟩
 ·go_enter Tryz.func227,Tryz.ntmps227
  go_wp2
  go_ret
  exact⟨rfl,rfl⟩
def fits (len:Nat)(at1 n:Int):Bool:=isW n&&decide (0≤at1)&&decide (at1≤len-n)
theorem aEO (a:Option Addr)(len d:Nat)(b n:Int)(w:World)(k:len≤9223372036854775807):
 Calls Tryz.prog 208 #[.slice a len d,.int .i64 b,.int .i64 n] w fun e w'=>e= .returned (.bool (fits len b n))∧w=w':=by
 cases c:isW n with
 |false=>
  go_enter Tryz.func208,Tryz.ntmps208
  go_wp2_with(go_at_call 227;refine(aCd _ _).mono ?_;rintro e w' ⟨rfl,rfl⟩)
  go_ret
  exact⟨by simp[fits,c],rfl⟩
 |true=>
  have j:1≤n∧n≤8:=by simp[isW]at c;omega
  obtain⟨g,i⟩:=j
  by_cases f:0≤b
  ·go_enter Tryz.func208,Tryz.ntmps208
   go_wp2_with(go_at_call 227;refine(aCd _ _).mono ?_;rintro e w' ⟨rfl,rfl⟩)
   go_ret
   exact⟨by simp[fits,c,f],rfl⟩
  ·go_enter Tryz.func208,Tryz.ntmps208
   go_wp2_with(go_at_call 227;refine(aCd _ _).mono ?_;rintro e w' ⟨rfl,rfl⟩)
   go_ret
   exact⟨by simp[fits,c];omega,rfl⟩
end LeA
namespace Fa
open Bytes8
abbrev T (l:List Int):ByteArray:=strOfNums l
def num (s:ByteArray):List Int:=s.toList.map fun c=>(c.toNat:Int)
theorem aAz (l:List Int):(T l).toList=l.map fun n=>n.toNat.toUInt8:=by
 show(strOfNums l).toList=_
 unfold strOfNums
 rw[ByteArray.toList_eq]
theorem aOE (s:ByteArray):(num s).length=s.size:=by
 unfold num;rw[List.length_map,ByteArray.toList_eq];cases s;rfl
theorem aA9 (l:List Int):(T l).size=l.length:=by
 have h:=aOE (T l)
 rw[←h];unfold num;rw[List.length_map,aAz,List.length_map]
theorem aPM {l:List Int}(h:AllB l):num (T l)=l:=by
 unfold num;rw[aAz,List.map_map]
 conv=>rhs;rw[←List.map_id l]
 refine List.map_congr_left fun n hn=>?_
 have:=h n hn
 simp
 omega
theorem aQm (l m:List Int):T l++T m=T (l++m):=by
 apply ByteArray.ext
 rw[ByteArray.data_append]
 apply Array.toList_inj.1
 have e:=aAz l;have f:=aAz m;have g:=aAz (l++m)
 rw[ByteArray.toList_eq]at e f g
 rw[Array.toList_append,e,f,g,List.map_append]
theorem aPN:({data:= #[61]}:ByteArray)=T [61]:=by decide
theorem aFp:({data:= #[]}:ByteArray)=T []:=by decide
theorem aPO (l:List Int)(a b:Nat):(T l).extract a b=T ((l.drop a).take (b-a)):=by
 apply ByteArray.ext
 apply Array.toList_inj.1
 have e:=aAz l;have g:=aAz ((l.drop a).take (b-a))
 rw[ByteArray.toList_eq]at e g
 rw[g,ByteArray.data_extract,Array.toList_extract,e]
 simp[List.extract,List.map_take,List.map_drop]
theorem aHg {l m:List Int}(b:AllB l)(a:AllB m):((T l).toList==(T m).toList)=decide (l=m):=by
 by_cases h:l=m
 ·subst h;simp
 ·have:(T l).toList≠(T m).toList:=fun e=>h (by
   rw[←aPM b,←aPM a];unfold num;rw[e])
  simp[h,this]
theorem aFq (l:List Int)(h:AllB l)(i:Nat)(b:i<l.length)(w:World):
 (Instr.index 9 (.string (T l)) (.int .i64 (i:Int))).run Tryz.prog w= .ok (.int .u8 (l.getD i 0)) w:=by
 rw[run_index_string w _ _ _ _ Tryz.underlying9]
 have hs:(i:Int)<((T l).size:Int):=by rw[aA9];omega
 have c:i<(T l).size:=by rw[aA9];exact b
 have a:i<(T l).toList.length:=by rw[aAz,List.length_map];exact b
 rw[dif_pos ⟨by omega,hs⟩]
 have d:((T l)[(i:Int).toNat]'(by simpa using c))=(T l).toList[i]'a:=by
  have:(T l).toList=(T l).data.toList:=ByteArray.toList_eq _
  simp only[this]
  rfl
 rw[d]
 have g:(T l).toList[i]'a=(l[i]).toNat.toUInt8:=by
  simp only[aAz,List.getElem_map]
 rw[g]
 have j:=h l[i] (List.getElem_mem b)
 have e:l.getD i 0=l[i]:=by simp[yG b]
 rw[e]
 have f:(((l[i]).toNat.toUInt8.toNat:Nat):Int)=l[i]:=by simp;omega
 rw[f]
end Fa
namespace Fa
open Bytes8
def isDig (c:Int):Bool:=decide (48≤c)&&decide (c≤57)
def isLet (c:Int):Bool:=decide (65≤c)&&decide (c≤90)
def okC (c:Int):Bool:=isDig c||isLet c||decide (c=95)
def nmB (l:List Int):Bool:=decide (1≤l.length)&&decide (l.length≤64)&& !(isDig (l.getD 0 0))&&l.all okC
theorem aN5 {l:List Int}(h: ∀j,j<l.length→okC (l.getD j 0)=true):l.all okC=true:=by
 rw[List.all_eq_true]
 intro x b
 obtain⟨j,a,rfl⟩:=List.mem_iff_getElem.1 b
 have:=h j a
 rwa[show l.getD j 0=l[j]by simp[yG a]]at this
theorem aPP {l:List Int}(h:l.all okC=true){j:Nat}(a:j<l.length):okC (l.getD j 0)=true:=by
 rw[List.all_eq_true]at h
 have:=h l[j] (List.getElem_mem a)
 rwa[show l.getD j 0=l[j]by simp[yG a]]
theorem aN6 {l:List Int}{j:Nat}(b:j<l.length)(h:okC (l.getD j 0)=false):nmB l=false:=by
 cases a:nmB l with
 |false=>rfl
 |true=>
  unfold nmB at a
  simp only[Bool.and_eq_true]at a
  rw[aPP a.2 b]at h;cases h
theorem aOF {l:List Int}(a:1≤l.length)(c:l.length≤64)(b:isDig (l.getD 0 0)=false)(h: ∀j,j<l.length→okC (l.getD j 0)=true):nmB l=true:=by
 unfold nmB
 rw[decide_eq_true a,decide_eq_true c,b,aN5 h]
 rfl
theorem aKu {l:List Int}(h:nmB l=true):1≤l.length∧l.length≤64:=by
 unfold nmB at h;simp only[Bool.and_eq_true,decide_eq_true_eq]at h;exact h.1.1
theorem aPQ {l:List Int}(h:nmB l=true):61∉l:=fun hm=>by
 unfold nmB at h
 simp only[Bool.and_eq_true]at h
 have:=List.all_eq_true.1 h.2 61 hm
 revert this;decide
def flawI (n v:List Int):Int:=if nmB n=true then(if 256<v.length then 21 else 0)else 1
def pay (n v:List Int):List Int:=n++ [61]++v
theorem aBr {n v:List Int}(a:AllB n)(b:AllB v):AllB (pay n v):=(a.app (fun x hx=>by simp at hx;subst hx;decide)).app b
theorem pay_len (n v:List Int):(pay n v).length=n.length+1+v.length:=by unfold pay;simp;omega
def cutI (l:List Int):Nat:=l.findIdx (· ==61)
theorem aHh (l:List Int):cutI l≤l.length:=List.findIdx_le_length
def splitE (l:List Int):Int:=if cutI l<l.length then(if nmB (l.take (cutI l))=true then(if 256<l.length-cutI l-1 then 21 else 0)else 20)else 20
def splitN (l:List Int):List Int:=if splitE l=0 then l.take (cutI l)else []
def splitV (l:List Int):List Int:=if splitE l=0 then l.drop (cutI l+1)else []
theorem aJj {l:List Int}(h:AllB l):AllB (splitN l):=by
 unfold splitN;split
 ·exact h.take _
 ·intro x a;cases a
theorem aJk {l:List Int}(h:AllB l):AllB (splitV l):=by
 unfold splitV;split
 ·exact h.drop _
 ·intro x a;cases a
theorem aHi {l:List Int}(h:cutI l<l.length):l.getD (cutI l) 0=61:=by
 have:=List.findIdx_getElem (p:=(· ==(61:Int))) (xs:=l) (w:=h)
 simp only[beq_iff_eq]at this
 rw[show l.getD (cutI l) 0=l[cutI l]by simp[yG h]]
 exact this
theorem aCe {l:List Int}{j:Nat}(h:j<cutI l):l.getD j 0≠61:=by
 have a:j<l.length:=yL h (aHh l)
 have:=List.not_of_lt_findIdx (p:=(· ==(61:Int))) (xs:=l) h
 simp only[beq_eq_false_iff_ne,ne_eq,Bool.not_eq_true]at this
 rw[show l.getD j 0=l[j]by simp[yG a]]
 simpa using this
theorem aKv {l:List Int}{k:Nat}(b:k<l.length)(a:l.getD k 0=61)(c: ∀j,j<k→l.getD j 0≠61):cutI l=k:=by
 have d:cutI l≤k:=by
  rcases Nat.lt_or_ge k (cutI l)with h|h
  ·exact absurd a (aCe h)
  ·exact h
 rcases Nat.lt_or_ge (cutI l) k with h|h
 ·exact absurd (aHi (Nat.lt_trans h b)) (c _ h)
 ·omega
theorem aKw {l:List Int}(a: ∀j,j<l.length→l.getD j 0≠61):cutI l=l.length:=by
 rcases Nat.lt_or_ge (cutI l) l.length with h|h
 ·exact absurd (aHi h) (a _ h)
 ·have:=aHh l;omega
theorem aBa {n v:List Int}(h:flawI n v=0):splitE (pay n v)=0∧splitN (pay n v)=n∧splitV (pay n v)=v:=by
 unfold flawI at h
 by_cases a:nmB n=true
 ·rw[if_pos a]at h
  have d: ¬256<v.length:=by intro d;rw[if_pos d]at h;cases h
  have c:cutI (pay n v)=n.length:=by
   refine aKv (by rw[pay_len];omega) ?_ fun j hj=>?_
   ·unfold pay;simp
   ·have:(pay n v).getD j 0=n[j]:=by unfold pay;simp[List.getElem?_append,hj]
    rw[this]
    intro e
    exact aPQ a (e▸List.getElem_mem hj)
  have f:(pay n v).take n.length=n:=by unfold pay;simp
  have g:(pay n v).drop (n.length+1)=v:=by unfold pay;simp
  have b:splitE (pay n v)=0:=by
   unfold splitE
   rw[c,if_pos (by rw[pay_len];omega),f,if_pos a,if_neg (by rw[pay_len];omega)]
  refine⟨b,?_,?_⟩
  ·unfold splitN;rw[if_pos b,c,f]
  ·unfold splitV;rw[if_pos b,c,g]
 ·rw[if_neg a]at h;cases h
theorem aCC {l:List Int}(h:splitE l≠0):splitN l=[]∧splitV l=[]:=by
 unfold splitN splitV;rw[if_neg h,if_neg h];exact⟨rfl,rfl⟩
abbrev pv (n v:List Int):Value:= .agg #[.string (T n),.string (T v)]
theorem aMR {n v m u:List Int}(e:AllB n)(g:AllB v)(f:AllB m)(d:AllB u)(w:World):
 (binOp .eql 24 (pv n v) (pv m u)).run Tryz.prog w= .ok (.bool (decide (n=m∧v=u))) w:=by
 have o:=Tryz.isAgg9
 have l:=Tryz.sizeOf9
 have i:Tryz.prog.underlying 24=some (.struct (Tryz.prog.fieldsOf 24)):=by kernel_rfl
 have b:Tryz.prog.stoodInHeld 24=false:=by kernel_rfl
 have a:=aHg e f
 have b2:=aHg g d
 rw[run_eql_struct,show(10000:Nat)=9999+1 from rfl,run_equalIn_agg w 9999 _ _ _ i b]
 simp only[Program.fieldsOf,Tryz.underlying24]
 generalize T n=r at*
 generalize T v=k at*
 generalize T m=p at*
 generalize T u=q at*
 go_simp
 by_cases j:n=m<;>by_cases c:v=u<;>simp[j,c]at a b2⊢ <;>simp[a,b2]
end Fa
namespace Fo
open Bytes8 Fa
def ltL:List Int→List Int→Bool
 |_,[]=>false
 | [],_::_=>true
 |a::r,b::q=>if a<b then true else if b<a then false else ltL r q
theorem aCY: ∀l,ltL l l=false
 | []=>rfl
 |a::l=>by simp[ltL,aCY l]
theorem aBO: ∀a b c,ltL a b=true→ltL b c=true→ltL a c=true
 | [],[],_,h,_=>by simp[ltL]at h
 |_::_,[],_,h,_=>by simp[ltL]at h
 |_,_::_,[],_,h=>by simp[ltL]at h
 | [],_::_,_::_,_,_=>rfl
 |x::a,y::b,z::c,h,k=>by
  unfold ltL at h k⊢
  by_cases h1:x<y
  ·by_cases k1:y<z
   ·rw[if_pos (by omega)]
   ·rw[if_neg k1]at k
    by_cases k2:z<y
    ·rw[if_pos k2]at k;cases k
    ·rw[if_pos (by omega)]
  ·rw[if_neg h1]at h
   by_cases h2:y<x
   ·rw[if_pos h2]at h;cases h
   ·rw[if_neg h2]at h
    by_cases k1:y<z
    ·rw[if_pos (by omega)]
    ·rw[if_neg k1]at k
     by_cases k2:z<y
     ·rw[if_pos k2]at k;cases k
     ·rw[if_neg k2]at k
      rw[if_neg (by omega),if_neg (by omega)]
      exact aBO a b c h k
theorem aD7: ∀a b,ltL a b=false→ltL b a=false→a=b
 | [],[],_,_=>rfl
 | [],_::_,h,_=>by simp[ltL]at h
 |_::_,[],_,k=>by simp[ltL]at k
 |x::a,y::b,h,k=>by
  unfold ltL at h k
  by_cases h1:x<y
  ·rw[if_pos h1]at h;cases h
  ·by_cases h2:y<x
   ·rw[if_pos h2]at k;cases k
   ·rw[if_neg h1,if_neg h2]at h
    rw[if_neg h2,if_neg h1]at k
    have:x=y:=by omega
    rw[this,aD7 a b h k]
theorem aGa (a b:List Int)(h:ltL a b=true):ltL b a=false:=by
 cases k:ltL b a with
 |false=>rfl
 |true=>rw[←aCY a,aBO a b a h k]
theorem aQn {x y:Int}(a:0≤x∧x<256)(b:0≤y∧y<256):(x.toNat.toUInt8<y.toNat.toUInt8)=(x<y):=by
 rw[UInt8.lt_iff_toNat_lt]
 simp
 omega
theorem aQo {x y:Int}(b:0≤x∧x<256)(a:0≤y∧y<256):(x.toNat.toUInt8==y.toNat.toUInt8)=decide (x=y):=by
 by_cases h:x=y
 ·simp[h]
 ·have:x.toNat.toUInt8≠y.toNat.toUInt8:=fun e=>h (by
   have:=congrArg UInt8.toNat e
   simp at this
   omega)
  simp only[beq_eq_false_iff_ne.2 this,h,decide_false]
theorem aGb: ∀l m,AllB l→AllB m→Op.bytesLess (l.map fun n=>n.toNat.toUInt8) (m.map fun n=>n.toNat.toUInt8)=ltL l m
 | [],[],_,_=>rfl
 | [],_::_,_,_=>rfl
 |_::_,[],_,_=>rfl
 |x::l,y::m,hl,hm=>by
  have ih:=aGb l m (fun n hn=>hl n (by simp[hn])) (fun n hn=>hm n (by simp[hn]))
  have d:=hl x (by simp)
  have c:=hm y (by simp)
  simp only[List.map_cons,Op.bytesLess,ltL,aQn d c,aQo d c,ih]
  by_cases b:x<y
  ·simp[b]
  ·by_cases e:y<x
   ·have a: ¬x=y:=by omega
    simp[b,e,a]
   ·have a:x=y:=by omega
    simp[a]
theorem aHj {l m:List Int}(b:AllB l)(a:AllB m):Op.bytesLess (T l).toList (T m).toList=ltL l m:=by
 rw[aAz,aAz];exact aGb l m b a
end Fo
namespace Ff
open Bytes8 Blk8
theorem aHk (l:List Int)(a:AllB l)(w:World)(M:Nat×Nat):Bytes (w.alloc (.cells (l.map (Value.int .u8)).toArray 5 M)) (some ⟨w.heap.size,0,none⟩) l:=by
 refine⟨a,fun i hi=>⟨w.heap.size,0,rfl,by simp,?_⟩⟩
 rw[Nat.zero_add,World.cell?_alloc_mark,List.getElem?_toArray,List.getElem?_map,yG hi]
 simp[yG hi]
theorem aGc {l:List Int}(h:l.all (fun x=>decide (0≤x)&&decide (x<256))=true):AllB l:=fun n hn=>by
 have:=List.all_eq_true.1 h n hn
 simpa using this
end Ff
namespace Ha
open Blk8 LeNum Hm
theorem aQp (k:Int)(a:0≤k)(b:k≤31):bits BinOp.and .u64 k 31=k:=by
 have h:=aMk k 0
 obtain⟨n,rfl⟩:=Int.eq_ofNat_of_zero_le a
 have e:(31:Int)=((31:Nat):Int):=rfl
 rw[e,LeNum.bits_and_u64_nat n 31 (by omega) (by decide)]
 have:=Nat.and_two_pow_sub_one_eq_mod n 5
 simp at this
 rw[this]
 omega
theorem aN7 (x k:Int)(w:World)(d:0≤x)(c:x≤4294967295)(b:0≤k)(a:k≤31):
 Calls Tryz.prog 248 #[.int .u32 x,.int .i64 k] w fun e w'=>e= .returned (.int .u32 (rot32 x k))∧w=w':=by
 have h:=aQp k b a
 go_enter Tryz.func248,Tryz.ntmps248
 go_wp2
 go_ret
 exact⟨rfl,rfl⟩
theorem aIo (x k:Int)(w:World)(c:0≤x)(a:x≤4294967295)(d:0≤k)(b:k≤31):
 Calls Tryz.prog 146 #[.int .u32 x,.int .u64 k] w fun e w'=>e= .returned (.int .u32 (rot32 x k))∧w=w':=by
 go_enter Tryz.func146,Tryz.ntmps146
 go_wp2
 go_ret
 exact⟨rfl,rfl⟩
theorem aHl (x y k:Int)(w:World)(d:0≤y)(c:y≤4294967295)(b:0≤k)(a:k≤31):
 Calls Tryz.prog 238 #[.int .u32 x,.int .u32 y,.int .i64 k] w fun e w'=>e= .returned (.int .u32 (stir x y k))∧w=w':=by
 go_enter Tryz.func238,Tryz.ntmps238
 go_wp2_with(go_at_call 248;(with_reducible refine(aN7 _ _ _ d c b a).mono ?_);rintro e w' ⟨rfl,rfl⟩)
 go_ret
 exact⟨rfl,rfl⟩
theorem aHm (x y k:Int)(w:World)(d:0≤y)(c:y≤4294967295)(b:0≤k)(a:k≤31):
 Calls Tryz.prog 239 #[.int .u32 x,.int .u32 y,.int .i64 k] w fun e w'=>e= .returned (.int .u32 (setl x y k))∧w=w':=by
 go_enter Tryz.func239,Tryz.ntmps239
 go_wp2_with(go_at_call 248;(with_reducible refine(aN7 _ _ _ d c b a).mono ?_);rintro e w' ⟨rfl,rfl⟩)
 go_ret
 exact⟨rfl,rfl⟩
abbrev trioV (t:Trio):Value:= .agg #[.int .u32 t.x,.int .u32 t.y,.int .u32 t.z]
theorem aEP (x y z:Int)(w:World)(h:(⟨x,y,z⟩:Trio).ok):
 Calls Tryz.prog 223 #[.agg #[.int .u32 x,.int .u32 y,.int .u32 z]] w fun e w'=>e= .returned (.int .u64 (ans ⟨x,y,z⟩))∧Below w.heap.size w w':=by
 obtain⟨⟨b,d⟩,⟨a,f⟩,⟨g,c⟩⟩:=h
 simp only at b d a f g c
 go_enter Tryz.func223,Tryz.ntmps223
 go_wp2
 go_ret
 exact⟨rfl,(yB _ _).alloc (yR _) _⟩
end Ha
namespace LeB
open Bytes8 LeA LeNum
theorem aPR (a:Option Addr)(len c:Nat)(b n:Int)(w:World)(d:len≤9223372036854775807)(f:fits len b n=false):
 Calls Tryz.prog 183 #[.slice a len c,.int .i64 b,.int .i64 n] w fun e w'=>e= .returned (.tuple #[.int .u64 0,.bool false])∧w=w':=by
 go_enter Tryz.func183,Tryz.ntmps183
 go_wp2_with(go_at_call 208;refine(aEO _ _ _ _ _ _ d).mono ?_;rintro e w' ⟨rfl,rfl⟩)
 go_ret2
 exact⟨rfl,rfl⟩
theorem aCZ (a:Option Addr)(l:List Int)(g:Nat)(c n:Nat)(w:World)(t:l.length≤9223372036854775807)(B:fits l.length c n=true)(f:Bytes w a l)(C:n≤8)(E:1≤n)(z:c+n≤l.length):
 Calls Tryz.prog 183 #[.slice a l.length g,.int .i64 c,.int .i64 n] w fun e w'=>e= .returned (.tuple #[.int .u64 (leNum ((l.drop c).take n)),.bool true])∧w=w':=by
 obtain⟨b,r,rfl,d,q⟩:=f.spot (by omega)
 have p:AllB l:=f.1
 generalize m:l.length=len at*
 have u:=yH m
 clear m f
 have y:=yH q
 have o:=yH p
 clear q p
 go_enter Tryz.func183,Tryz.ntmps183
 go_wp2_with(go_at_call 208;refine(aEO _ _ _ _ _ _ t).mono ?_;rintro e w' ⟨rfl,rfl⟩)
 go_loop [8,16] (fun v i=> ∃k:Nat,k≤n∧i= .int .i64 k∧v= .int .u64 (leNum ((l.drop c).take k))) (fun _ i=>n-(intOf i).toNat)
 case atStart=>exact⟨0,Nat.zero_le _,rfl,rfl⟩
 case round=>
  obtain⟨k,D,rfl,rfl⟩:=hrel
  by_cases d:k<n
  ·have j:=y.out (c+k) (by omega)
   have hs:=aMj l c k (by omega) (by have:=u.out;omega) o.out
   have x:=yH hs
   obtain⟨s,A⟩:=o.out.at_ (c+k)
   clear hs
   go_wp2
   go_round
   case rel=>exact⟨k+1,by omega,by go_num,by rw[x.out]⟩
   case measure=>simp[intOf];omega
  ·go_wp2
   go_ret2
   obtain rfl:k=n:=by omega
   exact⟨rfl,rfl⟩
end LeB
namespace Ob
open Bytes8 LeNum
def I64 (l:List Int):Prop:= ∀v∈l,0≤v∧v≤18446744073709551615
def nums (l:List Int):List Int:=l.flatMap fun v=>lowB v 8
theorem aMS:nums []=[]:=rfl
theorem aAZ (v:Int)(l:List Int):nums (v::l)=lowB v 8++nums l:=by simp[nums]
theorem aIp (l m:List Int):nums (l++m)=nums l++nums m:=by simp[nums]
theorem nums_one (v:Int):nums [v]=lowB v 8:=by simp[nums]
theorem aCD (l:List Int)(v:Int):nums (l++ [v])=nums l++lowB v 8:=by rw[aIp,nums_one]
theorem nums_len (l:List Int):(nums l).length=8*l.length:=by
 induction l with
 |nil=>rfl
 |cons v r ih=>rw[aAZ,yA,aAj,ih,List.length_cons];omega
theorem aFr (l:List Int):AllB (nums l):=fun x hx=>by
 obtain⟨v,_,h⟩:=List.mem_flatMap.1 hx
 exact aH7 v 8 x h
theorem aKx (l:List Int)(k:Nat)(a:k<l.length):nums (l.take (k+1))=nums (l.take k)++lowB (l.getD k 0) 8:=by
 rw[take_snoc l k a,aCD]
def u8 (l:List Int)(a:Nat):Int:=leNum ((l.drop a).take 8)
theorem aCE {l:List Int}(h:AllB l)(a:Nat):0≤u8 l a∧u8 l a≤18446744073709551615:=by
 have c:=aAK ((l.drop a).take 8) ((h.drop a).take 8)
 have b:((l.drop a).take 8).length≤8:=by simp;omega
 have d:=aMi _ b
 unfold u8
 omega
theorem aD8 (l m:List Int)(i:Nat)(b:i<l.length)(a:0≤l.getD i 0∧l.getD i 0≤18446744073709551615):u8 (nums l++m) (8*i)=l.getD i 0:=by
 induction l generalizing i with
 |nil=>simp at b
 |cons v r ih=>
  cases i with
  |zero=>
   have e:v=(v::r).getD 0 0:=rfl
   rw[←e]at a⊢
   unfold u8
   rw[aAZ,List.append_assoc,Nat.mul_zero,List.drop_zero,List.take_append_of_le_length (by rw[aAj];exact yR _),List.take_of_length_le (by rw[aAj];exact yR _),aEE]
   have:(256:Int)^8=18446744073709551616:=rfl
   omega
  |succ i=>
   have e:(v::r).getD (i+1) 0=r.getD i 0:=rfl
   rw[e]at a⊢
   have:=ih i (by simpa using b) a
   rw[←this]
   unfold u8
   rw[aAZ,List.append_assoc,show 8*(i+1)=(lowB v 8).length+8*i by rw[aAj];omega,List.drop_append,List.drop_of_length_le (by omega)]
   simp
theorem aDo (p l:List Int)(n a:Nat)(b:p.length=n):u8 (p++l) (n+a)=u8 l a:=by
 subst b
 unfold u8
 rw[List.drop_append,List.drop_of_length_le (by omega)]
 simp
theorem aPS (l m:List Int)(a:Nat)(h:a+8≤l.length):u8 (l++m) a=u8 l a:=by
 unfold u8
 rw[List.drop_append_of_le_length (by omega),List.take_append_of_le_length (by simp;omega)]
def padN (n:Nat):Nat:=(8-n%8)%8
theorem aFs (n:Nat):padN n≤7∧(n+padN n)%8=0:=by unfold padN;omega
def front (k:Int)(n:Nat):List Int:=[k,0,0,0,0,0,0,0]++lowB ((16+n:Nat):Int) 8
theorem front_len (k:Int)(n:Nat):(front k n).length=16:=by simp[front,aAj]
def objB (k:Int)(body:List Int):List Int:=front k body.length++(body++List.replicate (padN body.length) 0)
theorem aBj (k:Int)(body:List Int):(objB k body).length=16+body.length+padN body.length:=by simp[objB,front_len];omega
def code (l:List Int)(a:Nat):Int:=
 if a%8≠0 then 3
 else if l.length<a+16 then 2
 else if l.getD a 0<1∨7<l.getD a 0 then 4
 else if l.getD (a+1) 0≠0 then 7
 else if u8 l (a+8)<16 then 5
 else if(l.length:Int)<a+u8 l (a+8)then 2
 else 0
theorem aGd {l:List Int}{a:Nat}(h:code l a=0):a%8=0∧a+16≤l.length∧1≤l.getD a 0∧l.getD a 0≤7∧l.getD (a+1) 0=0∧16≤u8 l (a+8)∧(a:Int)+u8 l (a+8)≤l.length:=by
 unfold code at h
 repeat' split at h
 all_goals first|(exact absurd h (by decide))|(rename_i h1 h2 h3 h4 h5 h6;omega)
theorem aOG {l:List Int}{a:Nat}(e:a%8=0)(c:a+16≤l.length)(i:1≤l.getD a 0)(d:l.getD a 0≤7)(g:l.getD (a+1) 0=0)(b:16≤u8 l (a+8))(f:(a:Int)+u8 l (a+8)≤l.length):code l a=0:=by
 unfold code
 rw[if_neg (by omega),if_neg (by omega),if_neg (by omega),if_neg (by omega),if_neg (by omega),if_neg (by omega)]
def kindL (l:List Int)(a:Nat):Int:=if code l a=0 then l.getD a 0 else 0
def sizeL (l:List Int)(a:Nat):Int:=if code l a=0 then u8 l (a+8)else 0
def bodyL (l:List Int)(a:Nat):List Int:=(l.drop (a+16)).take ((sizeL l a).toNat-16)
def bcode (l:List Int)(a:Nat)(k:Int)(n:Nat):Int:=
 if code l a≠0 then code l a else if kindL l a≠k then 4 else if(bodyL l a).length≤8*n then 5 else 0
def bnum (l:List Int)(a:Nat)(k:Int)(n i:Nat):Int:=if bcode l a k n=0 then u8 (bodyL l a) (8*i)else 0
def bpay (l:List Int)(a:Nat)(k:Int)(n:Nat):List Int:=if bcode l a k n=0 then(bodyL l a).drop (8*n)else []
theorem body_len {l:List Int}{a:Nat}(h:code l a=0):((bodyL l a).length:Int)=sizeL l a-16:=by
 have b:=aGd h
 unfold bodyL sizeL
 rw[if_pos h]
 simp
 omega
theorem aIq (p l:List Int)(n a:Nat)(b:p.length=n):(p++l).getD (n+a) 0=l.getD a 0:=by
 subst b
 simp[yD,List.getElem?_append_right]
theorem aJl (k:Int)(n:Nat)(b:n≤1000000):u8 (front k n) 8=(16+n:Nat):=by
 have h:=aDo [k,0,0,0,0,0,0,0] (lowB ((16+n:Nat):Int) 8) 8 0 rfl
 unfold front
 rw[Nat.add_zero]at h
 rw[h,←nums_one]
 have a:=aD8 [((16+n:Nat):Int)] [] 0 (by simp) (by simp;omega)
 rw[List.append_nil,Nat.mul_zero]at a
 rw[a];rfl
theorem aMT (p q body:List Int)(k:Int)(a:Nat)(b:p.length=a)(j:a%8=0)(m:1≤k)(n:k≤7)(g:body.length≤1000000):
 code (p++(objB k body++q)) a=0∧kindL (p++(objB k body++q)) a=k∧sizeL (p++(objB k body++q)) a=(16+body.length:Nat)∧bodyL (p++(objB k body++q)) a=body:=by
 have l:(p++(objB k body++q)).getD a 0=k:=by
  have:=aIq p (objB k body++q) a 0 b
  rw[Nat.add_zero]at this
  rw[this];rfl
 have e:(p++(objB k body++q)).getD (a+1) 0=0:=by
  rw[aIq p _ a 1 b];rfl
 have d:u8 (p++(objB k body++q)) (a+8)=(16+body.length:Nat):=by
  rw[aDo p _ a 8 b]
  unfold objB
  rw[List.append_assoc,aPS _ _ 8 (by rw[front_len];omega),aJl k _ g]
 have f:(p++(objB k body++q)).length=a+(16+body.length+padN body.length)+q.length:=by
  simp[aBj,b];omega
 have c:code (p++(objB k body++q)) a=0:=aOG j (by omega) (by omega) (by omega) e (by omega) (by rw[d,f];omega)
 have hs:sizeL (p++(objB k body++q)) a=(16+body.length:Nat):=by unfold sizeL;rw[if_pos c,d]
 refine⟨c,by unfold kindL;rw[if_pos c,l],hs,?_⟩
 unfold bodyL
 rw[hs]
 have i:(p++(objB k body++q)).drop (a+16)=body++(List.replicate (padN body.length) 0++q):=by
  rw[←b,List.drop_append]
  unfold objB
  rw[show p.length+16-p.length=16 by omega,List.drop_of_length_le (by omega),List.nil_append,List.append_assoc,List.drop_append,front_len,List.drop_of_length_le (by rw[front_len];omega)]
  simp
 rw[i,show((16+body.length:Nat):Int).toNat-16=body.length by omega]
 simp
end Ob
namespace Ha
open Hm
theorem aPT (x k:Int)(w:World)(c:0≤x)(a:x≤18446744073709551615)(d:0≤k)(b:k≤63):
 Calls Tryz.prog 175 #[.int .u64 x,.int .u64 k] w fun e w'=>e= .returned (.int .u64 (rot64 x k))∧w=w':=by
 go_enter Tryz.func175,Tryz.ntmps175
 go_wp2
 go_ret
 exact⟨rfl,rfl⟩
end Ha
namespace LeP
open LeA
theorem size8:(Tryz.prog.info? 5).map (·.size)=some 1:=by kernel_rfl
theorem aJm {len:Nat}{a n:Int}(h:fits len a n=true):1≤n∧n≤8∧0≤a∧a+n≤len:=by
 simp[fits,isW]at h
 omega
theorem aPU {n:Int}(h:isW n=true):1≤n∧n≤8:=by
 simp[isW]at h
 omega
end LeP
namespace Ha
open LeNum Hm
theorem aQq (k:Int)(a:0≤k)(b:k≤63):bits BinOp.and .u64 k 63=k:=by
 obtain⟨n,rfl⟩:=Int.eq_ofNat_of_zero_le a
 have e:(63:Int)=((63:Nat):Int):=rfl
 rw[e,LeNum.bits_and_u64_nat n 63 (by omega) (by decide)]
 have:=Nat.and_two_pow_sub_one_eq_mod n 6
 simp at this
 rw[this]
 omega
theorem aPV (x k:Int)(w:World)(d:0≤x)(c:x≤18446744073709551615)(b:0≤k)(a:k≤63):
 Calls Tryz.prog 249 #[.int .u64 x,.int .i64 k] w fun e w'=>e= .returned (.int .u64 (rot64 x k))∧w=w':=by
 have h:=aQq k b a
 go_enter Tryz.func249,Tryz.ntmps249
 go_wp2
 go_ret
 exact⟨rfl,rfl⟩
end Ha
end Go.Proofs.YteaikbodkgjkdaaGreat
