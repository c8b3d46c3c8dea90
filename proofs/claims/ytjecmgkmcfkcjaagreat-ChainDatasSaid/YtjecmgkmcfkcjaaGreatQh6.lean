/-
  Texts beneath the proof.
-/
import Derived.Deep.CutBlock
import Derived.Test.YtjecmgkmcfkcjaaGreatQh5
set_option linter.unusedVariables false
set_option linter.unusedSimpArgs false
set_option maxRecDepth 100000
set_option maxHeartbeats 4000000
open Go.ChangeShapes Go.WideShapes Go.ChangeAt Go.RowKit
namespace Go.Proofs.YtjecmgkmcfkcjaaGreat
namespace Oh
end Oh
namespace Oi
open Bytes8 Ob
theorem body_there {l:List Int}{a n:Nat}(hL:l.length=n)(h:code l a=0): ∃m:Nat,sizeL l a=((16+m:Nat):Int)∧(bodyL l a).length=m∧a+16+m≤n∧bodyL l a=(l.drop (a+16)).take m∧a%8=0:=by
 have hf:=code_fine h
 have hs:sizeL l a=u8 l (a+8):=by unfold sizeL;rw[if_pos h]
 have hl:=body_len h
 refine⟨(sizeL l a).toNat-16,by omega,by omega,by omega,rfl,hf.1⟩
end Oi
namespace Oi
open Bytes8 Blk8 Own8 OwnE Ob Og
def Bodied (l:List Int)(a:Nat)(k:Int)(c:Nat)(w:World)(e:Ending)(w':World):Prop:=
 ∃B m cb,e= .returned (.tuple #[.slice B m cb,.int .i64 (bcode l a k c)])∧Below w.heap.size w w'∧(bcode l a k c=0→Bytes w' B (bodyL l a)∧(bodyL l a).length=m∧m≤cb∧cb≤maxLen∧8*c<m∧m≤1000000)
theorem bodyOf_any (A:Option Addr)(l:List Int)(n cap a c:Nat)(k:Int)(w:World)(hb:Bytes w A l)(hL:l.length=n)(hn:n≤1000000)(hc:n≤cap)(hcm:cap≤maxLen)(ha:a≤18446744073709551615)(hcc:c≤1000):
 Calls Tryz.prog 119 #[.slice A n cap,.int .u64 (a:Int),.int .i64 k,.int .i64 (c:Int)] w (Bodied l a k c w):=by
 have HR:=Lib.hid (read_any A l n cap a w hb hL hn hc hcm ha)
 unfold FrTold at HR
 unfold Bodied
 have hbc:bcode l a k c=if code l a≠0 then code l a else if kindL l a≠k then 4 else if(bodyL l a).length≤8*c then 5 else 0:=rfl
 by_cases h1:code l a≠0
 ·rw[if_pos h1]at hbc
  rw[hbc]
  clear hbc
  generalize code l a=cd at*
  generalize kindL l a=kd at*
  generalize sizeL l a=s at*
  have HX:Hid (cd≠0):=Lib.hid h1
  clear hb hL
  go_enter Tryz.func119,Tryz.ntmps119
  go_wp2_with(go_at_call 38;(with_reducible refine HR.out.mono ?_);rintro e w2 ⟨rfl,hbel⟩;have HB:=Lib.hid hbel;clear hbel)
  go_ret2
  exact⟨none,0,0,rfl,HB.out.alloc HB.out.size _,fun h=>absurd h HX.out⟩
 have h0:code l a=0:=by omega
 obtain⟨m,hs,hbl,hfit,hbody,_⟩:=body_there hL h0
 rw[if_neg h1,hbl]at hbc
 have hs2:sizeL l a=16+(m:Int):=by omega
 rw[h0,hs2]at HR
 by_cases h2:kindL l a≠k
 ·rw[if_pos h2]at hbc
  rw[hbc]
  generalize kindL l a=kd at*
  clear hb hL hbc hs hs2 hbl hbody h1 h0
  go_enter Tryz.func119,Tryz.ntmps119
  go_wp2_with(go_at_call 38;(with_reducible refine HR.out.mono ?_);rintro e w2 ⟨rfl,hbel⟩;have HB:=Lib.hid hbel;clear hbel)
  go_ret2
  exact⟨none,0,0,rfl,HB.out.alloc HB.out.size _,fun h=>absurd h (by decide)⟩
 have h2':kindL l a=k:=by omega
 rw[if_neg h2]at hbc
 rw[h2']at HR
 have hcut:=cutu_lh A n cap (a+16) (a+16+m) ((a:Int)+16) ((a:Int)+(16+(m:Int))) (by omega) (by omega) (by omega) (by omega)
 have HBC:=Lib.hid (Bytes.cut hb cap (a+16) m (by omega))
 rw[←hbody]at HBC
 rw[show a+16+m-(a+16)=m by omega]at hcut
 have hcap:m≤cap-(a+16)∧cap-(a+16)≤maxLen:=by omega
 generalize cap-(a+16)=cb at*
 generalize cutA A cap (a+16)=C at*
 have HCap:=Lib.hid hcap
 have HBl:=Lib.hid hbl
 have ham:a+16+m≤1000000:=by omega
 unfold maxLen at hcm
 clear hb hL hs hs2 hbl hbody h1 h0 h2 h2' hcap
 by_cases h3:m≤8*c
 ·rw[if_pos h3]at hbc
  rw[hbc]
  have h3':(m:Int)≤(c:Int)*8:=by omega
  clear hbc
  go_enter Tryz.func119,Tryz.ntmps119
  go_wp2_with(go_at_call 38;(with_reducible refine HR.out.mono ?_);rintro e w2 ⟨rfl,hbel⟩;have HB:=Lib.hid hbel;clear hbel)
  go_ret2
  exact⟨none,0,0,rfl,HB.out.alloc HB.out.size _,fun h=>absurd h (by decide)⟩
 ·rw[if_neg h3]at hbc
  rw[hbc]
  have h3': ¬(m:Int)≤(c:Int)*8:=by omega
  clear hbc
  go_enter Tryz.func119,Tryz.ntmps119
  go_wp2_with(go_at_call 38;(with_reducible refine HR.out.mono ?_);rintro e w2 ⟨rfl,hbel⟩;have HB:=Lib.hid hbel;clear hbel)
  go_ret2
  exact⟨C,m,cb,rfl,HB.out.alloc HB.out.size _,fun _=>⟨HBC.out.below (HB.out.alloc HB.out.size _) (Nat.le_refl _),HBl.out,HCap.out.1,HCap.out.2,by omega,by omega⟩⟩
theorem bodyOf_at (A:Option Addr)(l:List Int)(n cap a c:Nat)(k z:Int)(w:World)(hb:Bytes w A l)(hL:l.length=n)(hn:n≤1000000)(hc:n≤cap)(hcm:cap≤maxLen)(ha:a≤18446744073709551615)(hcc:c≤1000)(hz:z=(c:Int)):
 Calls Tryz.prog 119 #[.slice A n cap,.int .u64 (a:Int),.int .i64 k,.int .i64 z] w (Bodied l a k c w):=by
 subst hz;exact bodyOf_any A l n cap a c k w hb hL hn hc hcm ha hcc
end Oi
namespace Oj
end Oj
namespace Ga
open Bytes8 Blk8 Own8 LeNum Ob
structure HD where
 cp:Int
 ic:Int
 st:Int
 I:Nat→Int
 N:Nat→Int
 ta:Int
 ti:Int
 te:Int
def HD.at_ (h:HD)(m i:Nat):Value:=
 if i<3 then(if i=0 then .int .u32 h.cp else if i=1 then .int .u32 h.ic else .int .i64 h.st)
 else if i<67 then .int .u8 (h.I (i-3))
 else if i<67+m then .int .u64 (h.N (i-67))
 else if i=67+m then .int .u32 h.ta
 else if i=68+m then .int .u32 h.ti
 else .int .u64 h.te
def HD.cells (h:HD)(m:Nat):List Value:=(List.range (70+m)).map (h.at_ m)
theorem HD.len (h:HD)(m:Nat):(h.cells m).length=70+m:=by simp[HD.cells]
theorem HD.get (h:HD)(m i:Nat)(hi:i<70+m):(h.cells m)[i]? =some (h.at_ m i):=by simp[HD.cells,hi]
theorem HD.get_I (h:HD)(m i:Nat)(hi:i<64):(h.cells m)[3+i]? =some (.int .u8 (h.I i)):=by
 rw[h.get m _ (by omega)]
 unfold HD.at_
 rw[if_neg (by omega),if_pos (by omega),show 3+i-3=i by omega]
theorem HD.get_N (h:HD)(m i:Nat)(hi:i<m):(h.cells m)[67+i]? =some (.int .u64 (h.N i)):=by
 rw[h.get m _ (by omega)]
 unfold HD.at_
 rw[if_neg (by omega),if_neg (by omega),if_pos (by omega),show 67+i-67=i by omega]
theorem HD.get_ta (h:HD)(m:Nat):(h.cells m)[67+m]? =some (.int .u32 h.ta):=by
 rw[h.get m _ (by omega)]
 unfold HD.at_
 rw[if_neg (by omega),if_neg (by omega),if_neg (by omega),if_pos rfl]
theorem HD.get_ti (h:HD)(m:Nat):(h.cells m)[68+m]? =some (.int .u32 h.ti):=by
 rw[h.get m _ (by omega)]
 unfold HD.at_
 rw[if_neg (by omega),if_neg (by omega),if_neg (by omega),if_neg (by omega),if_pos rfl]
theorem HD.get_te (h:HD)(m:Nat):(h.cells m)[69+m]? =some (.int .u64 h.te):=by
 rw[h.get m _ (by omega)]
 unfold HD.at_
 rw[if_neg (by omega),if_neg (by omega),if_neg (by omega),if_neg (by omega),if_neg (by omega)]
theorem HD.one (h:HD)(m:Nat):(h.cells m).toArray.all (·.oneCell')=true:=by
 rw[Array.all_eq_true_iff_forall_mem]
 intro x hx
 simp only[HD.cells,List.mem_toArray,List.mem_map,List.mem_range]at hx
 obtain⟨i,_,rfl⟩:=hx
 unfold HD.at_
 repeat' split
 all_goals rfl
structure HD.Ok (h:HD)(m:Nat):Prop where
 cp:0≤h.cp∧h.cp≤4294967295
 ic:0≤h.ic∧h.ic≤4294967295
 st: -9223372036854775808≤h.st∧h.st≤9223372036854775807
 I: ∀i,0≤h.I i∧h.I i<256
 N: ∀i,0≤h.N i∧h.N i≤18446744073709551615
 ta:0≤h.ta∧h.ta≤4294967295
 ti:0≤h.ti∧h.ti≤4294967295
 te:0≤h.te∧h.te≤18446744073709551615
def HD.id (h:HD)(k:Nat):List Int:=(List.range 16).map fun i=>h.I (16*k+i)
def HD.ids (h:HD)(k:Nat):List Int:=(List.range (16*k)).map h.I
def HD.nums (h:HD)(k:Nat):List Int:=(List.range k).map h.N
theorem HD.ids_succ (h:HD)(k:Nat):h.ids (k+1)=h.ids k++h.id k:=by
 unfold HD.ids HD.id
 rw[show 16*(k+1)=16*k+16 by omega,List.range_add,List.map_append,List.map_map]
 rfl
theorem HD.ids_len (h:HD)(k:Nat):(h.ids k).length=16*k:=by simp[HD.ids]
theorem HD.id_len (h:HD)(k:Nat):(h.id k).length=16:=by simp[HD.id]
theorem HD.nums_len (h:HD)(k:Nat):(h.nums k).length=k:=by simp[HD.nums]
theorem HD.id_all {h:HD}{m:Nat}(ok:h.Ok m)(k:Nat):AllB (h.id k):=fun n hn=>by
 simp only[HD.id,List.mem_map,List.mem_range]at hn
 obtain⟨i,_,rfl⟩:=hn
 exact ok.I _
theorem HD.id_at {w:World}{g:Nat}{T:TypeId}{h:HD}{m:Nat}(hb:Blk w g (h.cells m) T)(ok:h.Ok m)(k:Nat)(hk:k<4):Bytes w (some ⟨g,3+16*k,none⟩) (h.id k):=by
 refine⟨HD.id_all ok k,fun i hi=>⟨g,3+16*k,rfl,hb.lt,?_⟩⟩
 rw[HD.id_len]at hi
 rw[Nat.add_assoc]
 rw[hb.cell (h.get_I m (16*k+i) (by omega))]
 unfold HD.id
 simp[hi]
theorem HD.nums_at {w:World}{g:Nat}{T:TypeId}{h:HD}{m:Nat}(hb:Blk w g (h.cells m) T)(i:Nat)(hi:i<m):w.cell? ⟨g,67+i,none⟩=some (.int .u64 (h.N i)):=hb.cell (h.get_N m i hi)
def magicL:List Int:=[76,80,75,83,72,72,82,72]
def HD.front (h:HD):List Int:=magicL++lowB h.cp 4++lowB h.ic 4++lowB (h.st%256) 8
def HD.bytes (h:HD)(m:Nat):List Int:=h.front++h.ids 4++Ob.nums (h.nums m)++lowB h.ta 4++lowB h.ti 4++lowB h.te 8
theorem HD.front_len (h:HD):h.front.length=24:=by unfold HD.front;simp[lowB_len,magicL]
theorem HD.bytes_len (h:HD)(m:Nat):(h.bytes m).length=104+8*m:=by
 unfold HD.bytes
 simp only[List.length_append,HD.front_len,HD.ids_len,Ob.nums_len,HD.nums_len,lowB_len]
 omega
theorem magic_all:AllB magicL:=fun x hx=>by simp[magicL]at hx;omega
end Ga
namespace Gb
open Ga
theorem wpList_build_as {P:Program}{ops:Array Oper}{rest:List Oper}{o:Oper}{a:Act}{w:World}{Q:Exit→Act→World→Prop}(hg:o.guard=none)(t:TypeId)(parts:Array (Nat×Operand))(ho:o.op= .build t parts)(cells:Array Value)
 (hb:P.built t (parts.map fun(i,x)=>(i,a.eval x)).toList=some cells)(h:wpList P ops Q rest (a.put o.dst (.agg cells)) w):wpList P ops Q (o::rest) a w:=
 wpList_build hg t parts ho (by rw[hb];rfl) (by rw[hb];exact h)
theorem at_slot (n:Nat){P:Program}{ops:Array Oper}{Q:Exit→Act→World→Prop}{rest:List Oper}{a:Act}{w:World}{op:Op}{ty:TypeId}{pos:String}{af:Array Edge}{gd:Option (Nat×Bool)}
 (h:wpList P ops Q (⟨some n,op,ty,pos,af,gd⟩::rest) a w):wpList P ops Q (⟨some n,op,ty,pos,af,gd⟩::rest) a w:=h
theorem at_store (x y:Operand){P:Program}{ops:Array Oper}{Q:Exit→Act→World→Prop}{rest:List Oper}{a:Act}{w:World}{t ty:TypeId}{pos:String}{af:Array Edge}{gd:Option (Nat×Bool)}
 (h:wpList P ops Q (⟨none,.store t x y,ty,pos,af,gd⟩::rest) a w):wpList P ops Q (⟨none,.store t x y,ty,pos,af,gd⟩::rest) a w:=h
theorem headInfo:(Tryz.prog.info? 78).map (·.size)=some 91:=by kernel_rfl
theorem rheadInfo:(Tryz.prog.info? 126).map (·.size)=some 90:=by kernel_rfl
theorem idInfo:(Tryz.prog.info? 62).map (·.size)=some 16:=by kernel_rfl
def HD.plus (h:HD)(d:Int):HD:={h with N:=fun i=>if i<20 then h.N i else d}
theorem cells_info (h:HD):(Tryz.prog.info? 78).map (·.size)=some (h.cells 21).toArray.size:=by rw[headInfo];simp[HD.len]
theorem zeros_size {h:HD}:Tryz.zeroCells78.size=(h.cells 21).toArray.size:=by rw[show Tryz.zeroCells78.size=91 by kernel_rfl];simp[HD.len]
attribute [local irreducible] HD.cells wpList Code.wp
end Gb
namespace Ma
open Bytes8 LeNum Ga
def put8 (b:List Int)(a:Nat)(v:Int):List Int:=over b a (lowB v 8)
theorem put8_len (b:List Int)(a:Nat)(v:Int)(h:a+8≤b.length):(put8 b a v).length=b.length:=over_len _ _ _ (by rw[lowB_len];exact h)
structure Kn where
 text:List Int
 at_:Nat
 slot:Nat
 count:Nat
 arrays:List Nat
structure Cf where
 F:Nat→Int
 M:Nat→Int
 S:Nat→Int
 ds:Nat
 fs:Nat
 most:Nat
 keyed:Bool
structure Mk where
 C:Cf
 h:HD
 depth:Nat
 b:List Int
 datas:List Kn
 fields:List Kn
 main:List Nat
def setN (h:HD)(i:Nat)(v:Int):HD:={h with N:=fun j=>if j=i then v else h.N j}
def Mk.object (m:Mk)(l:List Int):Mk:={m with b:=m.b++l,h:=setN (setN m.h 6 m.b.length) 7 (m.h.N 7+1)}
def inSlot (l:List Kn)(slot:Nat):Nat:=(l.filter fun k=>k.slot==slot).length
def lastIn (l:List Kn)(slot:Nat):Nat:=((l.filter fun k=>k.slot==slot).getLast?.map Kn.at_).getD 0
def hung (b:List Int)(l:List Kn)(table a slot:Nat):List Int:=
 put8 (if inSlot l slot=0 then put8 b (table+16*slot) a else put8 b (lastIn l slot+24) a) (table+16*slot+8) a
def roomN (k:Nat):Nat:=if k>6 then 256 else min (4*2^k) 256
def rooms (k:Nat):Nat:=((List.range k).map roomN).foldl (· + ·) 0
theorem rooms_succ (k:Nat):rooms (k+1)=rooms k+roomN k:=by simp[rooms,List.range_succ]
theorem inSlot_snoc (l:List Kn)(k:Kn)(slot:Nat):inSlot (l++ [k]) slot=inSlot l slot+if k.slot=slot then 1 else 0:=by
 unfold inSlot
 rw[List.filter_append,List.length_append]
 by_cases h:k.slot=slot
 ·simp[h]
 ·simp[h]
theorem lastIn_snoc (l:List Kn)(k:Kn)(slot:Nat):lastIn (l++ [k]) slot=if k.slot=slot then k.at_ else lastIn l slot:=by
 unfold lastIn
 rw[List.filter_append]
 by_cases h:k.slot=slot
 ·simp[h]
 ·simp[h]
theorem take_snoc_kn (l:List Kn)(i:Nat)(h:i<l.length):l.take (i+1)=l.take i++ [l[i]]:=by rw[List.take_succ_eq_append_getElem h]
end Ma
namespace Za
open Bytes8 LeNum Ob Ga Ma
structure O where
 k:Int
 ws:List Int
 tl:List Int
 g:Nat×Nat
def O.body (o:O):List Int:=nums o.ws++o.tl
def O.enc (o:O):List Int:=objB o.k o.body
def O.n (o:O):Nat:=o.enc.length
def O.setW (j:Nat)(v:Int)(o:O):O:={o with ws:=o.ws.set j v}
theorem O.body_len (o:O):o.body.length=8*o.ws.length+o.tl.length:=by unfold O.body;rw[List.length_append,nums_len]
theorem O.n_is (o:O):o.n=16+(8*o.ws.length+o.tl.length)+padN (8*o.ws.length+o.tl.length):=by
 unfold O.n O.enc
 rw[objB_len,O.body_len]
theorem O.n8 (o:O):o.n%8=0∧16≤o.n:=by
 rw[O.n_is]
 have:=padN_le (8*o.ws.length+o.tl.length)
 omega
theorem O.setW_n (j:Nat)(v:Int)(o:O):(o.setW j v).n=o.n:=by rw[O.n_is,O.n_is];simp[O.setW]
def enc (os:List O):List Int:=os.flatMap O.enc
theorem enc_cons (o:O)(os:List O):enc (o::os)=o.enc++enc os:=by simp[enc]
theorem enc_app (l m:List O):enc (l++m)=enc l++enc m:=by simp[enc]
theorem enc_one (o:O):enc [o]=o.enc:=by simp[enc]
def obj:Nat→List O→Nat→Option O
 |_,[],_=>none
 |s,o::os,a=>if a=s then some o else obj (s+o.n) os a
def upd:Nat→List O→Nat→(O→O)→List O
 |_,[],_,_=>[]
 |s,o::os,a,f=>if a=s then f o::os else o::upd (s+o.n) os a f
theorem obj_bd: ∀(os:List O) (s a:Nat) (o:O),obj s os a=some o→s≤a∧a+o.n≤s+(enc os).length
 | [],s,a,o,h=>by cases h
 |x::os,s,a,o,h=>by
  unfold obj at h
  rw[enc_cons,List.length_append]
  have hx:x.enc.length=x.n:=rfl
  by_cases e:a=s
  ·rw[if_pos e]at h
   injection h with h
   subst h
   omega
  ·rw[if_neg e]at h
   have:=obj_bd os (s+x.n) a o h
   omega
theorem obj_app: ∀(os:List O) (s a:Nat) (o:O),obj s (os++ [o]) a=if a=s+(enc os).length then some o else obj s os a
 | [],s,a,o=>by
   show(if a=s then some o else none)=_
   by_cases e:a=s
   ·rw[if_pos e,if_pos (by simpa [enc]using e)]
   ·rw[if_neg e,if_neg (by simpa [enc]using e)];rfl
 |x::os,s,a,o=>by
  have hx:x.enc.length=x.n:=rfl
  have h8:=x.n8
  show(if a=s then some x else obj (s+x.n) (os++ [o]) a)=if a=s+(enc (x::os)).length then some o else(if a=s then some x else obj (s+x.n) os a)
  rw[enc_cons,List.length_append,hx]
  by_cases e:a=s
  ·rw[if_pos e,if_neg (by omega),if_pos e]
  ·rw[if_neg e,if_neg e,obj_app os (s+x.n) a o,Nat.add_assoc]
theorem obj_upd {f:O→O}(hf: ∀o,(f o).n=o.n): ∀(os:List O) (s a x:Nat),obj s (upd s os a f) x=if x=a then(obj s os a).map f else obj s os x
 | [],s,a,x=>by
   show none=if x=a then none else none
   split<;>rfl
 |o::os,s,a,x=>by
  unfold upd
  by_cases e:a=s
  ·rw[if_pos e]
   show(if x=s then some (f o)else obj (s+(f o).n) os x)=if x=a then(if a=s then some o else obj (s+o.n) os a).map f else(if x=s then some o else obj (s+o.n) os x)
   rw[hf,if_pos e]
   by_cases e2:x=s
   ·rw[if_pos e2,if_pos (by omega)];rfl
   ·rw[if_neg e2,if_neg (by omega),if_neg e2]
  ·rw[if_neg e]
   show(if x=s then some o else obj (s+o.n) (upd (s+o.n) os a f) x)=if x=a then(if a=s then some o else obj (s+o.n) os a).map f else(if x=s then some o else obj (s+o.n) os x)
   rw[obj_upd hf os (s+o.n) a x,if_neg e]
   by_cases e2:x=s
   ·rw[if_pos e2,if_neg (by omega),if_pos e2]
   ·rw[if_neg e2,if_neg e2]
theorem upd_mem {f:O→O}: ∀(os:List O) (s a:Nat) (x:O),x∈upd s os a f→x∈os∨ ∃o,obj s os a=some o∧x=f o
 | [],s,a,x,h=>by cases h
 |o::os,s,a,x,h=>by
  unfold upd at h
  unfold obj
  split at h
  ·next e=>
   rw[if_pos e]
   rcases List.mem_cons.1 h with h|h
   ·exact .inr ⟨o,rfl,h⟩
   ·exact .inl (List.mem_cons_of_mem _ h)
  ·next e=>
   rw[if_neg e]
   rcases List.mem_cons.1 h with h|h
   ·exact .inl (h▸List.mem_cons_self ..)
   ·rcases upd_mem os (s+o.n) a x h with h|h
    ·exact .inl (List.mem_cons_of_mem _ h)
    ·exact .inr h
theorem obj_mem: ∀(os:List O) (s a:Nat) (o:O),obj s os a=some o→o∈os
 | [],s,a,o,h=>by cases h
 |x::os,s,a,o,h=>by
  unfold obj at h
  split at h
  ·injection h with h;exact h▸List.mem_cons_self ..
  ·exact List.mem_cons_of_mem _ (obj_mem os _ a o h)
theorem obj_split: ∀(os:List O) (s a:Nat) (o:O),obj s os a=some o→ ∃p q,enc os=p++(o.enc++q)∧s+p.length=a
 | [],s,a,o,h=>by cases h
 |x::os,s,a,o,h=>by
  unfold obj at h
  by_cases e:a=s
  ·rw[if_pos e]at h
   injection h with h
   subst h
   exact⟨[],enc os,by rw[enc_cons];rfl,e.symm⟩
  ·rw[if_neg e]at h
   obtain⟨p,q,h1,h2⟩:=obj_split os (s+x.n) a o h
   have hx:x.enc.length=x.n:=rfl
   exact⟨x.enc++p,q,by rw[enc_cons,h1,List.append_assoc],by rw[List.length_append];omega⟩
theorem obj_8: ∀(os:List O) (s a:Nat) (o:O),s%8=0→obj s os a=some o→a%8=0
 | [],s,a,o,_,h=>by cases h
 |x::os,s,a,o,h8,h=>by
  unfold obj at h
  have:=x.n8
  split at h
  ·omega
  ·exact obj_8 os (s+x.n) a o (by omega) h
theorem over_left (x y:List Int)(i:Nat)(l:List Int)(h:i+l.length≤x.length):over (x++y) i l=over x i l++y:=by
 unfold over
 rw[List.take_append_of_le_length (by omega),List.drop_append_of_le_length (by omega)]
 simp
theorem over_right (x y:List Int)(n i:Nat)(l:List Int)(hn:n=x.length+i):over (x++y) n l=x++over y i l:=by
 subst hn
 unfold over
 rw[List.take_append,List.take_of_length_le (by omega),show x.length+i-x.length=i by omega,List.drop_append,List.drop_of_length_le (by omega),show x.length+i+l.length-x.length=i+l.length by omega]
 simp
theorem nums_set: ∀(ws:List Int) (j:Nat) (v:Int),j<ws.length→nums (ws.set j v)=over (nums ws) (8*j) (lowB v 8)
 | [],j,v,h=>by simp at h
 |w::ws,0,v,h=>by
  show nums (v::ws)=_
  rw[nums_cons,nums_cons]
  unfold over
  rw[Nat.mul_zero,List.take_zero,List.nil_append,Nat.zero_add,lowB_len,List.drop_append,lowB_len,Nat.sub_self,List.drop_zero,List.drop_of_length_le (by rw[lowB_len];exact Nat.le_refl _),List.nil_append]
 |w::ws,j+1,v,h=>by
  show nums (w::ws.set j v)=_
  rw[nums_cons,nums_cons,nums_set ws j v (by simpa using h)]
  exact(over_right (lowB w 8) (nums ws) (8*(j+1)) (8*j) (lowB v 8) (by rw[lowB_len];omega)).symm
theorem O.setW_enc (o:O)(j:Nat)(v:Int)(h:j<o.ws.length):(o.setW j v).enc=over o.enc (16+8*j) (lowB v 8):=by
 have e1:(o.setW j v).body=over (nums o.ws) (8*j) (lowB v 8)++o.tl:=by
  show nums (o.ws.set j v)++o.tl=_
  rw[nums_set _ _ _ h]
 have e2:(o.setW j v).body.length=o.body.length:=by rw[O.body_len,O.body_len];simp[O.setW]
 unfold O.enc objB
 rw[e2]
 show front o.k _++_=_
 rw[over_right (front o.k o.body.length) _ (16+8*j) (8*j) _ (by rw[front_len]),e1]
 congr 1
 unfold O.body
 rw[List.append_assoc,List.append_assoc,over_left (nums o.ws) _ (8*j) _ (by rw[lowB_len,nums_len];omega)]
theorem enc_setW: ∀(os:List O) (s a:Nat) (o:O) (j:Nat) (v:Int),obj s os a=some o→j<o.ws.length→enc (upd s os a (O.setW j v))=over (enc os) (a-s+16+8*j) (lowB v 8)
 | [],s,a,o,j,v,h,_=>by cases h
 |x::os,s,a,o,j,v,h,hj=>by
  have hx:x.enc.length=x.n:=rfl
  unfold obj at h
  unfold upd
  by_cases e:a=s
  ·rw[if_pos e]at h⊢
   injection h with h
   subst h
   rw[enc_cons,enc_cons,O.setW_enc _ _ _ hj,e,Nat.sub_self,Nat.zero_add,over_left _ _ _ _ (by
    rw[lowB_len]
    have:=x.n_is
    omega)]
  ·rw[if_neg e]at h⊢
   have hb:=obj_bd _ _ _ _ h
   rw[enc_cons,enc_cons,enc_setW os (s+x.n) a o j v h hj,over_right x.enc (enc os) (a-s+16+8*j) (a-(s+x.n)+16+8*j) _ (by omega)]
structure Rep (b:List Int)(os:List O):Prop where
 len:272≤b.length
 eq:b.drop 272=enc os
theorem Rep.size {b:List Int}{os:List O}(h:Rep b os):b.length=272+(enc os).length:=by
 have h1:=congrArg List.length h.eq
 have:=h.len
 rw[List.length_drop]at h1
 omega
theorem Rep.is {b:List Int}{os:List O}(h:Rep b os):b=b.take 272++enc os:=by rw[←h.eq,List.take_append_drop]
theorem Rep.put {b:List Int}{os:List O}(h:Rep b os){a x j:Nat}{o:O}(ho:obj 272 os a=some o)(hj:j<o.ws.length)(hx:x=a+16+8*j)(v:Int):Rep (put8 b x v) (upd 272 os a (O.setW j v)):=by
 have hb:=obj_bd _ _ _ _ ho
 have hn:=o.n_is
 have hs:=h.size
 have hl:(put8 b x v).length=b.length:=put8_len _ _ _ (by omega)
 have ht:(b.take 272).length=272:=by rw[List.length_take];omega
 refine⟨by rw[hl];exact h.len,?_⟩
 have e:put8 b x v=b.take 272++over (enc os) (a-272+16+8*j) (lowB v 8):=by
  conv=>lhs;rw[h.is]
  exact over_right _ _ _ _ _ (by rw[ht];omega)
 rw[e,enc_setW os 272 a o j v ho hj,List.drop_append,ht,Nat.sub_self,List.drop_zero,List.drop_of_length_le (by omega),List.nil_append]
theorem Rep.front {b:List Int}{os:List O}(h:Rep b os){x:Nat}(hx:x+8≤272)(v:Int):Rep (put8 b x v) os:=by
 have hl:(put8 b x v).length=b.length:=put8_len _ _ _ (by have:=h.len;omega)
 have ht:(b.take 272).length=272:=by rw[List.length_take];have:=h.len;omega
 refine⟨by rw[hl];exact h.len,?_⟩
 have e:put8 b x v=over (b.take 272) x (lowB v 8)++enc os:=by
  conv=>lhs;rw[h.is]
  exact over_left _ _ _ _ (by rw[lowB_len,ht];exact hx)
 have ht2:(over (b.take 272) x (lowB v 8)).length=272:=by rw[over_len _ _ _ (by rw[lowB_len,ht];exact hx),ht]
 rw[e,List.drop_append,ht2,Nat.sub_self,List.drop_zero,List.drop_of_length_le (by omega),List.nil_append]
theorem Rep.push {b:List Int}{os:List O}(h:Rep b os)(o:O):Rep (b++o.enc) (os++ [o]):=by
 refine⟨by rw[List.length_append];have:=h.len;omega,?_⟩
 rw[List.drop_append_of_le_length h.len,h.eq,enc_app,enc_one]
structure O.Ok (o:O):Prop where
 k:1≤o.k∧o.k≤7
 ws:I64 o.ws
 tl:AllB o.tl
 n:o.body.length≤900000
theorem O.Ok.setW {o:O}(h:o.Ok)(j:Nat){v:Int}(hv:0≤v∧v≤18446744073709551615):(o.setW j v).Ok:=
 {k:=h.k
  ws:=fun x hx=>by
   rcases List.mem_or_eq_of_mem_set hx with h1|h1
   ·exact h.ws x h1
   ·exact h1▸hv
  tl:=h.tl
  n:=by
   have e2:(o.setW j v).body.length=o.body.length:=by rw[O.body_len,O.body_len];simp[O.setW]
   rw[e2];exact h.n}
theorem read_at {l hd:List Int}{os:List O}(hl:l=hd++enc os)(hh:hd.length=272){a:Nat}{o:O}(ho:obj 272 os a=some o)(hk:o.Ok):
 code l a=0∧kindL l a=o.k∧sizeL l a=(16+o.body.length:Nat)∧bodyL l a=o.body:=by
 obtain⟨p,q,h1,h2⟩:=obj_split _ _ _ _ ho
 have h8:=obj_8 _ _ _ _ (by decide) ho
 have e:l=(hd++p)++(objB o.k o.body++q):=by rw[hl,h1,List.append_assoc];rfl
 rw[e]
 exact put_read (hd++p) q o.body o.k a (by rw[List.length_append];omega) h8 hk.k.1 hk.k.2 (by have:=hk.n;omega)
theorem body_w {o:O}(hk:o.Ok)(i:Nat)(hi:i<o.ws.length):u8 o.body (8*i)=o.ws.getD i 0:=by
 unfold O.body
 refine u8_nums _ _ i hi ?_
 have e:o.ws.getD i 0=o.ws[i]:=by simp[List.getElem?_eq_getElem hi]
 rw[e]
 exact hk.ws _ (List.getElem_mem hi)
end Za
end Go.Proofs.YtjecmgkmcfkcjaaGreat
