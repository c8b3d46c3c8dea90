/-
  Texts beneath the proof.
-/
import Derived.Deep.Grids
import Derived.Test.YtjecmgkmcfkcjaaGreatQd2
set_option linter.unusedVariables false
set_option linter.unusedSimpArgs false
set_option maxRecDepth 100000
set_option maxHeartbeats 4000000
open Go.ChangeShapes Go.WideShapes Go.ChangeAt Go.RowKit
namespace Go.Proofs.YtjecmgkmcfkcjaaGreat
namespace Ob
open Bytes8 LeNum
def I64 (l:List Int):Prop:= ∀v∈l,0≤v∧v≤18446744073709551615
def nums (l:List Int):List Int:=l.flatMap fun v=>lowB v 8
theorem nums_nil:nums []=[]:=rfl
theorem nums_cons (v:Int)(l:List Int):nums (v::l)=lowB v 8++nums l:=by simp[nums]
theorem nums_app (l m:List Int):nums (l++m)=nums l++nums m:=by simp[nums]
theorem nums_one (v:Int):nums [v]=lowB v 8:=by simp[nums]
theorem nums_snoc (l:List Int)(v:Int):nums (l++ [v])=nums l++lowB v 8:=by rw[nums_app,nums_one]
theorem nums_len (l:List Int):(nums l).length=8*l.length:=by
 induction l with
 |nil=>rfl
 |cons v r ih=>rw[nums_cons,List.length_append,lowB_len,ih,List.length_cons];omega
theorem nums_take (l:List Int)(k:Nat)(hk:k<l.length):nums (l.take (k+1))=nums (l.take k)++lowB (l.getD k 0) 8:=by
 rw[take_snoc l k hk,nums_snoc]
def u8 (l:List Int)(a:Nat):Int:=leNum ((l.drop a).take 8)
theorem u8_bd {l:List Int}(h:AllB l)(a:Nat):0≤u8 l a∧u8 l a≤18446744073709551615:=by
 have h1:=leNum_bound ((l.drop a).take 8) ((h.drop a).take 8)
 have h2:((l.drop a).take 8).length≤8:=by simp;omega
 have h3:=pow_le64 _ h2
 unfold u8
 omega
theorem u8_nums (l m:List Int)(i:Nat)(hi:i<l.length)(hb:0≤l.getD i 0∧l.getD i 0≤18446744073709551615):u8 (nums l++m) (8*i)=l.getD i 0:=by
 induction l generalizing i with
 |nil=>simp at hi
 |cons v r ih=>
  cases i with
  |zero=>
   have e:v=(v::r).getD 0 0:=rfl
   rw[←e]at hb⊢
   unfold u8
   rw[nums_cons,List.append_assoc,Nat.mul_zero,List.drop_zero,List.take_append_of_le_length (by rw[lowB_len];exact Nat.le_refl _),List.take_of_length_le (by rw[lowB_len];exact Nat.le_refl _),leNum_lowB]
   have:(256:Int)^8=18446744073709551616:=rfl
   omega
  |succ i=>
   have e:(v::r).getD (i+1) 0=r.getD i 0:=rfl
   rw[e]at hb⊢
   have:=ih i (by simpa using hi) hb
   rw[←this]
   unfold u8
   rw[nums_cons,List.append_assoc,show 8*(i+1)=(lowB v 8).length+8*i by rw[lowB_len];omega,List.drop_append,List.drop_of_length_le (by omega)]
   simp
theorem u8_app (p l:List Int)(n a:Nat)(hn:p.length=n):u8 (p++l) (n+a)=u8 l a:=by
 subst hn
 unfold u8
 rw[List.drop_append,List.drop_of_length_le (by omega)]
 simp
def padN (n:Nat):Nat:=(8-n%8)%8
theorem padN_le (n:Nat):padN n≤7∧(n+padN n)%8=0:=by unfold padN;omega
def front (k:Int)(n:Nat):List Int:=[k,0,0,0,0,0,0,0]++lowB ((16+n:Nat):Int) 8
theorem front_len (k:Int)(n:Nat):(front k n).length=16:=by simp[front,lowB_len]
def objB (k:Int)(body:List Int):List Int:=front k body.length++(body++List.replicate (padN body.length) 0)
theorem objB_len (k:Int)(body:List Int):(objB k body).length=16+body.length+padN body.length:=by simp[objB,front_len];omega
def code (l:List Int)(a:Nat):Int:=
 if a%8≠0 then 3
 else if l.length<a+16 then 2
 else if l.getD a 0<1∨7<l.getD a 0 then 4
 else if l.getD (a+1) 0≠0 then 7
 else if u8 l (a+8)<16 then 5
 else if(l.length:Int)<a+u8 l (a+8)then 2
 else 0
theorem code_fine {l:List Int}{a:Nat}(h:code l a=0):a%8=0∧a+16≤l.length∧1≤l.getD a 0∧l.getD a 0≤7∧l.getD (a+1) 0=0∧16≤u8 l (a+8)∧(a:Int)+u8 l (a+8)≤l.length:=by
 unfold code at h
 repeat' split at h
 all_goals first|(exact absurd h (by decide))|(rename_i h1 h2 h3 h4 h5 h6;omega)
def kindL (l:List Int)(a:Nat):Int:=if code l a=0 then l.getD a 0 else 0
def sizeL (l:List Int)(a:Nat):Int:=if code l a=0 then u8 l (a+8)else 0
def bodyL (l:List Int)(a:Nat):List Int:=(l.drop (a+16)).take ((sizeL l a).toNat-16)
def bcode (l:List Int)(a:Nat)(k:Int)(n:Nat):Int:=
 if code l a≠0 then code l a else if kindL l a≠k then 4 else if(bodyL l a).length≤8*n then 5 else 0
def bnum (l:List Int)(a:Nat)(k:Int)(n i:Nat):Int:=if bcode l a k n=0 then u8 (bodyL l a) (8*i)else 0
def bpay (l:List Int)(a:Nat)(k:Int)(n:Nat):List Int:=if bcode l a k n=0 then(bodyL l a).drop (8*n)else []
theorem body_len {l:List Int}{a:Nat}(h:code l a=0):((bodyL l a).length:Int)=sizeL l a-16:=by
 have hf:=code_fine h
 unfold bodyL sizeL
 rw[if_pos h]
 simp
 omega
end Ob
namespace Ha
open Hm
theorem up_any (x k:Int)(w:World)(h0:0≤x)(h1:x≤18446744073709551615)(k0:0≤k)(k1:k≤63):
 Calls Tryz.prog 221 #[.int .u64 x,.int .u64 k] w fun e w'=>e= .returned (.int .u64 (rot64 x k))∧w=w':=by
 go_enter Tryz.func221,Tryz.ntmps221
 go_wp2
 go_ret
 exact⟨rfl,rfl⟩
end Ha
namespace LeP
open LeA
theorem size8:(Tryz.prog.info? 5).map (·.size)=some 1:=by kernel_rfl
theorem fits_parts {len:Nat}{at1 n:Int}(h:fits len at1 n=true):1≤n∧n≤8∧0≤at1∧at1+n≤len:=by
 simp[fits,isW]at h
 omega
theorem isW_bd {n:Int}(h:isW n=true):1≤n∧n≤8:=by
 simp[isW]at h
 omega
end LeP
namespace Ha
open LeNum Hm
theorem and63 (k:Int)(k0:0≤k)(k1:k≤63):bits BinOp.and .u64 k 63=k:=by
 obtain⟨n,rfl⟩:=Int.eq_ofNat_of_zero_le k0
 have e:(63:Int)=((63:Nat):Int):=rfl
 rw[e,LeNum.bits_and_u64_nat n 63 (by omega) (by decide)]
 have:=Nat.and_two_pow_sub_one_eq_mod n 6
 simp at this
 rw[this]
 omega
theorem rotl64 (x k:Int)(w:World)(h0:0≤x)(h1:x≤18446744073709551615)(k0:0≤k)(k1:k≤63):
 Calls Tryz.prog 232 #[.int .u64 x,.int .i64 k] w fun e w'=>e= .returned (.int .u64 (rot64 x k))∧w=w':=by
 have h:=and63 k k0 k1
 go_enter Tryz.func232,Tryz.ntmps232
 go_wp2
 go_ret
 exact⟨rfl,rfl⟩
end Ha
namespace Do8
open Go.ChangeShapes Go.WideShapes Go.ChangeAt Go.RowKit Go.Deep
open Bytes8
section
variable {H : Type} {enc : TypeId × Value → H} {P : Program} {w : World} {base : Nat} {held : Bool}
structure DoV where
 kind:Int
 at_:Int
 n:Int
 A1:Option Addr
 L1:Nat
 C1:Nat
 Z1:List Int
 A2:Option Addr
 L2:Nat
 C2:Nat
 K:Nat→Bool
instance:Inhabited DoV:=⟨⟨0,0,0,none,0,0,[],none,0,0,fun _=>false⟩⟩
end
end Do8
namespace OwnE
open Bytes8 Blk8 Own8
structure Elt (E S:TypeId)(size bytes:Nat)(z:Value):Prop where
 under:Tryz.prog.underlying S=some (.slice E)
 info:(Tryz.prog.info? E).map (fun i=>(i.zero,i.size,i.bytes))=some (some z,size,bytes)
 zero:z.cells.size=size
 pos:0<size
def OwnE (E:TypeId)(size:Nat)(w:World)(base:Nat)(A:Option Addr)(n c:Nat)(xs:List Value):Prop:=
 base≤w.heap.size∧w.ownsRow base E size (.slice A n c) n xs
variable {E : TypeId} {size : Nat}
theorem OwnE.nil (w:World)(base:Nat)(h:base≤w.heap.size):OwnE E size w base none 0 0 []:=⟨h,World.ownsRow_nil _ _ _ _⟩
theorem OwnE.len {w:World}{base:Nat}{A:Option Addr}{n c:Nat}{xs:List Value}(h:OwnE E size w base A n c xs):xs.length=n*size:=h.2.1
theorem OwnE.lt {w:World}{base:Nat}{A:Option Addr}{n c:Nat}{xs:List Value}(h:OwnE E size w base A n c xs): ∀k,(Value.slice A n c).ownBlock=some k→base≤k∧k<w.heap.size:=h.2.lt
theorem OwnE.kept {w w':World}{base B:Nat}{A:Option Addr}{n c:Nat}{xs:List Value}(h:OwnE E size w base A n c xs)(hb:Below B w w')(hB:w.heap.size≤B):OwnE E size w' base A n c xs:=by
 refine⟨Nat.le_trans h.1 hb.size,h.2.1,?_⟩
 rcases h.2.2 with h1|⟨g,cap,cur,h1,h2,h3,h4⟩
 ·exact .inl h1
 ·refine .inr ⟨g,cap,cur,h1,h2,?_,h4⟩
  have hlt:g<w.heap.size:=by
   rcases Nat.lt_or_ge g w.heap.size with h|h
   ·exact h
   ·rw[Array.getElem?_eq_none h]at h3;cases h3
  rw[hb.block g (by omega)];exact h3
theorem OwnE.alloc {w:World}{base:Nat}{A:Option Addr}{n c:Nat}{xs:List Value}(h:OwnE E size w base A n c xs)(o:Obj):OwnE E size (w.alloc o) base A n c xs:=h.kept ((Below.refl _ _).alloc (Nat.le_refl _) o) (Nat.le_refl _)
theorem OwnE.drew {w:World}{base:Nat}{A:Option Addr}{n c:Nat}{xs:List Value}(h:OwnE E size w base A n c xs):OwnE E size w.drew base A n c xs:=h
theorem OwnE.cell {w:World}{base:Nat}{A:Option Addr}{n c:Nat}{xs:List Value}(h:OwnE E size w base A n c xs){i:Nat}(hi:i<xs.length):
 ∃g,A=some ⟨g,0,none⟩∧base≤g∧g<w.heap.size∧w.cell? ⟨g,i,none⟩=xs[i]? :=by
 obtain⟨hb,ho⟩:=h
 rcases ho.2 with⟨he,h0⟩|⟨g,cap,cur,hv,hbg,hg,_⟩
 ·have:=ho.1;subst h0;rw[Nat.zero_mul]at this;omega
 ·injection hv with h1 h2 h3
  subst h1
  have hlt:g<w.heap.size:=by
   rcases Nat.lt_or_ge g w.heap.size with h|h
   ·exact h
   ·rw[Array.getElem?_eq_none h]at hg;cases hg
  refine⟨g,rfl,hbg,hlt,?_⟩
  have:=ho.cells (g:=g) rfl i xs[i] (List.getElem?_eq_getElem hi)
  rw[add_none,Nat.zero_add]at this
  rw[this,List.getElem?_eq_getElem hi]
theorem run_append_elt {S:TypeId}{bytes:Nat}{z:Value}(he:Elt E S size bytes z)(w:World)(ty:TypeId)(base:Nat)(A:Option Addr)(n c:Nat)(xs:List Value)(ho:OwnE E size w base A n c xs)(ad:Addr)(m c2:Nat)(news:List Value)(hl:news.length=m*size)
 (hnews: ∀j u,news[j]? =some u→w.cell? (ad.add j)=some u)(h1: ∀u∈news,u.oneCell'=true)(h63:n+m≤4611686018427387904)(hbytes:(n+m)*bytes≤140737488355328):
 ∃A' c' w',(Builtin.append_ #[S,S] ty #[.slice A n c,.slice (some ad) m c2]).run Tryz.prog w= .ok (.slice A' (n+m) c') w'∧OwnE E size w' base A' (n+m) c' (xs++news)∧Below base w w':=by
 obtain⟨i,hi,hzz⟩:=Option.map_eq_some_iff.1 he.info
 simp only[Prod.mk.injEq]at hzz
 obtain⟨hz,hs,hby⟩:=hzz
 obtain⟨v',w',hr,h2,h3,_⟩:=run_append_own (P:=Tryz.prog) w base S ty E i z size bytes he.under hi hz hs hby he.zero he.pos _ n xs ho.2 ad m c2 news hl hnews h1 (by unfold maxLen;omega) hbytes ho.1
 have hbel:=below_grown h3 ho.1 (fun k hk=>(ho.lt k hk).1)
 rcases h2.2 with⟨rfl,h0⟩|⟨g,cap,cur,rfl,_⟩
 ·rw[h0]at h2⊢
  exact⟨none,0,w',hr,⟨Nat.le_trans ho.1 hbel.size,h2⟩,hbel⟩
 ·exact⟨_,_,w',hr,⟨Nat.le_trans ho.1 hbel.size,h2⟩,hbel⟩
theorem wp_append_elt {S:TypeId}{bytes:Nat}{z:Value}(he:Elt E S size bytes z){w:World}{o:Oper}{a:Act}{K:Act→World→Prop}{Q:Exit→Act→World→Prop}(s x:Operand)
 (hop:o.op= .call {callee:= .builtin .append,args:= #[s,x],argTypes:= #[S,S]})
 (base:Nat)(A:Option Addr)(n c:Nat)(xs:List Value)(hs:a.eval s= .slice A n c)(ho:OwnE E size w base A n c xs)(ad:Addr)(m c2:Nat)(news:List Value)(hx:a.eval x= .slice (some ad) m c2)(hl:news.length=m*size)
 (hnews: ∀j u,news[j]? =some u→w.cell? (ad.add j)=some u)(h1: ∀u∈news,u.oneCell'=true)(h63:n+m≤4611686018427387904)(hbytes:(n+m)*bytes≤140737488355328)
 (h: ∀A' c' w',OwnE E size w' base A' (n+m) c' (xs++news)→Below base w w'→K (a.put o.dst (.slice A' (n+m) c')) w'):o.wp Tryz.prog a w K Q:=by
 obtain⟨A',c',w',hr,h2,h3⟩:=run_append_elt he w o.type base A n c xs ho ad m c2 news hl hnews h1 h63 hbytes
 unfold Oper.wp execOp
 simp only[hop,resolve,invoke,builtin,Sem.run_bind,Sem.run_pure,Result.andThen_ok,List.map_toArray,List.map_cons,List.map_nil,hs,hx,hr]
 exact h A' c' w' h2 h3
theorem wpList_append_elt {S:TypeId}{bytes:Nat}{z:Value}(he:Elt E S size bytes z){w:World}{ops:Array Oper}{rest:List Oper}{o:Oper}{a:Act}{Q:Exit→Act→World→Prop}(hgd:o.guard=none)(s x:Operand)
 (hop:o.op= .call {callee:= .builtin .append,args:= #[s,x],argTypes:= #[S,S]})
 (base:Nat)(A:Option Addr)(n c:Nat)(xs:List Value)(hs:a.eval s= .slice A n c)(ho:OwnE E size w base A n c xs)(ad:Addr)(m c2:Nat)(news:List Value)(hx:a.eval x= .slice (some ad) m c2)(hl:news.length=m*size)
 (hnews: ∀j u,news[j]? =some u→w.cell? (ad.add j)=some u)(h1: ∀u∈news,u.oneCell'=true)(h63:n+m≤4611686018427387904)(hbytes:(n+m)*bytes≤140737488355328)
 (h: ∀A' c' w',OwnE E size w' base A' (n+m) c' (xs++news)→Below base w w'→wpList Tryz.prog ops Q rest (a.put o.dst (.slice A' (n+m) c')) w'):wpList Tryz.prog ops Q (o::rest) a w:=
 wpList_plain hgd fun _ hK=>wp_append_elt he s x hop base A n c xs hs ho ad m c2 news hx hl hnews h1 h63 hbytes fun A' c' w' h1 h2=>hK _ _ (h A' c' w' h1 h2)
theorem step_append_elt {S:TypeId}{bytes:Nat}{z:Value}(he:Elt E S size bytes z){w:World}{ops:Array Oper}{o:Oper}{a:Act}{K:Act→World→Prop}{Q:Exit→Act→World→Prop}{F:Prop}(hgd:o.guard=none)(s x:Operand)
 (hop:o.op= .call {callee:= .builtin .append,args:= #[s,x],argTypes:= #[S,S]})
 (base:Nat)(A:Option Addr)(n c:Nat)(xs:List Value)(hs:a.eval s= .slice A n c)(ho:OwnE E size w base A n c xs)(ad:Addr)(m c2:Nat)(news:List Value)(hx:a.eval x= .slice (some ad) m c2)(hl:news.length=m*size)
 (hnews: ∀j u,news[j]? =some u→w.cell? (ad.add j)=some u)(h1: ∀u∈news,u.oneCell'=true)(h63:n+m≤4611686018427387904)(hbytes:(n+m)*bytes≤140737488355328)
 (h: ∀A' c' w',OwnE E size w' base A' (n+m) c' (xs++news)→Below base w w'→K (a.put o.dst (.slice A' (n+m) c')) w'):
 if Region.wanted o (yielded ops a.tmps)=true then Oper.wp Tryz.prog o a w K Q else F:=by
 have hw:Region.wanted o (yielded ops a.tmps)=true:=by simp[Region.wanted,hgd]
 rw[if_pos hw]
 exact wp_append_elt he s x hop base A n c xs hs ho ad m c2 news hx hl hnews h1 h63 hbytes h
theorem Blk.news {w:World}{g:Nat}{vs:List Value}{T:TypeId}(h:Blk w g vs T): ∀j u,vs[j]? =some u→w.cell? ((⟨g,0,none⟩:Addr).add j)=some u:=fun j u hj=>by
 rw[add_none,Nat.zero_add];exact h.cell hj
def cutA (A:Option Addr)(cap lo:Nat):Option Addr:=if cap=lo then A else A.map (·.add lo)
theorem cutA_some (b off cap lo:Nat):cutA (some ⟨b,off,none⟩) cap lo=if cap=lo then some ⟨b,off,none⟩else some ⟨b,off+lo,none⟩:=by
 unfold cutA
 split<;>simp[add_none]
theorem Bytes.cut {w:World}{A:Option Addr}{l:List Int}(h:Bytes w A l)(cap lo n:Nat)(hcap:l.length≤cap):Bytes w (cutA A cap lo) ((l.drop lo).take n):=by
 refine h.part lo n _ fun b off e hn hlo=>?_
 subst e
 rw[cutA_some,if_neg (by omega)]
theorem sliced_one (t:TypeId)(A:Option Addr)(len cap lo hi:Nat)(w:World)(hs:(sizeOf (Tryz.prog.elem t)).run Tryz.prog w= .ok 1 w)(ht:Tryz.prog.underlying t=some (.slice (Tryz.prog.elem t)))(h1:lo≤hi)(h2:hi≤cap):
 (Instr.slice t (.slice A len cap) (some (.int .i64 lo)) (some (.int .i64 hi)) none).run Tryz.prog w= .ok (.slice (cutA A cap lo) (hi-lo) (cap-lo)) w:=by
 rw[run_slice_lh w t A len cap ht .i64 .i64 lo hi (by omega) (by omega) (by omega),hs]
 simp[Result.andThen,sliced,cutA]
theorem sliced_low (t:TypeId)(A:Option Addr)(len cap lo:Nat)(w:World)(hs:(sizeOf (Tryz.prog.elem t)).run Tryz.prog w= .ok 1 w)(ht:Tryz.prog.underlying t=some (.slice (Tryz.prog.elem t)))(h1:lo≤len):
 (Instr.slice t (.slice A len cap) (some (.int .i64 lo)) none none).run Tryz.prog w= .ok (.slice (cutA A cap lo) (len-lo) (cap-lo)) w:=by
 rw[run_slice_l w t A len cap ht .i64 lo (by omega) (by omega),hs]
 simp[Result.andThen,sliced,cutA]
theorem elem8:Tryz.prog.elem 23=5:=by kernel_rfl
theorem sizeof8 (w:World):(sizeOf 5).run Tryz.prog w= .ok 1 w:=by
 obtain⟨i,hi,hzz⟩:=Option.map_eq_some_iff.1 info8
 simp only[Prod.mk.injEq]at hzz
 simp[sizeOf,typeInfo,hi,hzz]
theorem cut_lh (A:Option Addr)(len cap lo hi:Nat)(h1:lo≤hi)(h2:hi≤cap)(w:World):
 (Instr.slice 23 (.slice A len cap) (some (.int .i64 lo)) (some (.int .i64 hi)) none).run Tryz.prog w= .ok (.slice (cutA A cap lo) (hi-lo) (cap-lo)) w:=
 sliced_one _ A len cap lo hi w (by rw[elem8];exact sizeof8 w) (by rw[elem8];exact Tryz.underlying23) h1 h2
theorem cut_l (A:Option Addr)(len cap lo:Nat)(h1:lo≤len)(w:World):
 (Instr.slice 23 (.slice A len cap) (some (.int .i64 lo)) none none).run Tryz.prog w= .ok (.slice (cutA A cap lo) (len-lo) (cap-lo)) w:=
 sliced_low _ A len cap lo w (by rw[elem8];exact sizeof8 w) (by rw[elem8];exact Tryz.underlying23) h1
end OwnE
namespace OwnM
open Bytes8 Blk8 Own8
theorem own_cap {w:World}{base n c:Nat}{A:Option Addr}{l:List Int}(h:Own w base A n c l):n≤c∧c≤maxLen:=by
 rcases h.2.2.2.2 with⟨he,h0⟩|⟨g,cap,cur,he,_,_,h1,h2,_⟩
 ·injection he with e1 e2 e3;subst e3;exact⟨by omega,by decide⟩
 ·injection he with e1 e2 e3;subst e3;exact⟨h1,h2⟩
theorem blk_grown {w w':World}{b g:Nat}{vs:List Value}{T:TypeId}(h:Blk w b vs T)(hg:w.grownBy w' (some g))(hne:b≠g):Blk w' b vs T:=
 (hg.block b h.lt (by intro e;injection e with e;exact hne e)).trans h
end OwnM
namespace Rows2
open Bytes8 Blk8
def InRows (w:World)(a:Option Addr)(len:Nat)(A:Nat→Option Addr)(L C:Nat→Nat)(P:Nat→List Int):Prop:=
 ∀r,r<len→ ∃b off,a=some ⟨b,off,none⟩∧b<w.heap.size∧w.cell? ⟨b,off+r,none⟩=some (.slice (A r) (L r) (C r))∧Bytes w (A r) (P r)∧(P r).length=L r∧L r≤C r∧C r≤maxLen
theorem InRows.below {w w':World}{a:Option Addr}{len:Nat}{A:Nat→Option Addr}{L C:Nat→Nat}{P:Nat→List Int}(h:InRows w a len A L C P)(hb:Below w.heap.size w w'):InRows w' a len A L C P:=fun r hr=>by
 obtain⟨b,off,e,h1,h2,h3,h4⟩:=h r hr
 exact⟨b,off,e,Nat.lt_of_lt_of_le h1 hb.size,(hb.cell (p:=⟨b,off+r,none⟩) h1).trans h2,h3.below hb (Nat.le_refl _),h4⟩
def InInts (k:IntKind)(w:World)(a:Option Addr)(len:Nat)(f:Nat→Int):Prop:=
 ∀i,i<len→ ∃b off,a=some ⟨b,off,none⟩∧b<w.heap.size∧w.cell? ⟨b,off+i,none⟩=some (.int k (f i))∧(Lit.int k (f i)).wf=true
theorem InInts.below {k:IntKind}{w w':World}{a:Option Addr}{len:Nat}{f:Nat→Int}(h:InInts k w a len f)(hb:Below w.heap.size w w'):InInts k w' a len f:=fun i hi=>by
 obtain⟨b,off,e,h1,h2,h3⟩:=h i hi
 exact⟨b,off,e,Nat.lt_of_lt_of_le h1 hb.size,(hb.cell (p:=⟨b,off+i,none⟩) h1).trans h2,h3⟩
theorem ints_in {k:IntKind}{w:World}{a:Option Addr}{len cap:Nat}{zs:List Int}(h:IsRow k w a len cap zs):InInts k w a len (fun i=>zs.getD i 0)∧len≤cap∧cap≤maxLen:=by
 rcases h with⟨rfl,rfl,rfl,rfl⟩|⟨x,rfl,hl,hm,hz,hcell,hwz⟩
 ·exact⟨fun i hi=>absurd hi (by omega),Nat.le_refl _,by decide⟩
 ·refine⟨fun i hi=>?_,hl,hm⟩
  have hc:=hcell i (by omega)
  obtain⟨b,off,spot⟩:=x
  have hspot:spot=none:=by
   have h0:=hcell 0 (by omega)
   simpa [Addr.add]using World.cell?_spot h0
  subst hspot
  have hlt:=bounds_of_cell hc
  rw[add_none]at hc hlt
  refine⟨b,off,rfl,hlt,hc,hwz _ ?_⟩
  show zs.getD i 0∈zs
  rw[List.getD_eq_getElem?_getD,List.getElem?_eq_getElem (show i<zs.length by omega)]
  exact List.getElem_mem _
end Rows2
namespace Hb
open Blk8 Hm Ha
theorem mixed_any (x y z:Int)(w:World)(h:(⟨x,y,z⟩:Trio).ok):
 Calls Tryz.prog 208 #[.agg #[.int .u32 x,.int .u32 y,.int .u32 z]] w fun e w'=>e= .returned (trioV (mix ⟨x,y,z⟩))∧Below w.heap.size w w':=by
 obtain⟨⟨x0,x1⟩,⟨y0,y1⟩,⟨z0,z1⟩⟩:=h
 simp only at x0 x1 y0 y1 z0 z1
 go_enter Tryz.func208,Tryz.ntmps208
 go_wp2
 go_quiet (fail)
 go_wp2_with(go_at_call 224;(with_reducible refine(stirred_any _ _ _ _ (by first|assumption|exact(stir_bd _ _ _).1|omega) (by first|assumption|exact(stir_bd _ _ _).2|omega) (by decide) (by decide)).mono ?_);rintro e w' ⟨rfl,rfl⟩)
 refine bodyPost_ret (v:=trioV (mix ⟨x,y,z⟩)) (by simp[results,Tryz.results208,go_sem,trioV,mix,mix1,mix2,mix3,mix4,mix5,mix6,add32]) rfl ⟨rfl,?_⟩
 repeat (first|exact Below.refl _ _|refine Below.setCell ?_ (by simp) _|refine Below.alloc ?_ (by simp) _|refine below_drewN ?_ _)
theorem finished_any (x y z:Int)(w:World)(h:(⟨x,y,z⟩:Trio).ok):
 Calls Tryz.prog 209 #[.agg #[.int .u32 x,.int .u32 y,.int .u32 z]] w fun e w'=>e= .returned (trioV (fin ⟨x,y,z⟩))∧Below w.heap.size w w':=by
 obtain⟨⟨x0,x1⟩,⟨y0,y1⟩,⟨z0,z1⟩⟩:=h
 simp only at x0 x1 y0 y1 z0 z1
 go_enter Tryz.func209,Tryz.ntmps209
 go_wp2
 go_quiet (fail)
 go_wp2_with(go_at_call 225;(with_reducible refine(settled_any _ _ _ _ (by first|assumption|exact(setl_bd _ _ _).1|omega) (by first|assumption|exact(setl_bd _ _ _).2|omega) (by decide) (by decide)).mono ?_);rintro e w' ⟨rfl,rfl⟩)
 refine bodyPost_ret (v:=trioV (fin ⟨x,y,z⟩)) (by simp[results,Tryz.results209,go_sem,trioV,fin]) rfl ⟨rfl,?_⟩
 repeat (first|exact Below.refl _ _|refine Below.setCell ?_ (by simp) _|refine Below.alloc ?_ (by simp) _|refine below_drewN ?_ _)
end Hb
namespace He
open Bytes8 LeNum Hm
def part4 (l:List Int)(o k:Nat):Int:=leNum ((l.drop (o+k)).take (4-k))
theorem part4_bd (l:List Int)(o k:Nat)(h:AllB l):0≤part4 l o (k+1)∧part4 l o (k+1)≤16777215:=by
 have h1:=leNum_bound ((l.drop (o+(k+1))).take (4-(k+1))) ((h.drop _).take _)
 have hl:((l.drop (o+(k+1))).take (4-(k+1))).length≤3:=by
  have:=List.length_take_le (4-(k+1)) (l.drop (o+(k+1)))
  omega
 unfold part4
 generalize (l.drop (o+(k+1))).take (4-(k+1))=m at*
 have:(256:Int)^m.length≤16777216:=by
  generalize m.length=j at hl
  match j,hl with
  |0,_|1,_|2,_|3,_=>decide
 omega
theorem part4_in (l:List Int)(o k:Nat)(hk:k<4)(h:o+k<l.length):part4 l o k=part4 l o (k+1)*256+l.getD (o+k) 0:=by
 unfold part4
 have e1:l.drop (o+k)=l[o+k]::l.drop (o+k+1):=List.drop_eq_getElem_cons (by omega)
 have e2:4-k=(4-(k+1))+1:=by omega
 rw[e1,e2,List.take_succ_cons,leNum,Nat.add_assoc]
 have e3:l.getD (o+k) 0=l[o+k]:=by simp[List.getElem?_eq_getElem h]
 rw[e3]
 simp
 omega
theorem part4_out (l:List Int)(o k:Nat)(h:l.length≤o+k):part4 l o k=part4 l o (k+1)*256:=by
 unfold part4
 rw[List.drop_of_length_le h,List.drop_of_length_le (by omega:l.length≤o+(k+1))]
 simp[leNum]
theorem or32 (v c:Int)(h0:0≤v)(h1:v≤16777215)(c0:0≤c)(c1:c<256):bits .or .u32 (v*256) c=v*256+c:=
 bits_join .u32 32 (by decide) (fun n h0 h1=>by rw[IntKind.wrap_u32];omega) 8 (v*256) c (by omega) (by omega) (by omega) c0 (by omega) (by omega)
theorem word_any (A:Option Addr)(l:List Int)(len cap o:Nat)(w:World)(hb:Bytes w A l)(hL:l.length=len)(hmax:len≤1000000)(ho:o≤1000000):
 Calls Tryz.prog 201 #[.slice A len cap,.int .i64 o] w fun e w'=>e= .returned (.int .u32 (w4 l o))∧w=w':=by
 have HA:=Lib.hid hb.1
 have HC:=Lib.hid hb.2
 have HL:=Lib.hid hL
 clear hb hL
 go_enter Tryz.func201,Tryz.ntmps201
 go_wp2
 go_loop [5,6] (fun v i=> ∃k:Nat,k≤4∧i= .int .i64 ((k:Int)-1)∧v= .int .u32 (part4 l o k)) (fun _ i=>(intOf i+1).toNat)
 case atStart=>exact⟨4,Nat.le_refl _,rfl,by simp[part4,leNum]⟩
 case round=>
  obtain⟨k,hk,rfl,rfl⟩:=hrel
  cases k with
  |zero=>
   go_wp2
   go_ret
   exact⟨rfl,rfl⟩
  |succ k=>
   have e:((k+1:Nat):Int)-1=(k:Int):=by omega
   obtain⟨v0,v1⟩:=part4_bd l o k HA.out
   obtain⟨c0,c1⟩:=HA.out.at_ (o+k)
   rw[e]
   clear e
   by_cases hin:o+k<len
   ·have HS:=Lib.hid (part4_in l o k (by omega) (by have:=HL.out;omega))
    obtain⟨b,off,rfl,_,hcell⟩:=HC.out (o+k) (by have:=HL.out;omega)
    have HO:=Lib.hid (or32 (part4 l o (k+1)) (l.getD (o+k) 0) v0 v1 c0 c1)
    have hd:decide (o+k<len)=true:=by simpa using hin
    generalize part4 l o (k+1)=V at*
    generalize l.getD (o+k) 0=C at*
    go_wp2
    go_round
    case rel=>exact⟨k,by omega,by go_num,by rw[HS.out,HO.out]⟩
    case measure=>simp[intOf]
   ·have HS:=Lib.hid (part4_out l o k (by have:=HL.out;omega))
    have hd:decide (o+k<len)=false:=by simpa using hin
    generalize part4 l o (k+1)=V at*
    go_wp2
    go_round
    case rel=>exact⟨k,by omega,by go_num,by rw[HS.out]⟩
    case measure=>simp[intOf]
theorem leNum_app (l m:List Int):leNum (l++m)=leNum l+256^l.length*leNum m:=by
 induction l with
 |nil=>simp[leNum]
 |cons a r ih=>
  simp only[List.cons_append,leNum,ih,List.length_cons,Int.pow_succ]
  rw[Int.mul_add,←Int.mul_assoc,Int.mul_comm 256 (256^r.length)]
  omega
theorem w8_parts (l:List Int)(o:Nat):w8 l o=w4 l o+w4 l (o+4)*4294967296:=by
 unfold w8 w4
 have e:(l.drop o).take 8=(l.drop o).take 4++(l.drop (o+4)).take 4:=by
  rw[show(8:Nat)=4+4 from rfl,List.take_add,List.drop_drop]
 rw[e,leNum_app]
 by_cases h:o+4≤l.length
 ·rw[show((l.drop o).take 4).length=4 by simp;omega]
  omega
 ·rw[List.drop_of_length_le (by omega:l.length≤o+4)]
  simp[leNum]
theorem or64 (a b:Int)(a0:0≤a)(a1:a≤4294967295)(b0:0≤b)(b1:b≤4294967295):bits .or .u64 a (b*4294967296)=a+b*4294967296:=by
 have h:=bits_join .u64 64 (by decide) (fun n h0 h1=>by rw[IntKind.wrap_u64];omega) 32 (b*4294967296) a (by omega) (by omega) (by omega) a0 (by omega) (by omega)
 have hc:bits .or .u64 a (b*4294967296)=bits .or .u64 (b*4294967296) a:=by
  obtain⟨x,rfl⟩:=Int.eq_ofNat_of_zero_le a0
  obtain⟨y,hy⟩:=Int.eq_ofNat_of_zero_le (show 0≤b*4294967296 by omega)
  rw[hy,LeNum.bits_or_u64_nat x y (by omega) (by omega),LeNum.bits_or_u64_nat y x (by omega) (by omega),Nat.or_comm]
 rw[hc,h];omega
theorem word_at (A:Option Addr)(l:List Int)(len cap o:Nat)(i:Int)(hi:i=o)(w:World)(hb:Bytes w A l)(hL:l.length=len)(hmax:len≤1000000)(ho:o≤1000000):
 Calls Tryz.prog 201 #[.slice A len cap,.int .i64 i] w fun e w'=>e= .returned (.int .u32 (w4 l o))∧w=w':=by
 subst hi;exact word_any A l len cap o w hb hL hmax ho
end He
namespace He
open Bytes8 Hm
theorem eight_any (A:Option Addr)(l:List Int)(len cap o:Nat)(w:World)(hb:Bytes w A l)(hL:l.length=len)(hmax:len≤1000000)(ho:o≤900000):
 Calls Tryz.prog 199 #[.slice A len cap,.int .i64 o] w fun e w'=>e= .returned (.int .u64 (w8 l o))∧w=w':=by
 obtain⟨a0,a1⟩:=w4_bd l o hb.1
 obtain⟨b0,b1⟩:=w4_bd l (o+4) hb.1
 have HE:=Lib.hid ((or64 _ _ a0 a1 b0 b1).trans (w8_parts l o).symm)
 have H1:=Lib.hid (word_any A l len cap o w hb hL hmax (by omega))
 have H2:=Lib.hid (word_at A l len cap (o+4) ((o:Int)+4) (by omega) w hb hL hmax (by omega))
 clear hb hL
 generalize w4 l o=V at*
 generalize w4 l (o+4)=U at*
 go_enter Tryz.func199,Tryz.ntmps199
 go_wp2_with(first|(go_at_call 201;(with_reducible refine H1.out.mono ?_);rintro e w' ⟨rfl,rfl⟩)|(go_at_call 201;(with_reducible refine H2.out.mono ?_);rintro e w' ⟨rfl,rfl⟩))
 go_ret
 exact⟨ret_int HE.out,rfl⟩
end He
namespace Hf
open Bytes8 Hm Ha He
set_option maxRecDepth 100000 in
theorem rlook_nil (A:Option Addr)(cap:Nat)(w:World):
 Calls Tryz.prog 166 #[.slice A 0 cap] w fun e w'=>e= .returned (.int .u64 (lookS []))∧w=w':=by
 go_enter Tryz.func166,Tryz.ntmps166
 go_wp2
 go_ret
 exact⟨ret_int (by decide+kernel),rfl⟩
theorem wn (l:List Int)(A:Option Addr)(len cap o:Nat)(i:Int)(hi:i=o)(w:World)(h:Hid (Bytes w A l∧l.length=len))(hmax:len≤1000000)(ho:o≤1000000):
 Calls Tryz.prog 201 #[.slice A len cap,.int .i64 i] w fun e w'=>e= .returned (.int .u32 (w4 l o))∧w=w':=word_at A l len cap o i hi w h.out.1 h.out.2 hmax ho
set_option maxRecDepth 100000 in
theorem rlook_any (A:Option Addr)(l:List Int)(len cap:Nat)(w:World)(hb:Bytes w A l)(hL:l.length=len)(hpos:0<len)(hmax:len≤900000):
 Calls Tryz.prog 166 #[.slice A len cap] w fun e w'=>e= .returned (.int .u64 (lookS l))∧w=w':=by
 have HA:=Lib.hid hb.1
 have HS:=Lib.hid (show lookInit l=⟨3735928559+(len:Int),3735928559+(len:Int),3735928559+(len:Int)⟩by
  have e:add32 3735928559 (l.length:Int)=3735928559+(len:Int):=by unfold add32;omega
  unfold lookInit;rw[e])
 have HB:=Lib.hid (And.intro hb hL)
 have hne:((len:Int)==0)=false:=by simp;omega
 clear hb hL
 go_enter Tryz.func166,Tryz.ntmps166
 go_wp2
 go_loop [3,4,5,6] (fun x y z i=> ∃k o:Nat,Hid (o=12*k)∧o<len∧i= .int .i64 o∧x= .int .u32 (trioAt l k).x∧y= .int .u32 (trioAt l k).y∧z= .int .u32 (trioAt l k).z) (fun _ _ _ i=>len-(intOf i).toNat)
 case atStart=>exact⟨0,0,Lib.hid rfl,hpos,rfl,by show _=Value.int .u32 (lookInit l).x;rw[HS.out],by show _=Value.int .u32 (lookInit l).y;rw[HS.out],by show _=Value.int .u32 (lookInit l).z;rw[HS.out]⟩
 case round=>
  obtain⟨k,o,ho,hlt,rfl,rfl,rfl,rfl⟩:=hrel
  have HT:=Lib.hid (trioAt_ok l k)
  have H0:=Lib.hid (wn l A len cap o o rfl w HB (by omega) (by omega))
  have H4:=Lib.hid (wn l A len cap (o+4) ((o:Int)+4) (by omega) w HB (by omega) (by omega))
  have H8:=Lib.hid (wn l A len cap (o+8) ((o:Int)+8) (by omega) w HB (by omega) (by omega))
  have HN:=Lib.hid (show trioAt l (k+1)=mix (plus3 (trioAt l k) l o)by rw[ho.out];rfl)
  have HF:=Lib.hid (show ¬12<len-o→lookS l=ans (fin (plus3 (trioAt l k) l o))from fun h12=>by
   have HE:(l.length-1)/12=k:=by rw[HB.out.2];have:=ho.out;omega
   unfold lookS
   rw[if_neg (by intro h;have:=HB.out.2;rw[h]at this;simp at this;omega),HE,ho.out])
  generalize trioAt l k=T at*
  obtain⟨x,y,z⟩:=T
  obtain⟨⟨x0,x1⟩,⟨y0,y1⟩,⟨z0,z1⟩⟩:=HT.out
  simp only at x0 x1 y0 y1 z0 z1
  obtain⟨a0,a1⟩:=w4_bd l o HA.out
  obtain⟨b0,b1⟩:=w4_bd l (o+4) HA.out
  obtain⟨c0,c1⟩:=w4_bd l (o+8) HA.out
  by_cases h12:12<len-o
  ·have hd:decide ((12:Int)<(len:Int)-(o:Int))=true:=by simp;omega
   go_wp2_with(first|(go_at_call 201;(with_reducible refine H0.out.mono ?_);rintro e w' ⟨rfl,rfl⟩)|(go_at_call 201;(with_reducible refine H4.out.mono ?_);rintro e w' ⟨rfl,rfl⟩)|(go_at_call 201;(with_reducible refine H8.out.mono ?_);rintro e w' ⟨rfl,rfl⟩)|(go_at_call 202;(with_reducible refine(turn_any _ _ _ (by first|assumption|exact(b32 _ _ _).1|omega) (by first|assumption|exact(b32 _ _ _).2|omega) (by decide) (by decide)).mono ?_);rintro e w' ⟨rfl,rfl⟩))
   go_round
   case rel=>
    refine⟨k+1,o+12,Lib.hid (by have:=ho.out;omega),by omega,by go_num,?_,?_,?_⟩
    ·rw[HN.out];simp[mix,mix1,mix2,mix3,mix4,mix5,mix6,plus3,stir,add32]
    ·rw[HN.out];simp[mix,mix1,mix2,mix3,mix4,mix5,mix6,plus3,stir,add32]
    ·rw[HN.out];simp[mix,mix1,mix2,mix3,mix4,mix5,mix6,plus3,stir,add32]
   case measure=>simp[intOf];omega
  ·have hd:decide ((12:Int)<(len:Int)-(o:Int))=false:=by simp;omega
   have hS:=Lib.hid (HF.out h12)
   clear HN
   go_wp2_with(first|(go_at_call 201;(with_reducible refine H0.out.mono ?_);rintro e w' ⟨rfl,rfl⟩)|(go_at_call 201;(with_reducible refine H4.out.mono ?_);rintro e w' ⟨rfl,rfl⟩)|(go_at_call 201;(with_reducible refine H8.out.mono ?_);rintro e w' ⟨rfl,rfl⟩)|(go_at_call 202;(with_reducible refine(turn_any _ _ _ (by first|assumption|exact(b32 _ _ _).1|omega) (by first|assumption|exact(b32 _ _ _).2|omega) (by decide) (by decide)).mono ?_);rintro e w' ⟨rfl,rfl⟩))
   go_ret
   refine⟨ret_int ?_,rfl⟩
   rw[hS.out]
   simp[ans,fin,plus3,setl,add32]
end Hf
end Go.Proofs.YtjecmgkmcfkcjaaGreat
