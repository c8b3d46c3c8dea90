/-
  Texts beneath the proof.
-/
import Derived.Test.YtiddkgcafpaekaaGreatJq2
set_option linter.unusedVariables false
set_option linter.unusedSimpArgs false
set_option maxRecDepth 100000
set_option maxHeartbeats 4000000
open Go.ChangeShapes Go.WideShapes Go.ChangeAt Go.RowKit
namespace Go.Proofs.YtiddkgcafpaekaaGreat
namespace Ha
open LeNum Hm
theorem and63 (k:Int)(k0:0≤k)(k1:k≤63):bits BinOp.and .u64 k 63=k:=by
 obtain⟨n,rfl⟩:=Int.eq_ofNat_of_zero_le k0
 have e:(63:Int)=((63:Nat):Int):=rfl
 rw[e,LeNum.bits_and_u64_nat n 63 (by omega) (by decide)]
 have:=Nat.and_two_pow_sub_one_eq_mod n 6
 simp at this
 rw[this]
 omega
theorem rotl64 (x k:Int)(w:World)(h0:0≤x)(h1:x≤18446744073709551615)(k0:0≤k)(k1:k≤63):
 Calls Tryz.prog 249 #[.int .u64 x,.int .i64 k] w fun e w'=>e= .returned (.int .u64 (rot64 x k))∧w=w':=by
 have h:=and63 k k0 k1
 go_enter Tryz.func249,Tryz.ntmps249
 go_wp2
 go_ret
 exact⟨rfl,rfl⟩
end Ha
namespace OwnE
open Bytes8 Blk8 Own8
structure Elt (E S:TypeId)(size bytes:Nat)(z:Value):Prop where
 under:Tryz.prog.underlying S=some (.slice E)
 info:(Tryz.prog.info? E).map (fun i=>(i.zero,i.size,i.bytes))=some (some z,size,bytes)
 zero:z.cells.size=size
 pos:0<size
def OwnE (E:TypeId)(size:Nat)(w:World)(base:Nat)(A:Option Addr)(n c:Nat)(xs:List Value):Prop:=
 base≤w.heap.size∧w.ownsRow base E size (.slice A n c) n xs
variable {E : TypeId} {size : Nat}
theorem OwnE.nil (w:World)(base:Nat)(h:base≤w.heap.size):OwnE E size w base none 0 0 []:=⟨h,World.ownsRow_nil _ _ _ _⟩
theorem OwnE.len {w:World}{base:Nat}{A:Option Addr}{n c:Nat}{xs:List Value}(h:OwnE E size w base A n c xs):xs.length=n*size:=h.2.1
theorem OwnE.lt {w:World}{base:Nat}{A:Option Addr}{n c:Nat}{xs:List Value}(h:OwnE E size w base A n c xs): ∀k,(Value.slice A n c).ownBlock=some k→base≤k∧k<w.heap.size:=h.2.lt
theorem OwnE.kept {w w':World}{base B:Nat}{A:Option Addr}{n c:Nat}{xs:List Value}(h:OwnE E size w base A n c xs)(hb:Below B w w')(hB:w.heap.size≤B):OwnE E size w' base A n c xs:=by
 refine⟨Nat.le_trans h.1 hb.size,h.2.1,?_⟩
 rcases h.2.2 with h1|⟨g,cap,cur,h1,h2,h3,h4⟩
 ·exact .inl h1
 ·refine .inr ⟨g,cap,cur,h1,h2,?_,h4⟩
  have hlt:g<w.heap.size:=by
   rcases Nat.lt_or_ge g w.heap.size with h|h
   ·exact h
   ·rw[Array.getElem?_eq_none h]at h3;cases h3
  rw[hb.block g (by omega)];exact h3
theorem OwnE.alloc {w:World}{base:Nat}{A:Option Addr}{n c:Nat}{xs:List Value}(h:OwnE E size w base A n c xs)(o:Obj):OwnE E size (w.alloc o) base A n c xs:=h.kept ((Below.refl _ _).alloc (yR _) o) (yR _)
theorem OwnE.drew {w:World}{base:Nat}{A:Option Addr}{n c:Nat}{xs:List Value}(h:OwnE E size w base A n c xs):OwnE E size w.drew base A n c xs:=h
theorem OwnE.cell {w:World}{base:Nat}{A:Option Addr}{n c:Nat}{xs:List Value}(h:OwnE E size w base A n c xs){i:Nat}(hi:i<xs.length):
 ∃g,A=some ⟨g,0,none⟩∧base≤g∧g<w.heap.size∧w.cell? ⟨g,i,none⟩=xs[i]? :=by
 obtain⟨hb,ho⟩:=h
 rcases ho.2 with⟨he,h0⟩|⟨g,cap,cur,hv,hbg,hg,_⟩
 ·have:=ho.1;subst h0;rw[Nat.zero_mul]at this;omega
 ·injection hv with h1 h2 h3
  subst h1
  have hlt:g<w.heap.size:=by
   rcases Nat.lt_or_ge g w.heap.size with h|h
   ·exact h
   ·rw[Array.getElem?_eq_none h]at hg;cases hg
  refine⟨g,rfl,hbg,hlt,?_⟩
  have:=ho.cells (g:=g) rfl i xs[i] (List.getElem?_eq_getElem hi)
  rw[add_none,Nat.zero_add]at this
  rw[this,List.getElem?_eq_getElem hi]
theorem run_append_elt {S:TypeId}{bytes:Nat}{z:Value}(he:Elt E S size bytes z)(w:World)(ty:TypeId)(base:Nat)(A:Option Addr)(n c:Nat)(xs:List Value)(ho:OwnE E size w base A n c xs)(ad:Addr)(m c2:Nat)(news:List Value)(hl:news.length=m*size)
 (hnews: ∀j u,news[j]? =some u→w.cell? (ad.add j)=some u)(h1: ∀u∈news,u.oneCell'=true)(h63:n+m≤4611686018427387904)(hbytes:(n+m)*bytes≤140737488355328):
 ∃A' c' w',(Builtin.append_ #[S,S] ty #[.slice A n c,.slice (some ad) m c2]).run Tryz.prog w= .ok (.slice A' (n+m) c') w'∧OwnE E size w' base A' (n+m) c' (xs++news)∧Below base w w':=by
 obtain⟨i,hi,hzz⟩:=Option.map_eq_some_iff.1 he.info
 simp only[Prod.mk.injEq]at hzz
 obtain⟨hz,hs,hby⟩:=hzz
 obtain⟨v',w',hr,h2,h3,_⟩:=run_append_own (P:=Tryz.prog) w base S ty E i z size bytes he.under hi hz hs hby he.zero he.pos _ n xs ho.2 ad m c2 news hl hnews h1 (by unfold maxLen;omega) hbytes ho.1
 have hbel:=below_grown h3 ho.1 (fun k hk=>(ho.lt k hk).1)
 rcases h2.2 with⟨rfl,h0⟩|⟨g,cap,cur,rfl,_⟩
 ·rw[h0]at h2⊢
  exact⟨none,0,w',hr,⟨Nat.le_trans ho.1 hbel.size,h2⟩,hbel⟩
 ·exact⟨_,_,w',hr,⟨Nat.le_trans ho.1 hbel.size,h2⟩,hbel⟩
theorem wp_append_elt {S:TypeId}{bytes:Nat}{z:Value}(he:Elt E S size bytes z){w:World}{o:Oper}{a:Act}{K:Act→World→Prop}{Q:Exit→Act→World→Prop}(s x:Operand)
 (hop:o.op= .call {callee:= .builtin .append,args:= #[s,x],argTypes:= #[S,S]})
 (base:Nat)(A:Option Addr)(n c:Nat)(xs:List Value)(hs:a.eval s= .slice A n c)(ho:OwnE E size w base A n c xs)(ad:Addr)(m c2:Nat)(news:List Value)(hx:a.eval x= .slice (some ad) m c2)(hl:news.length=m*size)
 (hnews: ∀j u,news[j]? =some u→w.cell? (ad.add j)=some u)(h1: ∀u∈news,u.oneCell'=true)(h63:n+m≤4611686018427387904)(hbytes:(n+m)*bytes≤140737488355328)
 (h: ∀A' c' w',OwnE E size w' base A' (n+m) c' (xs++news)→Below base w w'→K (a.put o.dst (.slice A' (n+m) c')) w'):o.wp Tryz.prog a w K Q:=by
 obtain⟨A',c',w',hr,h2,h3⟩:=run_append_elt he w o.type base A n c xs ho ad m c2 news hl hnews h1 h63 hbytes
 unfold Oper.wp execOp
 simp only[hop,resolve,invoke,builtin,Sem.run_bind,Sem.run_pure,Result.andThen_ok,List.map_toArray,List.map_cons,List.map_nil,hs,hx,hr]
 exact h A' c' w' h2 h3
theorem wpList_append_elt {S:TypeId}{bytes:Nat}{z:Value}(he:Elt E S size bytes z){w:World}{ops:Array Oper}{rest:List Oper}{o:Oper}{a:Act}{Q:Exit→Act→World→Prop}(hgd:o.guard=none)(s x:Operand)
 (hop:o.op= .call {callee:= .builtin .append,args:= #[s,x],argTypes:= #[S,S]})
 (base:Nat)(A:Option Addr)(n c:Nat)(xs:List Value)(hs:a.eval s= .slice A n c)(ho:OwnE E size w base A n c xs)(ad:Addr)(m c2:Nat)(news:List Value)(hx:a.eval x= .slice (some ad) m c2)(hl:news.length=m*size)
 (hnews: ∀j u,news[j]? =some u→w.cell? (ad.add j)=some u)(h1: ∀u∈news,u.oneCell'=true)(h63:n+m≤4611686018427387904)(hbytes:(n+m)*bytes≤140737488355328)
 (h: ∀A' c' w',OwnE E size w' base A' (n+m) c' (xs++news)→Below base w w'→wpList Tryz.prog ops Q rest (a.put o.dst (.slice A' (n+m) c')) w'):wpList Tryz.prog ops Q (o::rest) a w:=
 wpList_plain hgd fun _ hK=>wp_append_elt he s x hop base A n c xs hs ho ad m c2 news hx hl hnews h1 h63 hbytes fun A' c' w' h1 h2=>hK _ _ (h A' c' w' h1 h2)
theorem Blk.news {w:World}{g:Nat}{vs:List Value}{T:TypeId}(h:Blk w g vs T): ∀j u,vs[j]? =some u→w.cell? ((⟨g,0,none⟩:Addr).add j)=some u:=fun j u hj=>by
 rw[add_none,Nat.zero_add];exact h.cell hj
def cutA (A:Option Addr)(cap lo:Nat):Option Addr:=if cap=lo then A else A.map (·.add lo)
theorem cutA_some (b off cap lo:Nat):cutA (some ⟨b,off,none⟩) cap lo=if cap=lo then some ⟨b,off,none⟩else some ⟨b,off+lo,none⟩:=by
 unfold cutA
 split<;>simp[add_none]
theorem Bytes.cut {w:World}{A:Option Addr}{l:List Int}(h:Bytes w A l)(cap lo n:Nat)(hcap:l.length≤cap):Bytes w (cutA A cap lo) ((l.drop lo).take n):=by
 refine h.part lo n _ fun b off e hn hlo=>?_
 subst e
 rw[cutA_some,if_neg (by omega)]
theorem sliced_one (t:TypeId)(A:Option Addr)(len cap lo hi:Nat)(w:World)(hs:(sizeOf (Tryz.prog.elem t)).run Tryz.prog w= .ok 1 w)(ht:Tryz.prog.underlying t=some (.slice (Tryz.prog.elem t)))(h1:lo≤hi)(h2:hi≤cap):
 (Instr.slice t (.slice A len cap) (some (.int .i64 lo)) (some (.int .i64 hi)) none).run Tryz.prog w= .ok (.slice (cutA A cap lo) (hi-lo) (cap-lo)) w:=by
 rw[run_slice_lh w t A len cap ht .i64 .i64 lo hi (by omega) (by omega) (by omega),hs]
 simp[Result.andThen,sliced,cutA]
theorem sliced_low (t:TypeId)(A:Option Addr)(len cap lo:Nat)(w:World)(hs:(sizeOf (Tryz.prog.elem t)).run Tryz.prog w= .ok 1 w)(ht:Tryz.prog.underlying t=some (.slice (Tryz.prog.elem t)))(h1:lo≤len):
 (Instr.slice t (.slice A len cap) (some (.int .i64 lo)) none none).run Tryz.prog w= .ok (.slice (cutA A cap lo) (len-lo) (cap-lo)) w:=by
 rw[run_slice_l w t A len cap ht .i64 lo (by omega) (by omega),hs]
 simp[Result.andThen,sliced,cutA]
theorem elem8:Tryz.prog.elem 24=5:=by kernel_rfl
theorem sizeof8 (w:World):(sizeOf 5).run Tryz.prog w= .ok 1 w:=by
 obtain⟨i,hi,hzz⟩:=Option.map_eq_some_iff.1 info8
 simp only[Prod.mk.injEq]at hzz
 simp[sizeOf,typeInfo,hi,hzz]
theorem cut_lh (A:Option Addr)(len cap lo hi:Nat)(h1:lo≤hi)(h2:hi≤cap)(w:World):
 (Instr.slice 24 (.slice A len cap) (some (.int .i64 lo)) (some (.int .i64 hi)) none).run Tryz.prog w= .ok (.slice (cutA A cap lo) (hi-lo) (cap-lo)) w:=
 sliced_one _ A len cap lo hi w (by rw[elem8];exact sizeof8 w) (by rw[elem8];exact Tryz.underlying24) h1 h2
theorem cut_l (A:Option Addr)(len cap lo:Nat)(h1:lo≤len)(w:World):
 (Instr.slice 24 (.slice A len cap) (some (.int .i64 lo)) none none).run Tryz.prog w= .ok (.slice (cutA A cap lo) (len-lo) (cap-lo)) w:=
 sliced_low _ A len cap lo w (by rw[elem8];exact sizeof8 w) (by rw[elem8];exact Tryz.underlying24) h1
end OwnE
namespace OwnM
open Bytes8 Blk8 Own8
theorem own_cap {w:World}{base n c:Nat}{A:Option Addr}{l:List Int}(h:Own w base A n c l):n≤c∧c≤maxLen:=by
 rcases h.2.2.2.2 with⟨he,h0⟩|⟨g,cap,cur,he,_,_,h1,h2,_⟩
 ·injection he with e1 e2 e3;subst e3;exact⟨by omega,by decide⟩
 ·injection he with e1 e2 e3;subst e3;exact⟨h1,h2⟩
theorem blk_grown {w w':World}{b g:Nat}{vs:List Value}{T:TypeId}(h:Blk w b vs T)(hg:w.grownBy w' (some g))(hne:b≠g):Blk w' b vs T:=
 (hg.block b h.lt (by intro e;injection e with e;exact hne e)).trans h
end OwnM
namespace Rows2
open Bytes8 Blk8
def InRows (w:World)(a:Option Addr)(len:Nat)(A:Nat→Option Addr)(L C:Nat→Nat)(P:Nat→List Int):Prop:=
 ∀r,r<len→ ∃b off,a=some ⟨b,off,none⟩∧b<w.heap.size∧w.cell? ⟨b,off+r,none⟩=some (.slice (A r) (L r) (C r))∧Bytes w (A r) (P r)∧(P r).length=L r∧L r≤C r∧C r≤maxLen
theorem InRows.below {w w':World}{a:Option Addr}{len:Nat}{A:Nat→Option Addr}{L C:Nat→Nat}{P:Nat→List Int}(h:InRows w a len A L C P)(hb:Below w.heap.size w w'):InRows w' a len A L C P:=fun r hr=>by
 obtain⟨b,off,e,h1,h2,h3,h4⟩:=h r hr
 exact⟨b,off,e,yL h1 hb.size,(hb.cell (p:=⟨b,off+r,none⟩) h1).trans h2,h3.below hb (yR _),h4⟩
def InInts (k:IntKind)(w:World)(a:Option Addr)(len:Nat)(f:Nat→Int):Prop:=
 ∀i,i<len→ ∃b off,a=some ⟨b,off,none⟩∧b<w.heap.size∧w.cell? ⟨b,off+i,none⟩=some (.int k (f i))∧(Lit.int k (f i)).wf=true
theorem InInts.below {k:IntKind}{w w':World}{a:Option Addr}{len:Nat}{f:Nat→Int}(h:InInts k w a len f)(hb:Below w.heap.size w w'):InInts k w' a len f:=fun i hi=>by
 obtain⟨b,off,e,h1,h2,h3⟩:=h i hi
 exact⟨b,off,e,yL h1 hb.size,(hb.cell (p:=⟨b,off+i,none⟩) h1).trans h2,h3⟩
theorem ints_in {k:IntKind}{w:World}{a:Option Addr}{len cap:Nat}{zs:List Int}(h:IsRow k w a len cap zs):InInts k w a len (fun i=>zs.getD i 0)∧len≤cap∧cap≤maxLen:=by
 rcases h with⟨rfl,rfl,rfl,rfl⟩|⟨x,rfl,hl,hm,hz,hcell,hwz⟩
 ·exact⟨fun i hi=>absurd hi (by omega),yR _,by decide⟩
 ·refine⟨fun i hi=>?_,hl,hm⟩
  have hc:=hcell i (by omega)
  obtain⟨b,off,spot⟩:=x
  have hspot:spot=none:=by
   have h0:=hcell 0 (by omega)
   simpa [Addr.add]using World.cell?_spot h0
  subst hspot
  have hlt:=bounds_of_cell hc
  rw[add_none]at hc hlt
  refine⟨b,off,rfl,hlt,hc,hwz _ ?_⟩
  show zs.getD i 0∈zs
  rw[List.getD_eq_getElem?_getD,List.getElem?_eq_getElem (show i<zs.length by omega)]
  exact List.getElem_mem _
end Rows2
namespace Hb
open Blk8 Hm Ha
theorem mixed_any (x y z:Int)(w:World)(h:(⟨x,y,z⟩:Trio).ok):
 Calls Tryz.prog 176 #[.agg #[.int .u32 x,.int .u32 y,.int .u32 z]] w fun e w'=>e= .returned (trioV (mix ⟨x,y,z⟩))∧Below w.heap.size w w':=by
 obtain⟨⟨x0,x1⟩,⟨y0,y1⟩,⟨z0,z1⟩⟩:=h
 simp only at x0 x1 y0 y1 z0 z1
 go_enter Tryz.func176,Tryz.ntmps176
 go_wp2
 go_quiet (fail)
 go_wp2_with(go_at_call 216;(with_reducible refine(stirred_any _ _ _ _ (by first|assumption|exact(stir_bd _ _ _).1|omega) (by first|assumption|exact(stir_bd _ _ _).2|omega) (by decide) (by decide)).mono ?_);rintro e w' ⟨rfl,rfl⟩)
 refine bodyPost_ret (v:=trioV (mix ⟨x,y,z⟩)) (by simp[results,Tryz.results176,go_sem,trioV,mix,mix1,mix2,mix3,mix4,mix5,mix6,add32]) rfl ⟨rfl,?_⟩
 repeat (first|exact Below.refl _ _|refine Below.setCell ?_ (by simp) _|refine Below.alloc ?_ (by simp) _|refine below_drewN ?_ _)
theorem finished_any (x y z:Int)(w:World)(h:(⟨x,y,z⟩:Trio).ok):
 Calls Tryz.prog 177 #[.agg #[.int .u32 x,.int .u32 y,.int .u32 z]] w fun e w'=>e= .returned (trioV (fin ⟨x,y,z⟩))∧Below w.heap.size w w':=by
 obtain⟨⟨x0,x1⟩,⟨y0,y1⟩,⟨z0,z1⟩⟩:=h
 simp only at x0 x1 y0 y1 z0 z1
 go_enter Tryz.func177,Tryz.ntmps177
 go_wp2
 go_quiet (fail)
 go_wp2_with(go_at_call 217;(with_reducible refine(settled_any _ _ _ _ (by first|assumption|exact(setl_bd _ _ _).1|omega) (by first|assumption|exact(setl_bd _ _ _).2|omega) (by decide) (by decide)).mono ?_);rintro e w' ⟨rfl,rfl⟩)
 refine bodyPost_ret (v:=trioV (fin ⟨x,y,z⟩)) (by simp[results,Tryz.results177,go_sem,trioV,fin]) rfl ⟨rfl,?_⟩
 repeat (first|exact Below.refl _ _|refine Below.setCell ?_ (by simp) _|refine Below.alloc ?_ (by simp) _|refine below_drewN ?_ _)
end Hb
namespace He
open Bytes8 LeNum Hm
def part4 (l:List Int)(o k:Nat):Int:=leNum ((l.drop (o+k)).take (4-k))
theorem part4_bd (l:List Int)(o k:Nat)(h:AllB l):0≤part4 l o (k+1)∧part4 l o (k+1)≤16777215:=by
 have h1:=leNum_bound ((l.drop (o+(k+1))).take (4-(k+1))) ((h.drop _).take _)
 have hl:((l.drop (o+(k+1))).take (4-(k+1))).length≤3:=by
  have:=List.length_take_le (4-(k+1)) (l.drop (o+(k+1)))
  omega
 unfold part4
 generalize (l.drop (o+(k+1))).take (4-(k+1))=m at*
 have:(256:Int)^m.length≤16777216:=by
  generalize m.length=j at hl
  match j,hl with
  |0,_|1,_|2,_|3,_=>decide
 omega
theorem part4_in (l:List Int)(o k:Nat)(hk:k<4)(h:o+k<l.length):part4 l o k=part4 l o (k+1)*256+l.getD (o+k) 0:=by
 unfold part4
 have e1:l.drop (o+k)=l[o+k]::l.drop (o+k+1):=List.drop_eq_getElem_cons (by omega)
 have e2:4-k=(4-(k+1))+1:=by omega
 rw[e1,e2,List.take_succ_cons,leNum,Nat.add_assoc]
 have e3:l.getD (o+k) 0=l[o+k]:=by simp[List.getElem?_eq_getElem h]
 rw[e3]
 simp
 omega
theorem part4_out (l:List Int)(o k:Nat)(h:l.length≤o+k):part4 l o k=part4 l o (k+1)*256:=by
 unfold part4
 rw[List.drop_of_length_le h,List.drop_of_length_le (by omega:l.length≤o+(k+1))]
 simp[leNum]
theorem or32 (v c:Int)(h0:0≤v)(h1:v≤16777215)(c0:0≤c)(c1:c<256):bits .or .u32 (v*256) c=v*256+c:=
 bits_join .u32 32 (by decide) (fun n h0 h1=>by rw[IntKind.wrap_u32];omega) 8 (v*256) c (by omega) (by omega) (by omega) c0 (by omega) (by omega)
theorem word_any (A:Option Addr)(l:List Int)(len cap o:Nat)(w:World)(hb:Bytes w A l)(hL:l.length=len)(hmax:len≤1000000)(ho:o≤1000000):
 Calls Tryz.prog 187 #[.slice A len cap,.int .i64 o] w fun e w'=>e= .returned (.int .u32 (w4 l o))∧w=w':=by
 have HA:=yH hb.1
 have HC:=yH hb.2
 have HL:=yH hL
 clear hb hL
 go_enter Tryz.func187,Tryz.ntmps187
 go_wp2
 go_loop [5,6] (fun v i=> ∃k:Nat,k≤4∧i= .int .i64 ((k:Int)-1)∧v= .int .u32 (part4 l o k)) (fun _ i=>(intOf i+1).toNat)
 case atStart=>exact⟨4,yR _,rfl,by simp[part4,leNum]⟩
 case round=>
  obtain⟨k,hk,rfl,rfl⟩:=hrel
  cases k with
  |zero=>
   go_wp2
   go_ret
   exact⟨rfl,rfl⟩
  |succ k=>
   have e:((k+1:Nat):Int)-1=(k:Int):=by omega
   obtain⟨v0,v1⟩:=part4_bd l o k HA.out
   obtain⟨c0,c1⟩:=HA.out.at_ (o+k)
   rw[e]
   clear e
   by_cases hin:o+k<len
   ·have HS:=yH (part4_in l o k (by omega) (by have:=HL.out;omega))
    obtain⟨b,off,rfl,_,hcell⟩:=HC.out (o+k) (by have:=HL.out;omega)
    have HO:=yH (or32 (part4 l o (k+1)) (l.getD (o+k) 0) v0 v1 c0 c1)
    have hd:decide (o+k<len)=true:=by simpa using hin
    generalize part4 l o (k+1)=V at*
    generalize l.getD (o+k) 0=C at*
    go_wp2
    go_round
    case rel=>exact⟨k,by omega,by go_num,by rw[HS.out,HO.out]⟩
    case measure=>simp[intOf]
   ·have HS:=yH (part4_out l o k (by have:=HL.out;omega))
    have hd:decide (o+k<len)=false:=by simpa using hin
    generalize part4 l o (k+1)=V at*
    go_wp2
    go_round
    case rel=>exact⟨k,by omega,by go_num,by rw[HS.out]⟩
    case measure=>simp[intOf]
theorem leNum_app (l m:List Int):leNum (l++m)=leNum l+256^l.length*leNum m:=by
 induction l with
 |nil=>simp[leNum]
 |cons a r ih=>
  simp only[List.cons_append,leNum,ih,List.length_cons,Int.pow_succ]
  rw[Int.mul_add,←Int.mul_assoc,Int.mul_comm 256 (256^r.length)]
  omega
theorem w8_parts (l:List Int)(o:Nat):w8 l o=w4 l o+w4 l (o+4)*4294967296:=by
 unfold w8 w4
 have e:(l.drop o).take 8=(l.drop o).take 4++(l.drop (o+4)).take 4:=by
  rw[show(8:Nat)=4+4 from rfl,List.take_add,List.drop_drop]
 rw[e,leNum_app]
 by_cases h:o+4≤l.length
 ·rw[show((l.drop o).take 4).length=4 by simp;omega]
  omega
 ·rw[List.drop_of_length_le (by omega:l.length≤o+4)]
  simp[leNum]
theorem or64 (a b:Int)(a0:0≤a)(a1:a≤4294967295)(b0:0≤b)(b1:b≤4294967295):bits .or .u64 a (b*4294967296)=a+b*4294967296:=by
 have h:=bits_join .u64 64 (by decide) (fun n h0 h1=>by rw[IntKind.wrap_u64];omega) 32 (b*4294967296) a (by omega) (by omega) (by omega) a0 (by omega) (by omega)
 have hc:bits .or .u64 a (b*4294967296)=bits .or .u64 (b*4294967296) a:=by
  obtain⟨x,rfl⟩:=Int.eq_ofNat_of_zero_le a0
  obtain⟨y,hy⟩:=Int.eq_ofNat_of_zero_le (show 0≤b*4294967296 by omega)
  rw[hy,LeNum.bits_or_u64_nat x y (by omega) (by omega),LeNum.bits_or_u64_nat y x (by omega) (by omega),Nat.or_comm]
 rw[hc,h];omega
theorem word_at (A:Option Addr)(l:List Int)(len cap o:Nat)(i:Int)(hi:i=o)(w:World)(hb:Bytes w A l)(hL:l.length=len)(hmax:len≤1000000)(ho:o≤1000000):
 Calls Tryz.prog 187 #[.slice A len cap,.int .i64 i] w fun e w'=>e= .returned (.int .u32 (w4 l o))∧w=w':=by
 subst hi;exact word_any A l len cap o w hb hL hmax ho
end He
namespace He
open Bytes8 Hm
theorem eight_any (A:Option Addr)(l:List Int)(len cap o:Nat)(w:World)(hb:Bytes w A l)(hL:l.length=len)(hmax:len≤1000000)(ho:o≤900000):
 Calls Tryz.prog 185 #[.slice A len cap,.int .i64 o] w fun e w'=>e= .returned (.int .u64 (w8 l o))∧w=w':=by
 obtain⟨a0,a1⟩:=w4_bd l o hb.1
 obtain⟨b0,b1⟩:=w4_bd l (o+4) hb.1
 have HE:=yH ((or64 _ _ a0 a1 b0 b1).trans (w8_parts l o).symm)
 have H1:=yH (word_any A l len cap o w hb hL hmax (by omega))
 have H2:=yH (word_at A l len cap (o+4) ((o:Int)+4) (by omega) w hb hL hmax (by omega))
 clear hb hL
 generalize w4 l o=V at*
 generalize w4 l (o+4)=U at*
 go_enter Tryz.func185,Tryz.ntmps185
 go_wp2_with(first|(go_at_call 187;(with_reducible refine H1.out.mono ?_);rintro e w' ⟨rfl,rfl⟩)|(go_at_call 187;(with_reducible refine H2.out.mono ?_);rintro e w' ⟨rfl,rfl⟩))
 go_ret
 exact⟨ret_int HE.out,rfl⟩
end He
namespace Hf
open Bytes8 Hm Ha He
set_option maxRecDepth 100000 in
theorem rlook_nil (A:Option Addr)(cap:Nat)(w:World):
 Calls Tryz.prog 152 #[.slice A 0 cap] w fun e w'=>e= .returned (.int .u64 (lookS []))∧w=w':=by
 go_enter Tryz.func152,Tryz.ntmps152
 go_wp2
 go_ret
 exact⟨ret_int (by decide+kernel),rfl⟩
theorem wn (l:List Int)(A:Option Addr)(len cap o:Nat)(i:Int)(hi:i=o)(w:World)(h:Hid (Bytes w A l∧l.length=len))(hmax:len≤1000000)(ho:o≤1000000):
 Calls Tryz.prog 187 #[.slice A len cap,.int .i64 i] w fun e w'=>e= .returned (.int .u32 (w4 l o))∧w=w':=word_at A l len cap o i hi w h.out.1 h.out.2 hmax ho
set_option maxRecDepth 100000 in
theorem rlook_any (A:Option Addr)(l:List Int)(len cap:Nat)(w:World)(hb:Bytes w A l)(hL:l.length=len)(hpos:0<len)(hmax:len≤900000):
 Calls Tryz.prog 152 #[.slice A len cap] w fun e w'=>e= .returned (.int .u64 (lookS l))∧w=w':=by
 have HA:=yH hb.1
 have HS:=yH (show lookInit l=⟨3735928559+(len:Int),3735928559+(len:Int),3735928559+(len:Int)⟩by
  have e:add32 3735928559 (l.length:Int)=3735928559+(len:Int):=by unfold add32;omega
  unfold lookInit;rw[e])
 have HB:=yH (And.intro hb hL)
 have hne:((len:Int)==0)=false:=by simp;omega
 clear hb hL
 go_enter Tryz.func152,Tryz.ntmps152
 go_wp2
 go_loop [3,4,5,6] (fun x y z i=> ∃k o:Nat,Hid (o=12*k)∧o<len∧i= .int .i64 o∧x= .int .u32 (trioAt l k).x∧y= .int .u32 (trioAt l k).y∧z= .int .u32 (trioAt l k).z) (fun _ _ _ i=>len-(intOf i).toNat)
 case atStart=>exact⟨0,0,yH rfl,hpos,rfl,by show _=Value.int .u32 (lookInit l).x;rw[HS.out],by show _=Value.int .u32 (lookInit l).y;rw[HS.out],by show _=Value.int .u32 (lookInit l).z;rw[HS.out]⟩
 case round=>
  obtain⟨k,o,ho,hlt,rfl,rfl,rfl,rfl⟩:=hrel
  have HT:=yH (trioAt_ok l k)
  have H0:=yH (wn l A len cap o o rfl w HB (by omega) (by omega))
  have H4:=yH (wn l A len cap (o+4) ((o:Int)+4) (by omega) w HB (by omega) (by omega))
  have H8:=yH (wn l A len cap (o+8) ((o:Int)+8) (by omega) w HB (by omega) (by omega))
  have HN:=yH (show trioAt l (k+1)=mix (plus3 (trioAt l k) l o)by rw[ho.out];rfl)
  have HF:=yH (show ¬12<len-o→lookS l=ans (fin (plus3 (trioAt l k) l o))from fun h12=>by
   have HE:(l.length-1)/12=k:=by rw[HB.out.2];have:=ho.out;omega
   unfold lookS
   rw[if_neg (by intro h;have:=HB.out.2;rw[h]at this;simp at this;omega),HE,ho.out])
  generalize trioAt l k=T at*
  obtain⟨x,y,z⟩:=T
  obtain⟨⟨x0,x1⟩,⟨y0,y1⟩,⟨z0,z1⟩⟩:=HT.out
  simp only at x0 x1 y0 y1 z0 z1
  obtain⟨a0,a1⟩:=w4_bd l o HA.out
  obtain⟨b0,b1⟩:=w4_bd l (o+4) HA.out
  obtain⟨c0,c1⟩:=w4_bd l (o+8) HA.out
  by_cases h12:12<len-o
  ·have hd:decide ((12:Int)<(len:Int)-(o:Int))=true:=by simp;omega
   go_wp2_with(first|(go_at_call 187;(with_reducible refine H0.out.mono ?_);rintro e w' ⟨rfl,rfl⟩)|(go_at_call 187;(with_reducible refine H4.out.mono ?_);rintro e w' ⟨rfl,rfl⟩)|(go_at_call 187;(with_reducible refine H8.out.mono ?_);rintro e w' ⟨rfl,rfl⟩)|(go_at_call 188;(with_reducible refine(turn_any _ _ _ (by first|assumption|exact(b32 _ _ _).1|omega) (by first|assumption|exact(b32 _ _ _).2|omega) (by decide) (by decide)).mono ?_);rintro e w' ⟨rfl,rfl⟩))
   go_round
   case rel=>
    refine⟨k+1,o+12,yH (by have:=ho.out;omega),by omega,by go_num,?_,?_,?_⟩
    ·rw[HN.out];simp[mix,mix1,mix2,mix3,mix4,mix5,mix6,plus3,stir,add32]
    ·rw[HN.out];simp[mix,mix1,mix2,mix3,mix4,mix5,mix6,plus3,stir,add32]
    ·rw[HN.out];simp[mix,mix1,mix2,mix3,mix4,mix5,mix6,plus3,stir,add32]
   case measure=>simp[intOf];omega
  ·have hd:decide ((12:Int)<(len:Int)-(o:Int))=false:=by simp;omega
   have hS:=yH (HF.out h12)
   clear HN
   go_wp2_with(first|(go_at_call 187;(with_reducible refine H0.out.mono ?_);rintro e w' ⟨rfl,rfl⟩)|(go_at_call 187;(with_reducible refine H4.out.mono ?_);rintro e w' ⟨rfl,rfl⟩)|(go_at_call 187;(with_reducible refine H8.out.mono ?_);rintro e w' ⟨rfl,rfl⟩)|(go_at_call 188;(with_reducible refine(turn_any _ _ _ (by first|assumption|exact(b32 _ _ _).1|omega) (by first|assumption|exact(b32 _ _ _).2|omega) (by decide) (by decide)).mono ?_);rintro e w' ⟨rfl,rfl⟩))
   go_ret
   refine⟨ret_int ?_,rfl⟩
   rw[hS.out]
   simp[ans,fin,plus3,setl,add32]
end Hf
namespace RefA
open Bytes8 LeA LeNum LeP
theorem down_step (l:List Int)(at1 n k:Nat)(hk:k<n)(h:at1+n≤l.length):
 leNum ((l.drop (at1+(k+1))).take (n-(k+1)))*256+l.getD (at1+k) 0=leNum ((l.drop (at1+k)).take (n-k)):=by
 have e1:l.drop (at1+k)=l[at1+k]::l.drop (at1+k+1):=List.drop_eq_getElem_cons (by omega)
 have e2:n-k=(n-(k+1))+1:=by omega
 rw[e1,e2,List.take_succ_cons,leNum,Nat.add_assoc]
 have e3:l.getD (at1+k) 0=l[at1+k]:=by simp[List.getElem?_eq_getElem (show at1+k<l.length by omega)]
 rw[e3]
 omega
theorem down_bound (l:List Int)(at1 n k:Nat)(hk:k<n)(hn:n≤8)(hA:AllB l):
 0≤leNum ((l.drop (at1+(k+1))).take (n-(k+1)))∧leNum ((l.drop (at1+(k+1))).take (n-(k+1)))≤72057594037927935:=by
 have h:=leNum_bound ((l.drop (at1+(k+1))).take (n-(k+1))) ((hA.drop _).take _)
 have hl:((l.drop (at1+(k+1))).take (n-(k+1))).length≤7:=by
  have:=List.length_take_le (n-(k+1)) (l.drop (at1+(k+1)))
  omega
 have h2:(256:Int)^((l.drop (at1+(k+1))).take (n-(k+1))).length≤256^7:=by
  generalize ((l.drop (at1+(k+1))).take (n-(k+1))).length=m at hl
  match m,hl with
  |0,_|1,_|2,_|3,_|4,_|5,_|6,_|7,_=>decide
 have e:(256:Int)^7=72057594037927936:=rfl
 omega
theorem rget_yes (a:Option Addr)(l:List Int)(cap:Nat)(at1 n:Nat)(w:World)(hl:l.length≤9223372036854775807)(hf:fits l.length at1 n=true)(hb:Bytes w a l):
 Calls Tryz.prog 150 #[.slice a l.length cap,.int .i64 at1,.int .i64 n] w fun e w'=>e= .returned (.tuple #[.int .u64 (leNum ((l.drop at1).take n)),.bool true])∧w=w':=by
 obtain⟨h1,h2,h3,h4⟩:=fits_parts hf
 have hr:n=1∨n=2∨n=4∨n=8:=by simp[fits,isW]at hf;omega
 obtain⟨b,off,rfl,hlt,hc⟩:=hb.spot (by omega)
 have HA:=yH hb.1
 have HC:=yH hc
 have h5:at1+n≤l.length:=by omega
 generalize hL:l.length=len at*
 have HL:=yH hL
 clear hL hb hc hf
 obtain⟨N,HN⟩: ∃N,Hid (N=n):=⟨_,rfl⟩
 rcases hr with rfl|rfl|rfl|rfl
 all_goals
  go_enter Tryz.func150,Tryz.ntmps150
  go_wp2
  go_loop [8,9] (fun v i=> ∃k:Nat,k≤N∧i= .int .i64 ((k:Int)-1)∧v= .int .u64 (leNum ((l.drop (at1+k)).take (N-k)))) (fun _ i=>(intOf i+1).toNat)
  case atStart=>exact⟨N,yR _,by rw[HN.out];rfl,by rw[Nat.sub_self];rfl⟩
  case round=>
   obtain⟨k,hk,rfl,rfl⟩:=hrel
   have hN:=HN.out
   cases k with
   |zero=>
    clear hN
    go_wp2
    go_ret2
    exact⟨ret_int_bool (by rw[HN.out]),rfl⟩
   |succ k=>
    have e:((k+1:Nat):Int)-1=(k:Int):=by omega
    have hk8:k<8:=by omega
    have hcell:=HC.out (at1+k) (by omega)
    obtain⟨c0,c1⟩:=HA.out.at_ (at1+k)
    obtain⟨v0,v1⟩:=down_bound l at1 N k (by omega) (by omega) HA.out
    have HS:=yH (down_step l at1 N k (by omega) (by have:=HL.out;omega))
    have hin:at1+k<len:=by omega
    rw[e]
    generalize leNum ((l.drop (at1+(k+1))).take (N-(k+1)))=V at*
    generalize l.getD (at1+k) 0=C at*
    clear hN e
    go_wp2
    go_round
    case rel=>exact⟨k,by omega,by go_num,by rw[←HS.out]⟩
    case measure=>simp[intOf]
end RefA
namespace Hc
open Bytes8 Blk8 LeNum LeB Hm Ha
theorem size8:(Tryz.prog.info? 5).map (·.size)=some 1:=by kernel_rfl
theorem spliced (l:List Int)(n:Nat)(h:l.length≤n):splice ((List.replicate n (0:Int)).map (Value.int .u8)) 0 (l.map (Value.int .u8))=(l++List.replicate (n-l.length) 0).map (Value.int .u8):=by
 simp[splice]
theorem drop_pad (l:List Int)(o m n:Nat):leNum (((l++List.replicate m 0).drop o).take n)=leNum ((l.drop o).take n):=by
 rw[List.drop_append,List.take_append]
 by_cases h:o≤l.length
 ·rw[show o-l.length=0 by omega,List.drop_zero,List.take_replicate]
  exact leNum_zeros _ _
 ·rw[List.drop_of_length_le (by omega:l.length≤o),List.drop_replicate,List.take_replicate]
  exact leNum_zeros _ _
theorem get12_0 (A:Option Addr)(m:List Int)(v:Int)(w:World)(hb:Bytes w A m)(hL:m.length=12)(hv:leNum ((m.drop 0).take 4)=v):
 Calls Tryz.prog 69 #[.slice A 12 12,.int .i64 0,.int .i64 4] w fun e w'=>e= .returned (.tuple #[.int .u64 v,.bool true])∧w=w':=by
 have h:=get_yes A m 12 0 4 w (by omega) (by rw[hL];decide) hb (by decide) (by decide) (by omega)
 rw[hL,hv]at h;exact h
theorem get12_4 (A:Option Addr)(m:List Int)(v:Int)(w:World)(hb:Bytes w A m)(hL:m.length=12)(hv:leNum ((m.drop 4).take 4)=v):
 Calls Tryz.prog 69 #[.slice A 12 12,.int .i64 4,.int .i64 4] w fun e w'=>e= .returned (.tuple #[.int .u64 v,.bool true])∧w=w':=by
 have h:=get_yes A m 12 4 4 w (by omega) (by rw[hL];decide) hb (by decide) (by decide) (by omega)
 rw[hL,hv]at h;exact h
theorem get12_8 (A:Option Addr)(m:List Int)(v:Int)(w:World)(hb:Bytes w A m)(hL:m.length=12)(hv:leNum ((m.drop 8).take 4)=v):
 Calls Tryz.prog 69 #[.slice A 12 12,.int .i64 8,.int .i64 4] w fun e w'=>e= .returned (.tuple #[.int .u64 v,.bool true])∧w=w':=by
 have h:=get_yes A m 12 8 4 w (by omega) (by rw[hL];decide) hb (by decide) (by decide) (by omega)
 rw[hL,hv]at h;exact h
theorem drop_pad4 (l:List Int)(o m:Nat):leNum (((l++List.replicate m 0).drop o).take 4)=w4 l o:=drop_pad l o m 4
theorem plus_any (x y z:Int)(a:Option Addr)(l:List Int)(len cap:Nat)(w:World)(hb:Bytes w a l)(hL:l.length=len)(hlen:len≤12)(ht:(⟨x,y,z⟩:Trio).ok):
 Calls Tryz.prog 175 #[.agg #[.int .u32 x,.int .u32 y,.int .u32 z],.slice a len cap] w fun e w'=>e= .returned (trioV (plus3 ⟨x,y,z⟩ l 0))∧Below w.heap.size w w':=by
 subst hL
 have HS:=yH hb.source
 have hA:=hb.1
 have hP:=spliced l 12 hlen
 obtain⟨p0,q0⟩:=w4_bd l 0 hA
 obtain⟨p4,q4⟩:=w4_bd l 4 hA
 obtain⟨p8,q8⟩:=w4_bd l 8 hA
 have HP:=yH hP
 have HA:=yH (hA.app (AllB.zeros (12-l.length)))
 have HL:=yH (show(l++List.replicate (12-l.length) (0:Int)).length=12 by simp;omega)
 have E0:=yH (drop_pad4 l 0 (12-l.length))
 have E4:=yH (drop_pad4 l 4 (12-l.length))
 have E8:=yH (drop_pad4 l 8 (12-l.length))
 generalize l++List.replicate (12-l.length) (0:Int)=m at*
 obtain⟨⟨x0,x1⟩,⟨y0,y1⟩,⟨z0,z1⟩⟩:=ht
 simp only at x0 x1 y0 y1 z0 z1
 clear hP hA hb
 go_enter Tryz.func175,Tryz.ntmps175
 go_wp2_with(refine wpList_copy_splice rfl (.tmp 12) (.tmp 13) 24 24 rfl 5 Tryz.underlying24 size8 _ _ _ _ _ _ rfl rfl (w.heap.size+1+1) 0 _ 332 (Blk.new_at _ ((List.replicate 12 (0:Int)).map (Value.int .u8)) _ _ (by simp)) (l.map (Value.int .u8)) ?hn ?hpos ?hfit ?h1 (w.heap.size+1+1) _ (Below.refl _ _) (yR _) ?_;rotate_right;intro w3 hrow3 hbel3)
 case hn=>simpa using(Nat.min_eq_left hlen).symm
 case hpos=>
  intro hp
  obtain⟨ad,e,h⟩:=HS.out _ ((((Below.refl _ _).alloc (yR _) _).alloc (by simp) _).alloc (by simp;omega) _) (by simpa using hp)
  refine⟨ad,e,fun j v hv=>?_⟩
  exact h j v hv
 case hfit=>simp;omega
 case h1=>intro v hv;obtain⟨x,_,rfl⟩:=List.mem_map.1 hv;rfl
 rw[HP.out]at hrow3
 have hB3:Bytes w3 (some ⟨w.heap.size+1+1,0,none⟩) m:=Blk.bytes hrow3.out HA.out
 have HB3:=yH hB3
 have c0:w3.cell? ⟨w.heap.size,0,none⟩=some (.int .u32 x):=(hbel3.cell (p:=⟨w.heap.size,0,none⟩) (by simp;omega)).trans (by go_simp)
 have c1:w3.cell? ⟨w.heap.size,1,none⟩=some (.int .u32 y):=(hbel3.cell (p:=⟨w.heap.size,1,none⟩) (by simp;omega)).trans (by go_simp)
 have c2:w3.cell? ⟨w.heap.size,2,none⟩=some (.int .u32 z):=(hbel3.cell (p:=⟨w.heap.size,2,none⟩) (by simp;omega)).trans (by go_simp)
 have d0:w3.cell? ⟨w.heap.size+1,0,none⟩=some (.int .u32 0):=(hbel3.cell (p:=⟨w.heap.size+1,0,none⟩) (by simp)).trans (by go_simp)
 have f0:w3.frozen? ⟨w.heap.size+1,0,none⟩=false:=(hbel3.frozen (p:=⟨w.heap.size+1,0,none⟩) (by simp)).trans (by go_simp)
 have d1:w3.cell? ⟨w.heap.size+1,1,none⟩=some (.int .u32 0):=(hbel3.cell (p:=⟨w.heap.size+1,1,none⟩) (by simp)).trans (by go_simp)
 have f1:w3.frozen? ⟨w.heap.size+1,1,none⟩=false:=(hbel3.frozen (p:=⟨w.heap.size+1,1,none⟩) (by simp)).trans (by go_simp)
 have d2:w3.cell? ⟨w.heap.size+1,2,none⟩=some (.int .u32 0):=(hbel3.cell (p:=⟨w.heap.size+1,2,none⟩) (by simp)).trans (by go_simp)
 have f2:w3.frozen? ⟨w.heap.size+1,2,none⟩=false:=(hbel3.frozen (p:=⟨w.heap.size+1,2,none⟩) (by simp)).trans (by go_simp)
 have hz:=hbel3.size
 simp at hz
 have HX:=yH hbel3
 clear hrow3 hB3 hbel3
 go_wp2_with(first|(go_at_call 69;(with_reducible refine(get12_0 _ _ (w4 l 0) _ HB3.out HL.out E0.out).mono ?_);rintro e w' ⟨rfl,rfl⟩)|(go_at_call 69;(with_reducible refine(get12_4 _ _ (w4 l 4) _ HB3.out HL.out E4.out).mono ?_);rintro e w' ⟨rfl,rfl⟩)|(go_at_call 69;(with_reducible refine(get12_8 _ _ (w4 l 8) _ HB3.out HL.out E8.out).mono ?_);rintro e w' ⟨rfl,rfl⟩))
 refine bodyPost_ret (v:=trioV (plus3 ⟨x,y,z⟩ l 0)) (by simp[results,Tryz.results175,go_sem,trioV,plus3,add32,d0,d1,d2]) rfl ⟨rfl,?_⟩
 have hb1:Below w.heap.size w w3:=((((Below.refl _ _).alloc (yR _) _).alloc (by simp) _).alloc (by simp;omega) _).trans (HX.out.mono (by omega))
 repeat (first|exact hb1|refine Below.setCell ?_ (by simp) _|refine Below.alloc ?_ (by simp) _|refine below_drewN ?_ _)
end Hc
namespace RefB
open Bytes8 Blk8 Own8 LeNum
theorem pow_succ_div (v:Int)(k:Nat):v/256^k/256=v/256^(k+1):=by
 rw[Int.pow_succ,Int.ediv_ediv_of_nonneg (Int.le_of_lt (Int.pow_pos (by decide)))]
theorem div_bound (v:Int)(k:Nat)(h0:0≤v)(h1:v≤18446744073709551615):0≤v/256^k∧v/256^k≤18446744073709551615:=by
 have hp:(0:Int)<256^k:=Int.pow_pos (by decide)
 have h2:0≤v/256^k:=Int.ediv_nonneg h0 (by omega)
 have h3:v/256^k≤v:=Int.ediv_le_self _ h0
 omega
theorem one_byte (x:Int):AllB [x%256]:=by
 intro y hy
 simp at hy
 omega
theorem rlow_any (v:Int)(n:Nat)(w:World)(h0:0≤v)(h1:v≤18446744073709551615)(hn:n≤8):
 Calls Tryz.prog 138 #[.int .u64 v,.int .i64 n] w fun e w'=> ∃A c,e= .returned (.slice A n c)∧Own w' w.heap.size A n c (lowB v n)∧Below w.heap.size w w':=by
 go_enter Tryz.func138,Tryz.ntmps138
 go_wp2
 go_loopw [0,5,6] (fun x s i wr=> ∃(k:Nat) (A:Option Addr) (c:Nat),k≤n∧i= .int .i64 k∧x= .int .u64 (v/256^k)∧s= .slice A k c∧Own wr w.heap.size A k c (lowB v k)∧Below w.heap.size w wr) (fun _ _ i _=>n-(intOf i).toNat)
 case atStart=>exact⟨0,none,0,Nat.zero_le _,rfl,by simp,rfl,Own.nil w _ (yR _),Below.refl _ _⟩
 case round=>
  obtain⟨k,A,c,hk,rfl,rfl,rfl,ho,hbel⟩:=hrel
  by_cases hlt:k<n
  ·obtain⟨x0,x1⟩:=div_bound v k h0 h1
   have HO:=yH ho
   have HP:=yH (pow_succ_div v k)
   have HS:=yH (lowB_succ v k)
   clear ho
   generalize v/256^k=x at*
   go_wp2_with(at_builtin;refine wpList_append_bytes rfl (.tmp 12) (.tmp 16) rfl w.heap.size A k c (lowB v k) rfl (HO.out.kept ((Below.refl _ _).alloc (yR _) _) (yR _)) (some ⟨wr.heap.size,0,none⟩) 1 1 [x%256] rfl (Row.bytes (Row.new wr [x%256]) (one_byte x)) rfl (by omega) ?_;intro A2 c2 w2 ho2 hbel2;have HO2:=yH ho2;clear ho2)
   go_roundw
   case rel=>exact⟨k+1,A2,c2,by omega,by go_num,by rw[HP.out],rfl,by rw[HS.out];exact HO2.out,(hbel.alloc hbel.size _).trans hbel2⟩
   case measure=>simp[intOf];omega
  ·obtain rfl:k=n:=by omega
   go_wp2
   go_ret
   exact⟨A,c,rfl,ho,hbel⟩
theorem rlow_at (v:Int)(n:Nat)(m:Int)(w:World)(h0:0≤v)(h1:v≤18446744073709551615)(hn:n≤8)(hm:m=n):
 Calls Tryz.prog 138 #[.int .u64 v,.int .i64 m] w fun e w'=> ∃A c,e= .returned (.slice A n c)∧Own w' w.heap.size A n c (lowB v n)∧Below w.heap.size w w':=by
 subst hm;exact rlow_any v n w h0 h1 hn
end RefB
namespace Oc
open Bytes8 Blk8 Own8 OwnE LeA LeNum LeB RefA RefB Ob
theorem own_row {w:World}{base g n:Nat}{l:List Int}(h:Row w g l)(hA:AllB l)(hg:base≤g)(hn:l.length=n)(hm:n≤maxLen):Own w base (some ⟨g,0,none⟩) n n l:=by
 have hlt:=h.lt
 refine⟨hA,hn,by omega,by simpa using hn,.inr ⟨g,n,_,rfl,hg,h,yR _,hm,by simpa using hn,?_⟩⟩
 rw[List.take_of_length_le (by simp;omega)]
abbrev NumsAt (w:World)(g:Nat)(l:List Int)(T:TypeId):Prop:=Blk w g (l.map (Value.int .u64)) T
theorem isKind_any (k:Int)(w:World):
 Calls Tryz.prog 70 #[.int .i64 k] w fun e w'=>e= .returned (.bool (decide (1≤k)&&decide (k≤7)))∧w=w':=by
 by_cases h:1≤k
 ·go_enter Tryz.func70,Tryz.ntmps70
  go_wp2
  go_ret
  exact⟨ret_bool (by rw[decide_eq_true h,Bool.true_and]),rfl⟩
 ·go_enter Tryz.func70,Tryz.ntmps70
  go_wp2
  go_ret
  exact⟨ret_bool (by rw[decide_eq_false (by omega: ¬1≤k),Bool.false_and]),rfl⟩
theorem rnums_any (g n cap:Nat)(l:List Int)(T:TypeId)(w:World)(hb:NumsAt w g l T)(hv:I64 l)(hn:l.length=n)(hmax:n≤1000):
 Calls Tryz.prog 139 #[.slice (some ⟨g,0,none⟩) n cap] w fun e w'=> ∃A c,e= .returned (.slice A (8*n) c)∧Own w' w.heap.size A (8*n) c (nums l)∧Below w.heap.size w w':=by
 have hlt:=hb.lt
 have HC:=yH fun(wr:World) (h:Below w.heap.size w wr) (k:Nat) (hk:k<n)=>(hb.below h hlt).cell (i:=k) (v:= .int .u64 (l.getD k 0)) (by
  have:k<l.length:=by omega
  simp[List.getElem?_eq_getElem this])
 have HL:=yH hn
 have HV:=yH fun k (hk:k<n)=>hv (l.getD k 0) (by
  have:k<l.length:=by omega
  simp[List.getElem?_eq_getElem this])
 clear hb hv hn
 go_enter Tryz.func139,Tryz.ntmps139
 go_wp2
 go_loopw [3,4] (fun s i wr=> ∃(k:Nat) (A:Option Addr) (c:Nat),k≤n∧i= .int .i64 (k:Int)∧s= .slice A (8*k) c∧Hid (Own wr w.heap.size A (8*k) c (nums (l.take k)))∧Hid (Below w.heap.size w wr)) (fun _ i _=>n-(intOf i).toNat)
 case atStart=>exact⟨0,none,0,Nat.zero_le _,rfl,rfl,Own.nil w _ (yR _),Below.refl _ _⟩
 case round=>
  obtain⟨k,A,c,hk,rfl,rfl,ho,hbel⟩:=hrel
  by_cases hlt2:k<n
  ·have hcell:=HC.out wr hbel.out k hlt2
   obtain⟨x0,x1⟩:=HV.out k hlt2
   have HN:=yH (nums_take l k (by rw[HL.out];exact hlt2))
   have hsz:=hbel.out.size
   generalize l.getD k 0=x at*
   have HLo:=yH fun(W:World)=>rlow_at x 8 8 W x0 x1 (by decide) rfl
   go_wp2_with(first|(go_at_call 138;(with_reducible refine(HLo.out _).mono ?_);rintro e w2 ⟨A2,c2,rfl,ho2,hbel2⟩;have HO2:=yH ho2;have HB2:=yH hbel2;clear ho2 hbel2)|(at_builtin;refine wpList_append_bytes rfl (.tmp 11) (.tmp 16) rfl w.heap.size A (8*k) c (nums (l.take k)) rfl (ho.out.kept HB2.out (yR _)) A2 8 c2 _ rfl HO2.out.bytes (lowB_len _ _) (by omega) ?_;intro A3 c3 w3 ho3 hbel3;have HO3:=yH ho3;have HB3:=yH hbel3;clear ho3 hbel3))
   go_roundw
   case rel=>
    refine⟨k+1,A3,c3,by omega,by go_num,rfl,?_,yH ((hbel.out.trans (HB2.out.mono hsz)).trans HB3.out)⟩
    rw[HN.out]
    exact HO3
   case measure=>simp[intOf];omega
  ·obtain rfl:k=n:=by omega
   have he:l.take k=l:=List.take_of_length_le (by rw[HL.out];exact yR _)
   rw[he]at ho
   clear he
   go_wp2
   go_ret
   exact⟨A,c,rfl,ho.out,hbel.out⟩
theorem fits8 (len i:Nat)(h:i+8≤len):fits len (i:Int) ((8:Nat):Int)=true:=by
 simp[fits,isW];omega
theorem get8 (a:Option Addr)(l:List Int)(n cap i:Nat)(z:Int)(w:World)(hz:z=(i:Int))(hL:l.length=n)(hn:n≤1000000)(hb:Bytes w a l)(hi:i+8≤n):
 Calls Tryz.prog 69 #[.slice a n cap,.int .i64 z,.int .i64 8] w fun e w'=>e= .returned (.tuple #[.int .u64 (u8 l i),.bool true])∧w=w':=by
 subst hz hL
 exact get_yes a l cap i 8 w (by omega) (fits8 _ _ (by omega)) hb (by decide) (by decide) (by omega)
theorem rget8 (a:Option Addr)(l:List Int)(n cap i:Nat)(z:Int)(w:World)(hz:z=(i:Int))(hL:l.length=n)(hn:n≤1000000)(hb:Bytes w a l)(hi:i+8≤n):
 Calls Tryz.prog 150 #[.slice a n cap,.int .i64 z,.int .i64 8] w fun e w'=>e= .returned (.tuple #[.int .u64 (u8 l i),.bool true])∧w=w':=by
 subst hz hL
 exact rget_yes a l cap i 8 w (by omega) (fits8 _ _ (by omega)) hb
theorem ru_any (A:Option Addr)(l:List Int)(n cap i:Nat)(w:World)(hb:Bytes w A l)(hL:l.length=n)(hn:n≤1000000)(hi:i+8≤n):
 Calls Tryz.prog 114 #[.slice A n cap,.int .u64 (i:Int)] w fun e w'=>e= .returned (.int .u64 (u8 l i))∧w=w':=by
 have HG:=yH fun(z:Int) (hz:z=(i:Int))=>rget8 A l n cap i z w hz hL hn hb hi
 generalize u8 l i=x at*
 clear hb hL
 go_enter Tryz.func114,Tryz.ntmps114
 go_wp2_with(go_at_call 150;(with_reducible refine(HG.out _ (by omega)).mono ?_);rintro e w' ⟨rfl,rfl⟩)
 go_ret
 exact⟨rfl,rfl⟩
end Oc
namespace Od
open Own8
def Owned (m:List Int)(n:Nat)(w:World)(e:Ending)(w':World):Prop:= ∃A c,e= .returned (.slice A n c)∧Own w' w.heap.size A n c m∧Below w.heap.size w w'
theorem Own.base {w:World}{b b2 n c:Nat}{A:Option Addr}{l:List Int}(h:Own w b A n c l)(hb:b2≤b):Own w b2 A n c l:=by
 obtain⟨h1,h2,h3,h4,h5⟩:=h
 refine⟨h1,h2,Nat.le_trans hb h3,h4,?_⟩
 rcases h5 with h|⟨g,cap,cur,e,h6,h7⟩
 ·exact .inl h
 ·exact .inr ⟨g,cap,cur,e,Nat.le_trans hb h6,h7⟩
end Od
end Go.Proofs.YtiddkgcafpaekaaGreat
