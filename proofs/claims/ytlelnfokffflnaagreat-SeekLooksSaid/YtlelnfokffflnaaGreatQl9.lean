/-
  Texts beneath the proof.
-/
import Derived.Test.YtlelnfokffflnaaGreatQl8
set_option linter.unusedVariables false
set_option linter.unusedSimpArgs false
set_option maxRecDepth 100000
set_option maxHeartbeats 4000000
open Go.ChangeShapes Go.WideShapes Go.ChangeAt Go.RowKit
namespace Go.Proofs.YtlelnfokffflnaaGreat
namespace Gd
open Bytes8 Ga Gb Gc
theorem index_one {P:Program}(t e:TypeId)(n:Nat)(c:Array Value)(i:Nat)(v:Value)(w:World)(l:P.underlying t=some (.array n e))(d:TypeDesc)(g:P.underlying e=some d)(q:(match d with| .struct _| .array _ _=>true|_=>false)=false)(hs:(P.info? e).map (·.size)=some 1)(j:i<n)(m:c[i]? =some v):
 (Instr.index t (.agg c) (.int .i64 (i:Int))).run P w= .ok v w:=by
 obtain⟨f,k,o⟩:=Option.map_eq_some_iff.1 hs
 have p:(0:Int)≤(i:Int)∧(i:Int)<(n:Int):=by omega
 have b:(isAgg e).run P w= .ok false w:=by
  unfold isAgg
  rw[Sem.run_bind,run_underlying g w]
  cases d<;>simp_all
 simp[Instr.index,run_underlying l,asIntOf,p,sizeOf,typeInfo,k,o,j,part,b,m]
theorem aL8 (g k:Nat)(b:k<4)(w:World):(Instr.index 130 (idsV g) (.int .i64 (k:Int))).run Tryz.prog w= .ok (.pointer (some ⟨g,3+16*k,none⟩)) w:=by
 refine index_one _ 129 4 _ k _ w Tryz.underlying130 _ Tryz.underlying129 rfl (by kernel_rfl) b ?_
 rcases k with _|_|_|_|k
 all_goals first|rfl|omega
theorem aJZ (g k:Nat)(b:k<21)(w:World):(Instr.index 134 (numsV g) (.int .i64 (k:Int))).run Tryz.prog w= .ok (.pointer (some ⟨g,67+k,none⟩)) w:=by
 refine index_one _ 133 21 _ k _ w Tryz.underlying134 _ Tryz.underlying133 rfl (by kernel_rfl) b ?_
 rcases k with _|_|_|_|_|_|_|_|_|_|_|_|_|_|_|_|_|_|_|_|_|k
 all_goals first|rfl|omega
attribute [local irreducible] HD.cells wpList Code.wp
end Gd
namespace Gf
open Bytes8 Blk8 Own8 Ga Gb
def endV (h:HD):Int:=if h.N 0+h.N 1≤18446744073709551615 then h.N 0+h.N 1 else 0
def endB (h:HD):Bool:=decide (h.N 0+h.N 1≤18446744073709551615)
theorem aG2 (x y:Int)(b:0≤x)(c:0≤y)(w:World):
 (callFunc 115 #[.int .u64 x,.int .u64 y,.int .u64 0]).run Tryz.prog w= .ok (.value (.tuple #[.int .u64 ((x+y)%18446744073709551616),.int .u64 ((x+y)/18446744073709551616)])) w:=by
 have h:=run_add64 (P:=Tryz.prog) x y 0 b c (by decide) (by decide) w
 rw[Int.add_zero]at h
 rw[run_callFunc_extern Tryz.func115 (by kernel_rfl) (by kernel_rfl) (by kernel_rfl) (e:=add64Entry) (by kernel_rfl),h]
 rfl
attribute [local irreducible] HD.cells wpList Code.wp
theorem aDi (h:HD)(d:h.Ok 21)(w:World):
 Calls Tryz.prog 57 #[.agg (h.cells 21).toArray] w fun e w'=>e= .returned (.tuple #[.int .u64 (endV h),.bool (endB h)])∧Below w.heap.size w w':=by
 have b0:=yH ((Below.refl w.heap.size w).alloc (yR _) (.cells (h.cells 21).toArray 39))
 have g:=yH (show Blk (w.alloc (.cells (h.cells 21).toArray 39)) w.heap.size (h.cells 21) 39 from Blk.new w _ _)
 obtain⟨f,i⟩:=d.N 0
 obtain⟨r0,r1⟩:=d.N 1
 have k:=HD.nums_at g.out 0 (by decide)
 have j:=HD.nums_at g.out 1 (by decide)
 by_cases b:h.N 0+h.N 1≤18446744073709551615
 ·rw[show endV h=h.N 0+h.N 1 from if_pos b,show endB h=true from decide_eq_true b]
  have c:=aG2 (h.N 0) (h.N 1) f r0
  rw[show(h.N 0+h.N 1)%18446744073709551616=h.N 0+h.N 1 by omega,show(h.N 0+h.N 1)/18446744073709551616=0 by omega]at c
  go_enter Tryz.func57,Tryz.ntmps57
  go_wp2
  go_ret2
  exact⟨rfl,b0.out⟩
 ·rw[show endV h=0 from if_neg b,show endB h=false from decide_eq_false b]
  have c:=aG2 (h.N 0) (h.N 1) f r0
  rw[show(h.N 0+h.N 1)/18446744073709551616=1 by omega]at c
  go_enter Tryz.func57,Tryz.ntmps57
  go_wp2
  go_ret2
  exact⟨rfl,b0.out⟩
theorem aI3 (h:HD)(c:h.Ok 20)(w:World):
 Calls Tryz.prog 91 #[.agg (h.cells 20).toArray] w fun e w'=>e= .returned (.tuple #[.int .u64 (endV h),.bool (endB h)])∧Below w.heap.size w w':=by
 have b0:=yH ((Below.refl w.heap.size w).alloc (yR _) (.cells (h.cells 20).toArray 99))
 have d:=yH (show Blk (w.alloc (.cells (h.cells 20).toArray 99)) w.heap.size (h.cells 20) 99 from Blk.new w _ _)
 obtain⟨j,g⟩:=c.N 0
 obtain⟨r0,r1⟩:=c.N 1
 have k:=HD.nums_at d.out 0 (by decide)
 have i:=HD.nums_at d.out 1 (by decide)
 by_cases b:h.N 0+h.N 1≤18446744073709551615
 ·rw[show endV h=h.N 0+h.N 1 from if_pos b,show endB h=true from decide_eq_true b]
  have f: ¬18446744073709551615-h.N 0<h.N 1:=by omega
  go_enter Tryz.func91,Tryz.ntmps91
  go_wp2
  go_ret2
  exact⟨rfl,b0.out⟩
 ·rw[show endV h=0 from if_neg b,show endB h=false from decide_eq_false b]
  have f:18446744073709551615-h.N 0<h.N 1:=by omega
  go_enter Tryz.func91,Tryz.ntmps91
  go_wp2
  go_ret2
  exact⟨rfl,b0.out⟩
end Gf
namespace Gi
open Bytes8 Blk8 Own8 Ga Gb
def hd0:HD:=⟨0,0,0,fun _=>0,fun _=>0,0,0,0⟩
theorem aAh {P:Program}{b:Array Oper}{rest:List Oper}{o:Oper}{a:Act}{w:World}{Q:Exit→Act→World→Prop}(d:Region.wanted o (yielded b a.tmps)=true)(t:TypeId)(f:o.op= .build t #[])(cells:Array Value)
 (c:P.built t []=some cells)(h:wpList P b Q rest (a.put o.dst (.agg cells)) w):wpList P b Q (o::rest) a w:=
 BigFrame.wpList_want d fun K hK=>wp_build t #[] f (by simp only[List.map_toArray,List.map_nil];rw[c];rfl) (by simp only[List.map_toArray,List.map_nil];rw[c];exact hK _ _ h)
theorem aDj:Tryz.prog.built 39 []=some (hd0.cells 21).toArray:=by kernel_rfl
theorem aAq {P:Program}{fn:Func}{p u:Tmp}{f:TypeId}(h:fn.results= #[.cell p f,.tmp u])(tmps:Array Value)(w:World)(g:Nat)(t:TypeId)(b:Array Value)(fr:Nat×Nat)(d:TypeDesc)(c:Value)
 (m:tmps.getD p undef= .pointer (some ⟨g,0,none⟩))(i:tmps.getD u undef=c)(n:w.heap[g]? =some (.cells b t fr))(l:P.underlying f=some d)(j:(match d with| .struct _| .array _ _=>true|_=>false)=true)(k:(P.info? f).map (·.size)=some b.size):
 (results fn tmps).run P w= .ok (.tuple #[.agg b,c]) w:=by
 rw[results_cell_tmp h,m,i]
 simp[asAddr,run_loadVar_row w g t f b fr d n l j k,Result.andThen]
attribute [local irreducible] HD.cells wpList Code.wp
theorem read_short (A:Option Addr)(n c:Nat)(w:World)(f:n<272):
 Calls Tryz.prog 17 #[.slice A n c] w fun e w'=>e= .returned (.tuple #[.agg (hd0.cells 21).toArray,.int .i64 22])∧Below w.heap.size w w':=by
 have g:(n:Int)<272:=by omega
 go_enter Tryz.func17,Tryz.ntmps17
 go_upto_region 1 with fail
 have d:=yH ((Below.refl w.heap.size w).alloc (yR _) (.cells Tryz.zeroCells39 39))
 have b:=yH (heap_alloc_new w (.cells Tryz.zeroCells39 39))
 generalize w.alloc (.cells Tryz.zeroCells39 39)=w1 at*
 go_wp2_with(first
  |((with_reducible apply aAb 9);refine aAh rfl 39 rfl _ aDj ?_)
  |((with_reducible apply aAa (.tmp 2) (.tmp 9));refine wpList_store_row rfl 39 (.tmp 2) (.tmp 9) rfl w.heap.size (hd0.cells 21).toArray rfl rfl 39 Tryz.zeroCells39 b.out (aAf _) aAB (HD.one _ 21) ?_))
 refine bodyPost_ret (v:= .tuple #[.agg (hd0.cells 21).toArray,.int .i64 22]) (by exact aAq Tryz.results17 _ _ w.heap.size 39 _ (0,0) _ _ rfl rfl (setRow_heap _ _ _ _ _ (0,0) b.out) Tryz.underlying39 rfl (aAf _)) rfl ?_
 exact⟨rfl,below_setRow d.out (yR _) _⟩
end Gi
namespace Gj
open Bytes8 OwnE LeA LeNum LeB LeP Ob Ga Gb
def u4 (l:List Int)(a:Nat):Int:=leNum ((l.drop a).take 4)
theorem aDz {l:List Int}(h:AllB l)(a:Nat):0≤u4 l a∧u4 l a≤4294967295:=by
 have b:=aAK ((l.drop a).take 4) ((h.drop a).take 4)
 have c:((l.drop a).take 4).length≤4:=by simp;omega
 have d:(256:Int)^((l.drop a).take 4).length≤4294967296:=by
  generalize ((l.drop a).take 4).length=k at*
  rcases k with _|_|_|_|_|k
  all_goals first|decide|omega
 unfold u4
 omega
def hdOf (l:List Int):HD:=⟨u4 l 8,u4 l 12,l.getD 16 0,fun i=>l.getD (24+i) 0,fun i=>u8 l (88+8*i),u4 l 256,u4 l 260,u8 l 264⟩
theorem aDk {l:List Int}(h:AllB l)(m:Nat):(hdOf l).Ok m:=
 ⟨aDz h 8,aDz h 12,by have:=h.at_ 16;show _≤l.getD 16 0∧l.getD 16 0≤_;omega,fun i=>h.at_ _,fun i=>aCE h _,aDz h 256,aDz h 260,aCE h 264⟩
def hdI (l:List Int)(k j:Nat):HD:={hdOf l with I:=fun i=>if i<16*k then l.getD (24+i) 0 else 0,N:=fun i=>if i<j then u8 l (88+8*i)else 0}
theorem aNU (l:List Int):hdI l 0 0=⟨u4 l 8,u4 l 12,l.getD 16 0,fun _=>0,fun _=>0,u4 l 256,u4 l 260,u8 l 264⟩:=by
 unfold hdI hdOf
 simp
theorem aL9 {a b:HD}{m:Nat}(h: ∀i,i<70+m→a.at_ m i=b.at_ m i):a.cells m=b.cells m:=by
 unfold HD.cells
 apply List.map_congr_left
 intro i c
 exact h i (List.mem_range.1 c)
theorem aMa (l:List Int):(hdI l 4 21).cells 21=(hdOf l).cells 21:=by
 apply aL9
 intro i f
 unfold HD.at_
 by_cases b:i<3
 ·rw[if_pos b,if_pos b];rfl
 rw[if_neg b,if_neg b]
 by_cases c:i<67
 ·rw[if_pos c,if_pos c]
  show Value.int .u8 (if i-3<16*4 then _ else 0)=_
  rw[if_pos (by omega)];rfl
 rw[if_neg c,if_neg c]
 by_cases d:i<67+21
 ·rw[if_pos d,if_pos d]
  show Value.int .u64 (if i-67<21 then _ else 0)=_
  rw[if_pos (by omega)];rfl
 rw[if_neg d,if_neg d];rfl
theorem aPv (l:List Int)(j:Nat)(m:j<21):((hdI l 4 j).cells 21).set (67+j) (.int .u64 (u8 l (88+8*j)))=(hdI l 4 (j+1)).cells 21:=by
 apply List.ext_getElem?
 intro i
 rw[List.getElem?_set]
 by_cases k:i<91
 ·by_cases g:67+j=i
  ·subst g
   rw[if_pos rfl,if_pos (by rw[HD.len];omega),HD.get_N _ 21 j m]
   show _=some (Value.int .u64 (if j<j+1 then _ else 0))
   rw[if_pos (by omega)]
  ·rw[if_neg g,HD.get _ 21 i k,HD.get _ 21 i k]
   congr 1
   unfold HD.at_
   by_cases c:i<3
   ·rw[if_pos c,if_pos c];rfl
   rw[if_neg c,if_neg c]
   by_cases b:i<67
   ·rw[if_pos b,if_pos b];rfl
   rw[if_neg b,if_neg b]
   by_cases d:i<67+21
   ·rw[if_pos d,if_pos d]
    show Value.int .u64 (if i-67<j then _ else 0)=Value.int .u64 (if i-67<j+1 then _ else 0)
    by_cases f:i-67<j
    ·rw[if_pos f,if_pos (by omega)]
    ·rw[if_neg f,if_neg (by omega)]
   rw[if_neg d,if_neg d];rfl
 ·rw[if_neg (by omega),List.getElem?_eq_none (by rw[HD.len];omega),List.getElem?_eq_none (by rw[HD.len];omega)]
theorem aJ0 (l:List Int)(k j:Nat)(o:k<4)(n:272≤l.length):splice ((hdI l k j).cells 21) (3+16*k) (((l.drop (24+16*k)).take 16).map (Value.int .u8))=(hdI l (k+1) j).cells 21:=by
 have b:(((l.drop (24+16*k)).take 16).map (Value.int .u8)).length=16:=by simp;omega
 apply List.ext_getElem?
 intro i
 unfold splice
 rw[b]
 by_cases f:i<91
 ·rw[HD.get _ 21 i f]
  by_cases m:i<3+16*k
  ·rw[List.getElem?_append_left (by rw[List.length_take,HD.len];omega),List.getElem?_take_of_lt m,HD.get _ 21 i f]
   congr 1
   unfold HD.at_
   by_cases c:i<3
   ·rw[if_pos c,if_pos c];rfl
   ·rw[if_neg c,if_neg c,if_pos (by omega),if_pos (by omega)]
    show Value.int .u8 (if i-3<16*k then _ else 0)=Value.int .u8 (if i-3<16*(k+1)then _ else 0)
    rw[if_pos (by omega),if_pos (by omega)]
  ·by_cases c:i<19+16*k
   ·rw[List.getElem?_append_right (by rw[List.length_take,HD.len];omega),List.length_take,HD.len,Nat.min_eq_left (by omega),List.getElem?_append_left (by rw[b];omega),List.getElem?_map,List.getElem?_take_of_lt (by omega),List.getElem?_drop,List.getElem?_eq_getElem (by omega)]
    unfold HD.at_
    rw[if_neg (by omega),if_pos (by omega)]
    show some (Value.int .u8 _)=some (Value.int .u8 (if i-3<16*(k+1)then l.getD (24+(i-3)) 0 else 0))
    rw[if_pos (by omega),List.getD_eq_getElem?_getD,List.getElem?_eq_getElem (by omega)]
    simp only[Option.getD_some]
    congr 3
    omega
   ·rw[List.getElem?_append_right (by rw[List.length_take,HD.len];omega),List.length_take,HD.len,Nat.min_eq_left (by omega),List.getElem?_append_right (by rw[b];omega),b,List.getElem?_drop,show 3+16*k+16+(i-(3+16*k)-16)=i by omega,HD.get _ 21 i f]
    congr 1
    unfold HD.at_
    have g: ¬i<3:=by omega
    rw[if_neg g,if_neg g]
    by_cases d:i<67
    ·rw[if_pos d,if_pos d]
     show Value.int .u8 (if i-3<16*k then _ else 0)=Value.int .u8 (if i-3<16*(k+1)then _ else 0)
     rw[if_neg (by omega),if_neg (by omega)]
    ·rw[if_neg d,if_neg d];rfl
 ·rw[List.getElem?_eq_none (by simp only[List.length_append,List.length_take,List.length_drop,HD.len,b];omega),List.getElem?_eq_none (by rw[HD.len];omega)]
theorem aNV (cp ic st ta ti te:Int):Tryz.prog.built 39 [(0,.int .u32 cp),(1,.int .u32 ic),(2,.int .i64 st),(28,.int .u32 ta),(29,.int .u32 ti),(30,.int .u64 te)]=some ((⟨cp,ic,st,fun _=>0,fun _=>0,ta,ti,te⟩:HD).cells 21).toArray:=by kernel_rfl
theorem number_any (A:Option Addr)(l:List Int)(n c p k:Nat)(w:World)(d:Bytes w A l)(f:l.length=n)(j:n≤1000000)(b:isW k=true)(g:p+k≤n):
 Calls Tryz.prog 108 #[.slice A n c,.int .i64 (p:Int),.int .i64 (k:Int)] w fun e w'=>e= .returned (.int .u64 (leNum ((l.drop p).take k)))∧w=w':=by
 subst f
 obtain⟨o,m⟩:=aPU b
 have i:=yH (aCZ A l c p k w (by omega) (by unfold fits;rw[b];simp;omega) d (by omega) (by omega) g)
 generalize leNum ((l.drop p).take k)=x at*
 clear d
 go_enter Tryz.func108,Tryz.ntmps108
 go_wp2_with(go_at_call 55;((with_reducible refine i.out.mono ?_);rintro e w' ⟨rfl,rfl⟩))
 go_ret
 exact⟨rfl,rfl⟩
end Gj
namespace Gk
open Bytes8 Blk8 Own8 OwnE LeP Ob Ga Gb Gc Gd Gj
def stH (p v:Value):Sem Unit:=Instr.storeAt 39 p v
theorem st_fold (p v:Value):Instr.storeAt 39 p v=stH p v:=rfl
def bldH (parts:Array (Nat×Value)):Sem Value:=Instr.build 39 parts
theorem bld_fold (b:Array (Nat×Value)):Instr.build 39 b=bldH b:=rfl
theorem store_head (w:World)(g:Nat)(old b:Array Value)(h:w.heap[g]? =some (.cells old 39 (0,0)))(d:old.size=b.size)(f:(Tryz.prog.info? 39).map (·.size)=some b.size)(c:b.all (·.oneCell')=true):
 (stH (.pointer (some ⟨g,0,none⟩)) (.agg b)).run Tryz.prog w= .ok () (w.setRow g b):=by
 unfold stH
 simp only[Instr.storeAt,Instr.sureAddr,Sem.run_bind,Sem.run_pure,Result.andThen_ok]
 exact run_storeVar_row w g 39 39 old b h f d c
theorem build_head (w:World)(cp ic st ta ti te:Int):(bldH #[(0,.int .u32 cp),(1,.int .u32 ic),(2,.int .i64 st),(28,.int .u32 ta),(29,.int .u32 ti),(30,.int .u64 te)]).run Tryz.prog w= .ok (.agg ((⟨cp,ic,st,fun _=>0,fun _=>0,ta,ti,te⟩:HD).cells 21).toArray) w:=by
 unfold bldH
 exact run_build w _ _ _ (aNV cp ic st ta ti te)
attribute [local irreducible] HD.cells wpList Code.wp
attribute [local go_sem ↓] st_fold bld_fold
theorem aMb (A:Option Addr)(l:List Int)(n c:Nat)(w:World)(R:Bytes w A l)(L:l.length=n)(ar:272≤n)(hn:n≤1000000)(hc:n≤c):
 Calls Tryz.prog 50 #[.slice A n c] w fun e w'=>e= .returned (.agg ((hdOf l).cells 21).toArray)∧Below w.heap.size w w':=by
 have N8:=yH fun(W:World) (hW:Bytes W A l)=>show Calls Tryz.prog 108 #[.slice A n c,.int .i64 8,.int .i64 4] W fun e w'=>e= .returned (.int .u64 (u4 l 8))∧W=w' from number_any A l n c 8 4 W hW L (by omega) rfl (by omega)
 have G:=yH fun(W:World) (hW:Bytes W A l)=>show Calls Tryz.prog 108 #[.slice A n c,.int .i64 12,.int .i64 4] W fun e w'=>e= .returned (.int .u64 (u4 l 12))∧W=w' from number_any A l n c 12 4 W hW L (by omega) rfl (by omega)
 have y:=yH fun(W:World) (hW:Bytes W A l)=>show Calls Tryz.prog 108 #[.slice A n c,.int .i64 256,.int .i64 4] W fun e w'=>e= .returned (.int .u64 (u4 l 256))∧W=w' from number_any A l n c 256 4 W hW L (by omega) rfl (by omega)
 have t:=yH fun(W:World) (hW:Bytes W A l)=>show Calls Tryz.prog 108 #[.slice A n c,.int .i64 260,.int .i64 4] W fun e w'=>e= .returned (.int .u64 (u4 l 260))∧W=w' from number_any A l n c 260 4 W hW L (by omega) rfl (by omega)
 have u:=yH fun(W:World) (hW:Bytes W A l)=>show Calls Tryz.prog 108 #[.slice A n c,.int .i64 264,.int .i64 8] W fun e w'=>e= .returned (.int .u64 (u8 l 264))∧W=w' from number_any A l n c 264 8 W hW L (by omega) rfl (by omega)
 have U8:=aDz R.1 8
 have al:=aDz R.1 12
 have Y:=aDz R.1 256
 have af:=aDz R.1 260
 have an:=R.1.at_ 16
 have K8:IntKind.u32.wrap (u4 l 8)=u4 l 8:=by rw[IntKind.wrap_u32];omega
 have am:IntKind.u32.wrap (u4 l 12)=u4 l 12:=by rw[IntKind.wrap_u32];omega
 have ae:IntKind.u32.wrap (u4 l 256)=u4 l 256:=by rw[IntKind.wrap_u32];omega
 have ab:IntKind.u32.wrap (u4 l 260)=u4 l 260:=by rw[IntKind.wrap_u32];omega
 have ah:IntKind.i64.wrap (l.getD 16 0)=l.getD 16 0:=by rw[IntKind.wrap_i64];omega
 obtain⟨d,b,rfl,E,r⟩:=R.spot (by omega)
 have HB:=yH R
 have V:=yH E
 have H:=yH (r 16 (by omega))
 clear r E
 go_enter Tryz.func50,Tryz.ntmps50
 go_upto_region 1 with fail
 have M:=yH ((Below.refl w.heap.size w).alloc (yR _) (.cells Tryz.zeroCells39 39))
 have Z1:=yH (heap_alloc_new w (.cells Tryz.zeroCells39 39))
 have s1:=yH (show(w.alloc (.cells Tryz.zeroCells39 39)).heap.size=w.heap.size+1 by simp)
 generalize w.alloc (.cells Tryz.zeroCells39 39)=w1 at*
 have q:=yH (show Bytes w1.drew (some ⟨d,b,none⟩) l from(HB.out.below M.out (yR _)).drew)
 have BB:=yH ((Below.refl w1.heap.size w1).alloc (yR _) (.cells Tryz.zeroCells39 39)).drew
 have o:=yH (show Bytes ((w1.alloc (.cells Tryz.zeroCells39 39)).drew) (some ⟨d,b,none⟩) l from(HB.out.below M.out (yR _)).below BB.out (yR _))
 have qa:w1.drew.cell? ⟨d,b+16,none⟩=some (.int .u8 (l.getD 16 0)):=(M.out.cell (p:=⟨d,b+16,none⟩) V.out).trans H.out
 have D:=yL V.out M.out.size
 have qb:((w1.alloc (.cells Tryz.zeroCells39 39)).drew).cell? ⟨d,b+16,none⟩=some (.int .u8 (l.getD 16 0)):=(BB.out.cell (p:=⟨d,b+16,none⟩) D).trans qa
 have ac:=fun W:World=>build_head W (u4 l 8) (u4 l 12) (l.getD 16 0) (u4 l 256) (u4 l 260) (u8 l 264)
 have s:((w1.alloc (.cells Tryz.zeroCells39 39)).drew).heap[w1.heap.size]? =some (.cells Tryz.zeroCells39 39 (0,0)):=heap_alloc_new w1 _
 have ad:=store_head ((w1.alloc (.cells Tryz.zeroCells39 39)).drew) w1.heap.size _ ((⟨u4 l 8,u4 l 12,l.getD 16 0,fun _=>0,fun _=>0,u4 l 256,u4 l 260,u8 l 264⟩:HD).cells 21).toArray s aAB (aAf _) (HD.one _ 21)
 have BC:=yH (show Below w1.heap.size w1 (((w1.alloc (.cells Tryz.zeroCells39 39)).drew).setRow w1.heap.size ((⟨u4 l 8,u4 l 12,l.getD 16 0,fun _=>0,fun _=>0,u4 l 256,u4 l 260,u8 l 264⟩:HD).cells 21).toArray)from below_setRow BB.out (yR _) _)
 have qc:(((w1.alloc (.cells Tryz.zeroCells39 39)).drew).setRow w1.heap.size ((⟨u4 l 8,u4 l 12,l.getD 16 0,fun _=>0,fun _=>0,u4 l 256,u4 l 260,u8 l 264⟩:HD).cells 21).toArray).cell? ⟨d,b+16,none⟩=some (.int .u8 (l.getD 16 0)):=(BC.out.cell (p:=⟨d,b+16,none⟩) D).trans qa
 have RC:=yH (show Blk (((w1.alloc (.cells Tryz.zeroCells39 39)).drew).setRow w1.heap.size ((⟨u4 l 8,u4 l 12,l.getD 16 0,fun _=>0,fun _=>0,u4 l 256,u4 l 260,u8 l 264⟩:HD).cells 21).toArray) w1.heap.size ((⟨u4 l 8,u4 l 12,l.getD 16 0,fun _=>0,fun _=>0,u4 l 256,u4 l 260,u8 l 264⟩:HD).cells 21) 39 from setRow_heap _ _ _ _ _ (0,0) s)
 have av:(16:Int)<(n:Int):=by omega
 clear s U8 al Y af an
 have HZ:=yH (aNU l)
 generalize u4 l 8=cp at*
 generalize u4 l 12=ic at*
 generalize u4 l 256=ta at*
 generalize u4 l 260=ti at*
 generalize u8 l 264=te at*
 generalize l.getD 16 0=Z at*
 go_cut [3]from 8 to 27 (fun z wx=>z= .pointer (some ⟨w1.heap.size,0,none⟩)∧Hid (Blk wx w1.heap.size ((⟨cp,ic,Z,fun _=>0,fun _=>0,ta,ti,te⟩:HD).cells 21) 39)∧Hid (Below w1.heap.size w1 wx))
 case first=>
  go_region_held3 (fun W=>W.cell? ⟨d,b+16,none⟩=some (.int .u8 (Z))) (first|(with_reducible exact qa)|(with_reducible exact qb)|(with_reducible exact qc)|go_keep) ((go_simp;go_at_call 108;(first|(with_reducible refine(N8.out _ q.out).mono ?_)|(with_reducible refine(N8.out _ o.out).mono ?_)|(with_reducible refine(G.out _ q.out).mono ?_)|(with_reducible refine(G.out _ o.out).mono ?_)|(with_reducible refine(y.out _ q.out).mono ?_)|(with_reducible refine(y.out _ o.out).mono ?_)|(with_reducible refine(t.out _ q.out).mono ?_)|(with_reducible refine(t.out _ o.out).mono ?_)|(with_reducible refine(u.out _ q.out).mono ?_)|(with_reducible refine(u.out _ o.out).mono ?_));rintro e w' ⟨rfl,rfl⟩))
  all_goals
   go_wp2_with fail
   go_meet
   case rel=>exact⟨rfl,RC,BC⟩
 case rest=>
  obtain⟨rfl,m,g⟩:=hcut
  have R2:=yH (show Blk wc w1.heap.size ((hdI l 0 0).cells 21) 39 by rw[HZ.out];exact m.out)
  have B2:=yH g.out
  clear m g RC BC qa qb qc ac ad HZ K8 am ae ab ah N8 G y t u q o BB
  go_upto_region 3 with(go_at_call 53;((with_reducible refine(aPu _ _).mono ?_);rintro e w3 ⟨rfl,I⟩;have R3:=yH (R2.out.below I R2.out.lt);have B3:=yH (B2.out.trans (I.mono B2.out.size));clear I))
  have HI:=yH fun(k:Nat) (hk:k<4)=>fun(W:World)=>aL8 w1.heap.size k hk W
  have HS:=yH fun(k:Nat) (hk:k<4)=>aJ0 l k 0 hk (by omega)
  clear R2
  go_loopw [28] (fun i wr=> ∃k:Nat,k≤4∧i= .int .i64 (k:Int)∧Hid (Blk wr w1.heap.size ((hdI l k 0).cells 21) 39)∧Hid (Below w1.heap.size w1 wr)) (fun i _=>4-(intOf i).toNat)
  case atStart=>exact⟨0,Nat.zero_le _,rfl,R3,B3⟩
  case round=>
   obtain⟨k,hk,rfl,m,g⟩:=hrel
   by_cases f:k<4
   ·have aq:=HI.out k f
    have aj:=yH (HS.out k f)
    have e1:IntKind.i64.wrap ((k:Int)*16)=(k:Int)*16:=IntWalk.i64_in _ (by omega)
    have e2:IntKind.i64.wrap (24+(k:Int)*16)=24+(k:Int)*16:=IntWalk.i64_in _ (by omega)
    have hcut: ∀W:World,(Instr.slice 24 (.slice (some ⟨d,b,none⟩) n c) (some (.int .i64 (24+(k:Int)*16))) none none).run Tryz.prog W= .ok (.slice (cutA (some ⟨d,b,none⟩) c (24+16*k)) (n-(24+16*k)) (c-(24+16*k))) W:=fun W=>by
     rw[show(24+(k:Int)*16)=((24+16*k:Nat):Int)by omega]
     exact aJC _ n c (24+16*k) (by omega) W
    have ap:=yH (show cutA (some ⟨d,b,none⟩) c (24+16*k)=some ⟨d,b+(24+16*k),none⟩by rw[aCN,if_neg (by omega)])
    have N:=yH (show Bytes wr (some ⟨d,b,none⟩) l from(HB.out.below M.out (yR _)).below g.out (yR _))
    have X:=yH (show ∀(j:Nat) (x:Value),(((l.drop (24+16*k)).take 16).map (Value.int .u8))[j]? =some x→wr.cell? ((⟨d,b+(24+16*k),none⟩:Addr).add j)=some x from fun j x F=>by
     have aa:j<16:=by have:=(List.getElem?_eq_some_iff.1 F).1;simp at this;omega
     obtain⟨b9,au,e9,_,ai⟩:=N.out.2 (24+16*k+j) (by rw[L];omega)
     injection e9 with e9
     injection e9 with e9 e10
     subst e9 e10
     rw[aAV,Nat.add_assoc,ai,←F]
     simp[aa,List.getD_eq_getElem?_getD,List.getElem?_eq_getElem (show 24+16*k+j<l.length by omega)])
    have B:=yH (show(((l.drop (24+16*k)).take 16).map (Value.int .u8)).length=16 by simp;omega)
    go_wp2_with fail
    refine wp_region_still_tail 8 (by kernel_rfl) (by kernel_rfl) ?_
    simp only[List.take_succ_cons,List.take_zero,List.drop_succ_cons,List.drop_zero]
    repeat still_step
    try refine wpStill_nil ?_
    change wpList _ _ _ _ _ wr.drew
    have HW:=yH (show Below w1.heap.size w1 wr.drew from g.out.drew)
    refine wpList_copy_splice rfl (.tmp 34) (.tmp 39) 24 24 rfl 5 Tryz.underlying24 size8 (some ⟨w1.heap.size,3+16*k,none⟩) (cutA (some ⟨d,b,none⟩) c (24+16*k)) 16 16 (n-(24+16*k)) (c-(24+16*k)) rfl rfl w1.heap.size (3+16*k) ((hdI l k 0).cells 21) 39 m.out (((l.drop (24+16*k)).take 16).map (Value.int .u8)) (by rw[B.out];show 16=min _ _;omega) (fun _=>⟨rfl,_,ap.out,X.out⟩) (by rw[B.out,HD.len];omega) (fun v hv=>by obtain⟨x,_,rfl⟩:=List.mem_map.1 hv;rfl) w1.heap.size w1 HW.out (yR _) ?_
    intro w5 h5 ag
    have R5:=yH (show Blk w5 w1.heap.size ((hdI l (k+1) 0).cells 21) 39 by rw[←aj.out];exact h5.out)
    have B5:=yH ag
    clear h5 ag e1 e2 hcut
    go_wp2_with fail
    go_roundw
    case rel=>exact⟨k+1,by omega,by go_num,R5,B5⟩
    case measure=>simp[intOf];omega
   ·obtain rfl:k=4:=by omega
    clear HI HS R3 B3
    rename World=>w6
    go_upto_region 8 with(go_at_call 54;((with_reducible refine(aL7 _ _).mono ?_);rintro e w7 ⟨rfl,J⟩;have R7:=yH (m.out.below J m.out.lt);have B7:=yH (g.out.trans (J.mono g.out.size));clear J))
    have HN:=yH fun(j:Nat) (F:j<21)=>fun(W:World)=>aJZ w1.heap.size j F W
    have HS:=yH fun(j:Nat) (F:j<21)=>aPv l j F
    have C:=yH fun(j:Nat) (F:j<21) (W:World) (hW:Bytes W (some ⟨d,b,none⟩) l)=>show Calls Tryz.prog 108 #[.slice (some ⟨d,b,none⟩) n c,.int .i64 (88+(j:Int)*8),.int .i64 8] W fun e w'=>e= .returned (.int .u64 (Ob.u8 l (88+8*j)))∧W=w' by
     rw[show(88+(j:Int)*8)=((88+8*j:Nat):Int)by omega]
     exact number_any _ l n c (88+8*j) 8 W hW L hn rfl (by omega)
    clear m g
    go_loopw [43] (fun i wr=> ∃j:Nat,j≤21∧i= .int .i64 (j:Int)∧Hid (Blk wr w1.heap.size ((hdI l 4 j).cells 21) 39)∧Hid (Below w1.heap.size w1 wr)) (fun i _=>21-(intOf i).toNat)
    case atStart=>exact⟨0,Nat.zero_le _,rfl,R7,B7⟩
    case round=>
     obtain⟨j,F,rfl,m,g⟩:=hrel
     by_cases f:j<21
     ·have aq:=HN.out j f
      have ak:=yH (HS.out j f)
      have N:=yH (show Bytes wr (some ⟨d,b,none⟩) l from(HB.out.below M.out (yR _)).below g.out (yR _))
      have ao:=yH (C.out j f wr N.out)
      have ck:=HD.nums_at (h:=hdI l 4 j) m.out j f
      have fk:=m.out.frozen (67+j)
      generalize Ob.u8 l (88+8*j)=x at*
      go_wp2_with(go_at_call 108;((with_reducible refine ao.out.mono ?_);rintro e w' ⟨rfl,rfl⟩))
      go_roundw
      case rel=>exact⟨j+1,by omega,by go_num,yH (by rw[←ak.out];exact m.out.set_ (67+j) _),yH (g.out.setCell (yR _) _)⟩
      case measure=>simp[intOf];omega
     ·obtain rfl:j=21:=by omega
      have R8:=yH (show Blk wr w1.heap.size ((hdOf l).cells 21) 39 by rw[←aMa];exact m.out)
      have Z8:=yH ((g.out.block w.heap.size (by rw[s1.out];exact Nat.lt_succ_self _)).trans Z1.out)
      have B8:=yH (M.out.trans (g.out.mono (by rw[s1.out];exact Nat.le_succ _)))
      clear HN HS C R7 B7 m g
      rename World=>w9
      go_wp2_with(first
       |((with_reducible apply aAb 55);refine wpList_load_row rfl 39 (.tmp 3) rfl w1.heap.size rfl 39 ((hdOf l).cells 21).toArray (0,0) _ R8.out Tryz.underlying39 rfl (aAf _) ?_)
       |((with_reducible apply aAa (.tmp 2) (.tmp 55));refine wpList_store_row rfl 39 (.tmp 2) (.tmp 55) rfl w.heap.size ((hdOf l).cells 21).toArray rfl rfl 39 Tryz.zeroCells39 Z8.out (aAf _) aAB (HD.one _ 21) ?_))
      refine bodyPost_ret (v:= .agg ((hdOf l).cells 21).toArray) (by exact results_cell_row Tryz.results50 _ _ w.heap.size 39 _ (0,0) _ rfl (setRow_heap _ w.heap.size _ _ _ (0,0) Z8.out) Tryz.underlying39 rfl (aAf _)) rfl ?_
      exact⟨rfl,below_setRow B8.out (yR _) _⟩
end Gk
namespace Gl
open Bytes8 Blk8 Own8 OwnE Ga Gb
def tcode (a z from1 en:Int):Int:=if a%8≠0 then 3 else if z=0∨z%16≠0 then 5 else if a<from1+16∨en<a∨en-a<z then 2 else 0
theorem aBf (s:Int)(w:World):Calls Tryz.prog 109 #[.int .i64 s] w fun e w'=>e= .returned (.bool (s==0||s==1||s==2))∧w=w':=by
 by_cases c:s=0
 ·subst c
  go_enter Tryz.func109,Tryz.ntmps109
  go_wp2
  go_ret
  exact⟨rfl,rfl⟩
 by_cases b:s=1
 ·subst b
  go_enter Tryz.func109,Tryz.ntmps109
  go_wp2
  go_ret
  exact⟨rfl,rfl⟩
 ·have d:(s==0)=false:=by simp[c]
  have f:(s==1)=false:=by simp[b]
  go_enter Tryz.func109,Tryz.ntmps109
  go_wp2
  go_ret
  exact⟨aAC (by rw[d,f];simp),rfl⟩
attribute [local irreducible] HD.cells wpList Code.wp
theorem aOr (h:HD)(j:h.Ok 21)(b a z:Int)(s:0≤b∧b≤18446744073709551615)(x:0≤a∧a≤18446744073709551615)(u:0≤z∧z≤18446744073709551615)(p:h.N 0≤1000000000)(w:World):
 Calls Tryz.prog 110 #[.agg (h.cells 21).toArray,.int .u64 b,.int .u64 a,.int .u64 z] w fun e w'=>e= .returned (.int .i64 (tcode a z (h.N 0) b))∧Below w.heap.size w w':=by
 have b0:=yH ((Below.refl w.heap.size w).alloc (yR _) (.cells (h.cells 21).toArray 39))
 have f:=(show Blk (w.alloc (.cells (h.cells 21).toArray 39)) w.heap.size (h.cells 21) 39 from Blk.new w _ _)
 have t:=HD.nums_at f 0 (by decide)
 have l:=(j.N 0).1
 clear f
 by_cases c:a%8=0
 ·by_cases d:z=0
  ·rw[show tcode a z (h.N 0) b=5 by unfold tcode;rw[if_neg (by simpa using c),if_pos (Or.inl d)]]
   subst d
   go_enter Tryz.func110,Tryz.ntmps110
   go_wp2
   go_ret
   exact⟨rfl,b0.out⟩
  have q:(z==0)=false:=by simp[d]
  by_cases g:z%16=0
  ·by_cases k:a<h.N 0+16
   ·rw[show tcode a z (h.N 0) b=2 by unfold tcode;rw[if_neg (by simpa using c),if_neg (by omega),if_pos (Or.inl k)]]
    go_enter Tryz.func110,Tryz.ntmps110
    go_wp2
    go_ret
    exact⟨rfl,b0.out⟩
   have r:decide (a<h.N 0+16)=false:=by simp;omega
   by_cases o:b<a
   ·have n:decide (b<a)=true:=by simp;omega
    rw[show tcode a z (h.N 0) b=2 by unfold tcode;rw[if_neg (by simpa using c),if_neg (by omega),if_pos (Or.inr (Or.inl o))]]
    go_enter Tryz.func110,Tryz.ntmps110
    go_wp2
    go_ret
    exact⟨rfl,b0.out⟩
   have n:decide (b<a)=false:=by simp;omega
   by_cases i:b-a<z
   ·have m:decide (b-a<z)=true:=by simp;omega
    rw[show tcode a z (h.N 0) b=2 by unfold tcode;rw[if_neg (by simpa using c),if_neg (by omega),if_pos (Or.inr (Or.inr i))]]
    go_enter Tryz.func110,Tryz.ntmps110
    go_wp2
    go_ret
    exact⟨rfl,b0.out⟩
   ·have m:decide (b-a<z)=false:=by simp;omega
    rw[show tcode a z (h.N 0) b=0 by unfold tcode;rw[if_neg (by simpa using c),if_neg (by omega),if_neg (by omega)]]
    go_enter Tryz.func110,Tryz.ntmps110
    go_wp2
    go_ret
    exact⟨rfl,b0.out⟩
  ·have y: ¬z%16=0:=g
   rw[show tcode a z (h.N 0) b=5 by unfold tcode;rw[if_neg (by simpa using c),if_pos (Or.inr g)]]
   go_enter Tryz.func110,Tryz.ntmps110
   go_wp2
   go_ret
   exact⟨rfl,b0.out⟩
 ·rw[show tcode a z (h.N 0) b=3 by unfold tcode;rw[if_pos c]]
  go_enter Tryz.func110,Tryz.ntmps110
  go_wp2
  go_ret
  exact⟨rfl,b0.out⟩
theorem aE7 (fr b a z:Int)(r:0≤fr∧fr≤18446744073709551615)(q:0≤b∧b≤18446744073709551615)(t:0≤a∧a≤18446744073709551615)(s:0≤z∧z≤18446744073709551615)(w:World):
 Calls Tryz.prog 150 #[.int .u64 a,.int .u64 z,.int .u64 fr,.int .u64 b] w fun e w'=>e= .returned (.int .i64 (tcode a z fr b))∧w=w':=by
 by_cases c:a%8=0
 ·by_cases d:z=0
  ·rw[show tcode a z fr b=5 by unfold tcode;rw[if_neg (by simpa using c),if_pos (Or.inl d)]]
   subst d
   go_enter Tryz.func150,Tryz.ntmps150
   go_wp2
   go_ret
   exact⟨rfl,rfl⟩
  have p:(z==0)=false:=by simp[d]
  by_cases j:z%16=0
  ·by_cases o:a<fr
   ·have i:decide (a<fr)=true:=by simp;omega
    rw[show tcode a z fr b=2 by unfold tcode;rw[if_neg (by simpa using c),if_neg (by omega),if_pos (Or.inl (by omega))]]
    go_enter Tryz.func150,Tryz.ntmps150
    go_wp2
    go_ret
    exact⟨rfl,rfl⟩
   have i:decide (a<fr)=false:=by simp;omega
   by_cases n:a-fr<16
   ·have f:decide (a-fr<16)=true:=by simp;omega
    rw[show tcode a z fr b=2 by unfold tcode;rw[if_neg (by simpa using c),if_neg (by omega),if_pos (Or.inl (by omega))]]
    go_enter Tryz.func150,Tryz.ntmps150
    go_wp2
    go_ret
    exact⟨rfl,rfl⟩
   have f:decide (a-fr<16)=false:=by simp;omega
   by_cases m:b<a
   ·have l:decide (b<a)=true:=by simp;omega
    rw[show tcode a z fr b=2 by unfold tcode;rw[if_neg (by simpa using c),if_neg (by omega),if_pos (Or.inr (Or.inl m))]]
    go_enter Tryz.func150,Tryz.ntmps150
    go_wp2
    go_ret
    exact⟨rfl,rfl⟩
   have l:decide (b<a)=false:=by simp;omega
   by_cases g:b-a<z
   ·have k:decide (b-a<z)=true:=by simp;omega
    rw[show tcode a z fr b=2 by unfold tcode;rw[if_neg (by simpa using c),if_neg (by omega),if_pos (Or.inr (Or.inr g))]]
    go_enter Tryz.func150,Tryz.ntmps150
    go_wp2
    go_ret
    exact⟨rfl,rfl⟩
   ·have k:decide (b-a<z)=false:=by simp;omega
    rw[show tcode a z fr b=0 by unfold tcode;rw[if_neg (by simpa using c),if_neg (by omega),if_neg (by omega)]]
    go_enter Tryz.func150,Tryz.ntmps150
    go_wp2
    go_ret
    exact⟨rfl,rfl⟩
  ·rw[show tcode a z fr b=5 by unfold tcode;rw[if_neg (by simpa using c),if_pos (Or.inr j)]]
   go_enter Tryz.func150,Tryz.ntmps150
   go_wp2
   go_ret
   exact⟨rfl,rfl⟩
 ·rw[show tcode a z fr b=3 by unfold tcode;rw[if_pos c]]
  go_enter Tryz.func150,Tryz.ntmps150
  go_wp2
  go_ret
  exact⟨rfl,rfl⟩
end Gl
end Go.Proofs.YtlelnfokffflnaaGreat
