/-
  Texts beneath the proof.
-/
import Derived.Test.YtiddkgcafpaekaaGreatJq8
set_option linter.unusedVariables false
set_option linter.unusedSimpArgs false
set_option maxRecDepth 100000
set_option maxHeartbeats 4000000
open Go.ChangeShapes Go.WideShapes Go.ChangeAt Go.RowKit
namespace Go.Proofs.YtiddkgcafpaekaaGreat
namespace Gd
open Bytes8 Ga Gb Gc
theorem index_one {P:Program}(t e:TypeId)(n:Nat)(cs:Array Value)(i:Nat)(v:Value)(w:World)(hu:P.underlying t=some (.array n e))(d:TypeDesc)(he:P.underlying e=some d)(hd:(match d with| .struct _| .array _ _=>true|_=>false)=false)(hs:(P.info? e).map (·.size)=some 1)(hi:i<n)(hv:cs[i]? =some v):
 (Instr.index t (.agg cs) (.int .i64 (i:Int))).run P w= .ok v w:=by
 obtain⟨f,hf,hz⟩:=Option.map_eq_some_iff.1 hs
 have h1:(0:Int)≤(i:Int)∧(i:Int)<(n:Int):=by omega
 have hag:(isAgg e).run P w= .ok false w:=by
  unfold isAgg
  rw[Sem.run_bind,run_underlying he w]
  cases d<;>simp_all
 simp[Instr.index,run_underlying hu,asIntOf,h1,sizeOf,typeInfo,hf,hz,hi,part,hag,hv]
theorem ids_index (g k:Nat)(hk:k<4)(w:World):(Instr.index 149 (idsV g) (.int .i64 (k:Int))).run Tryz.prog w= .ok (.pointer (some ⟨g,3+16*k,none⟩)) w:=by
 refine index_one _ 148 4 _ k _ w Tryz.underlying149 _ Tryz.underlying148 rfl (by kernel_rfl) hk ?_
 rcases k with _|_|_|_|k
 all_goals first|rfl|omega
theorem nums_index (g k:Nat)(hk:k<21)(w:World):(Instr.index 153 (numsV g) (.int .i64 (k:Int))).run Tryz.prog w= .ok (.pointer (some ⟨g,67+k,none⟩)) w:=by
 refine index_one _ 152 21 _ k _ w Tryz.underlying153 _ Tryz.underlying152 rfl (by kernel_rfl) hk ?_
 rcases k with _|_|_|_|_|_|_|_|_|_|_|_|_|_|_|_|_|_|_|_|_|k
 all_goals first|rfl|omega
attribute [local irreducible] HD.cells wpList Code.wp
end Gd
namespace Gf
open Bytes8 Blk8 Own8 Ga Gb
def endV (h:HD):Int:=if h.N 0+h.N 1≤18446744073709551615 then h.N 0+h.N 1 else 0
def endB (h:HD):Bool:=decide (h.N 0+h.N 1≤18446744073709551615)
theorem add64_any (x y:Int)(hx:0≤x)(hy:0≤y)(w:World):
 (callFunc 134 #[.int .u64 x,.int .u64 y,.int .u64 0]).run Tryz.prog w= .ok (.value (.tuple #[.int .u64 ((x+y)%18446744073709551616),.int .u64 ((x+y)/18446744073709551616)])) w:=by
 have h:=run_add64 (P:=Tryz.prog) x y 0 hx hy (by decide) (by decide) w
 rw[Int.add_zero]at h
 rw[run_callFunc_extern Tryz.func134 (by kernel_rfl) (by kernel_rfl) (by kernel_rfl) (e:=add64Entry) (by kernel_rfl),h]
 rfl
attribute [local irreducible] HD.cells wpList Code.wp
theorem end_any (h:HD)(ok:h.Ok 21)(w:World):
 Calls Tryz.prog 71 #[.agg (h.cells 21).toArray] w fun e w'=>e= .returned (.tuple #[.int .u64 (endV h),.bool (endB h)])∧Below w.heap.size w w':=by
 have b0:=yH ((Below.refl w.heap.size w).alloc (yR _) (.cells (h.cells 21).toArray 39))
 have R0:=yH (show Blk (w.alloc (.cells (h.cells 21).toArray 39)) w.heap.size (h.cells 21) 39 from Blk.new w _ _)
 obtain⟨p0,p1⟩:=ok.N 0
 obtain⟨r0,r1⟩:=ok.N 1
 have c0:=HD.nums_at R0.out 0 (by decide)
 have c1:=HD.nums_at R0.out 1 (by decide)
 by_cases hle:h.N 0+h.N 1≤18446744073709551615
 ·rw[show endV h=h.N 0+h.N 1 from if_pos hle,show endB h=true from decide_eq_true hle]
  have ha:=add64_any (h.N 0) (h.N 1) p0 r0
  rw[show(h.N 0+h.N 1)%18446744073709551616=h.N 0+h.N 1 by omega,show(h.N 0+h.N 1)/18446744073709551616=0 by omega]at ha
  go_enter Tryz.func71,Tryz.ntmps71
  go_wp2
  go_ret2
  exact⟨rfl,b0.out⟩
 ·rw[show endV h=0 from if_neg hle,show endB h=false from decide_eq_false hle]
  have ha:=add64_any (h.N 0) (h.N 1) p0 r0
  rw[show(h.N 0+h.N 1)/18446744073709551616=1 by omega]at ha
  go_enter Tryz.func71,Tryz.ntmps71
  go_wp2
  go_ret2
  exact⟨rfl,b0.out⟩
theorem rend_any (h:HD)(ok:h.Ok 20)(w:World):
 Calls Tryz.prog 111 #[.agg (h.cells 20).toArray] w fun e w'=>e= .returned (.tuple #[.int .u64 (endV h),.bool (endB h)])∧Below w.heap.size w w':=by
 have b0:=yH ((Below.refl w.heap.size w).alloc (yR _) (.cells (h.cells 20).toArray 119))
 have R0:=yH (show Blk (w.alloc (.cells (h.cells 20).toArray 119)) w.heap.size (h.cells 20) 119 from Blk.new w _ _)
 obtain⟨p0,p1⟩:=ok.N 0
 obtain⟨r0,r1⟩:=ok.N 1
 have c0:=HD.nums_at R0.out 0 (by decide)
 have c1:=HD.nums_at R0.out 1 (by decide)
 by_cases hle:h.N 0+h.N 1≤18446744073709551615
 ·rw[show endV h=h.N 0+h.N 1 from if_pos hle,show endB h=true from decide_eq_true hle]
  have d1: ¬18446744073709551615-h.N 0<h.N 1:=by omega
  go_enter Tryz.func111,Tryz.ntmps111
  go_wp2
  go_ret2
  exact⟨rfl,b0.out⟩
 ·rw[show endV h=0 from if_neg hle,show endB h=false from decide_eq_false hle]
  have d1:18446744073709551615-h.N 0<h.N 1:=by omega
  go_enter Tryz.func111,Tryz.ntmps111
  go_wp2
  go_ret2
  exact⟨rfl,b0.out⟩
end Gf
namespace Gi
open Bytes8 Blk8 Own8 Ga Gb
def hd0:HD:=⟨0,0,0,fun _=>0,fun _=>0,0,0,0⟩
theorem wpList_build_zero {P:Program}{ops:Array Oper}{rest:List Oper}{o:Oper}{a:Act}{w:World}{Q:Exit→Act→World→Prop}(hw:Region.wanted o (yielded ops a.tmps)=true)(t:TypeId)(ho:o.op= .build t #[])(cells:Array Value)
 (hb:P.built t []=some cells)(h:wpList P ops Q rest (a.put o.dst (.agg cells)) w):wpList P ops Q (o::rest) a w:=
 BigFrame.wpList_want hw fun K hK=>wp_build t #[] ho (by simp only[List.map_toArray,List.map_nil];rw[hb];rfl) (by simp only[List.map_toArray,List.map_nil];rw[hb];exact hK _ _ h)
theorem zero_built:Tryz.prog.built 39 []=some (hd0.cells 21).toArray:=by kernel_rfl
theorem res_rowG {P:Program}{fn:Func}{p u:Tmp}{ty:TypeId}(h:fn.results= #[.cell p ty,.tmp u])(tmps:Array Value)(w:World)(g:Nat)(t:TypeId)(cs:Array Value)(fr:Nat×Nat)(d:TypeDesc)(c:Value)
 (hp:tmps.getD p undef= .pointer (some ⟨g,0,none⟩))(hc:tmps.getD u undef=c)(hg:w.heap[g]? =some (.cells cs t fr))(hu:P.underlying ty=some d)(hd:(match d with| .struct _| .array _ _=>true|_=>false)=true)(hi:(P.info? ty).map (·.size)=some cs.size):
 (results fn tmps).run P w= .ok (.tuple #[.agg cs,c]) w:=by
 rw[results_cell_tmp h,hp,hc]
 simp[asAddr,run_loadVar_row w g t ty cs fr d hg hu hd hi,Result.andThen]
attribute [local irreducible] HD.cells wpList Code.wp
theorem read_short (A:Option Addr)(n c:Nat)(w:World)(hn:n<272):
 Calls Tryz.prog 19 #[.slice A n c] w fun e w'=>e= .returned (.tuple #[.agg (hd0.cells 21).toArray,.int .i64 22])∧Below w.heap.size w w':=by
 have d1:(n:Int)<272:=by omega
 go_enter Tryz.func19,Tryz.ntmps19
 go_upto_region 1 with fail
 have b1:=yH ((Below.refl w.heap.size w).alloc (yR _) (.cells Tryz.zeroCells39 39))
 have Z1:=yH (heap_alloc_new w (.cells Tryz.zeroCells39 39))
 generalize w.alloc (.cells Tryz.zeroCells39 39)=w1 at*
 go_wp2_with(first
  |((with_reducible apply at_slot 9);refine wpList_build_zero rfl 39 rfl _ zero_built ?_)
  |((with_reducible apply at_store (.tmp 2) (.tmp 9));refine wpList_store_row rfl 39 (.tmp 2) (.tmp 9) rfl w.heap.size (hd0.cells 21).toArray rfl rfl 39 Tryz.zeroCells39 Z1.out (cells_info _) zeros_size (HD.one _ 21) ?_))
 refine bodyPost_ret (v:= .tuple #[.agg (hd0.cells 21).toArray,.int .i64 22]) (by exact res_rowG Tryz.results19 _ _ w.heap.size 39 _ (0,0) _ _ rfl rfl (setRow_heap _ _ _ _ _ (0,0) Z1.out) Tryz.underlying39 rfl (cells_info _)) rfl ?_
 exact⟨rfl,below_setRow b1.out (yR _) _⟩
end Gi
namespace Gj
open Bytes8 OwnE LeA LeNum LeB LeP Ob Ga Gb
def u4 (l:List Int)(a:Nat):Int:=leNum ((l.drop a).take 4)
theorem u4_bd {l:List Int}(h:AllB l)(a:Nat):0≤u4 l a∧u4 l a≤4294967295:=by
 have h1:=leNum_bound ((l.drop a).take 4) ((h.drop a).take 4)
 have h2:((l.drop a).take 4).length≤4:=by simp;omega
 have h3:(256:Int)^((l.drop a).take 4).length≤4294967296:=by
  generalize ((l.drop a).take 4).length=k at*
  rcases k with _|_|_|_|_|k
  all_goals first|decide|omega
 unfold u4
 omega
def hdOf (l:List Int):HD:=⟨u4 l 8,u4 l 12,l.getD 16 0,fun i=>l.getD (24+i) 0,fun i=>u8 l (88+8*i),u4 l 256,u4 l 260,u8 l 264⟩
theorem hdOf_ok {l:List Int}(h:AllB l)(m:Nat):(hdOf l).Ok m:=
 ⟨u4_bd h 8,u4_bd h 12,by have:=h.at_ 16;show _≤l.getD 16 0∧l.getD 16 0≤_;omega,fun i=>h.at_ _,fun i=>u8_bd h _,u4_bd h 256,u4_bd h 260,u8_bd h 264⟩
def hdI (l:List Int)(k j:Nat):HD:={hdOf l with I:=fun i=>if i<16*k then l.getD (24+i) 0 else 0,N:=fun i=>if i<j then u8 l (88+8*i)else 0}
theorem hdI_zero (l:List Int):hdI l 0 0=⟨u4 l 8,u4 l 12,l.getD 16 0,fun _=>0,fun _=>0,u4 l 256,u4 l 260,u8 l 264⟩:=by
 unfold hdI hdOf
 simp
theorem at_cong {a b:HD}{m:Nat}(h: ∀i,i<70+m→a.at_ m i=b.at_ m i):a.cells m=b.cells m:=by
 unfold HD.cells
 apply List.map_congr_left
 intro i hi
 exact h i (List.mem_range.1 hi)
theorem hdI_whole (l:List Int):(hdI l 4 21).cells 21=(hdOf l).cells 21:=by
 apply at_cong
 intro i hi
 unfold HD.at_
 by_cases h1:i<3
 ·rw[if_pos h1,if_pos h1];rfl
 rw[if_neg h1,if_neg h1]
 by_cases h2:i<67
 ·rw[if_pos h2,if_pos h2]
  show Value.int .u8 (if i-3<16*4 then _ else 0)=_
  rw[if_pos (by omega)];rfl
 rw[if_neg h2,if_neg h2]
 by_cases h3:i<67+21
 ·rw[if_pos h3,if_pos h3]
  show Value.int .u64 (if i-67<21 then _ else 0)=_
  rw[if_pos (by omega)];rfl
 rw[if_neg h3,if_neg h3];rfl
theorem hdI_set (l:List Int)(j:Nat)(hj:j<21):((hdI l 4 j).cells 21).set (67+j) (.int .u64 (u8 l (88+8*j)))=(hdI l 4 (j+1)).cells 21:=by
 apply List.ext_getElem?
 intro i
 rw[List.getElem?_set]
 by_cases hi:i<91
 ·by_cases he:67+j=i
  ·subst he
   rw[if_pos rfl,if_pos (by rw[HD.len];omega),HD.get_N _ 21 j hj]
   show _=some (Value.int .u64 (if j<j+1 then _ else 0))
   rw[if_pos (by omega)]
  ·rw[if_neg he,HD.get _ 21 i hi,HD.get _ 21 i hi]
   congr 1
   unfold HD.at_
   by_cases h1:i<3
   ·rw[if_pos h1,if_pos h1];rfl
   rw[if_neg h1,if_neg h1]
   by_cases h2:i<67
   ·rw[if_pos h2,if_pos h2];rfl
   rw[if_neg h2,if_neg h2]
   by_cases h3:i<67+21
   ·rw[if_pos h3,if_pos h3]
    show Value.int .u64 (if i-67<j then _ else 0)=Value.int .u64 (if i-67<j+1 then _ else 0)
    by_cases h4:i-67<j
    ·rw[if_pos h4,if_pos (by omega)]
    ·rw[if_neg h4,if_neg (by omega)]
   rw[if_neg h3,if_neg h3];rfl
 ·rw[if_neg (by omega),List.getElem?_eq_none (by rw[HD.len];omega),List.getElem?_eq_none (by rw[HD.len];omega)]
theorem hdI_splice (l:List Int)(k j:Nat)(hk:k<4)(hl:272≤l.length):splice ((hdI l k j).cells 21) (3+16*k) (((l.drop (24+16*k)).take 16).map (Value.int .u8))=(hdI l (k+1) j).cells 21:=by
 have hc:(((l.drop (24+16*k)).take 16).map (Value.int .u8)).length=16:=by simp;omega
 apply List.ext_getElem?
 intro i
 unfold splice
 rw[hc]
 by_cases hi:i<91
 ·rw[HD.get _ 21 i hi]
  by_cases h1:i<3+16*k
  ·rw[List.getElem?_append_left (by rw[List.length_take,HD.len];omega),List.getElem?_take_of_lt h1,HD.get _ 21 i hi]
   congr 1
   unfold HD.at_
   by_cases h2:i<3
   ·rw[if_pos h2,if_pos h2];rfl
   ·rw[if_neg h2,if_neg h2,if_pos (by omega),if_pos (by omega)]
    show Value.int .u8 (if i-3<16*k then _ else 0)=Value.int .u8 (if i-3<16*(k+1)then _ else 0)
    rw[if_pos (by omega),if_pos (by omega)]
  ·by_cases h2:i<19+16*k
   ·rw[List.getElem?_append_right (by rw[List.length_take,HD.len];omega),List.length_take,HD.len,Nat.min_eq_left (by omega),List.getElem?_append_left (by rw[hc];omega),List.getElem?_map,List.getElem?_take_of_lt (by omega),List.getElem?_drop,List.getElem?_eq_getElem (by omega)]
    unfold HD.at_
    rw[if_neg (by omega),if_pos (by omega)]
    show some (Value.int .u8 _)=some (Value.int .u8 (if i-3<16*(k+1)then l.getD (24+(i-3)) 0 else 0))
    rw[if_pos (by omega),List.getD_eq_getElem?_getD,List.getElem?_eq_getElem (by omega)]
    simp only[Option.getD_some]
    congr 3
    omega
   ·rw[List.getElem?_append_right (by rw[List.length_take,HD.len];omega),List.length_take,HD.len,Nat.min_eq_left (by omega),List.getElem?_append_right (by rw[hc];omega),hc,List.getElem?_drop,show 3+16*k+16+(i-(3+16*k)-16)=i by omega,HD.get _ 21 i hi]
    congr 1
    unfold HD.at_
    have h0: ¬i<3:=by omega
    rw[if_neg h0,if_neg h0]
    by_cases h3:i<67
    ·rw[if_pos h3,if_pos h3]
     show Value.int .u8 (if i-3<16*k then _ else 0)=Value.int .u8 (if i-3<16*(k+1)then _ else 0)
     rw[if_neg (by omega),if_neg (by omega)]
    ·rw[if_neg h3,if_neg h3];rfl
 ·rw[List.getElem?_eq_none (by simp only[List.length_append,List.length_take,List.length_drop,HD.len,hc];omega),List.getElem?_eq_none (by rw[HD.len];omega)]
theorem hd_built (cp ic st ta ti te:Int):Tryz.prog.built 39 [(0,.int .u32 cp),(1,.int .u32 ic),(2,.int .i64 st),(28,.int .u32 ta),(29,.int .u32 ti),(30,.int .u64 te)]=some ((⟨cp,ic,st,fun _=>0,fun _=>0,ta,ti,te⟩:HD).cells 21).toArray:=by kernel_rfl
theorem number_any (A:Option Addr)(l:List Int)(n c p k:Nat)(w:World)(hb:Bytes w A l)(hL:l.length=n)(hn:n≤1000000)(hk:isW k=true)(hp:p+k≤n):
 Calls Tryz.prog 127 #[.slice A n c,.int .i64 (p:Int),.int .i64 (k:Int)] w fun e w'=>e= .returned (.int .u64 (leNum ((l.drop p).take k)))∧w=w':=by
 subst hL
 obtain⟨h1,h2⟩:=isW_bd hk
 have HG:=yH (get_yes A l c p k w (by omega) (by unfold fits;rw[hk];simp;omega) hb (by omega) (by omega) hp)
 generalize leNum ((l.drop p).take k)=x at*
 clear hb
 go_enter Tryz.func127,Tryz.ntmps127
 go_wp2_with(go_at_call 69;((with_reducible refine HG.out.mono ?_);rintro e w' ⟨rfl,rfl⟩))
 go_ret
 exact⟨rfl,rfl⟩
end Gj
namespace Gk
open Bytes8 Blk8 Own8 OwnE LeP Ob Ga Gb Gc Gd Gj
def stH (p v:Value):Sem Unit:=Instr.storeAt 39 p v
theorem st_fold (p v:Value):Instr.storeAt 39 p v=stH p v:=rfl
def bldH (parts:Array (Nat×Value)):Sem Value:=Instr.build 39 parts
theorem bld_fold (parts:Array (Nat×Value)):Instr.build 39 parts=bldH parts:=rfl
theorem store_head (w:World)(g:Nat)(old cs:Array Value)(h:w.heap[g]? =some (.cells old 39 (0,0)))(ho:old.size=cs.size)(hi:(Tryz.prog.info? 39).map (·.size)=some cs.size)(h1:cs.all (·.oneCell')=true):
 (stH (.pointer (some ⟨g,0,none⟩)) (.agg cs)).run Tryz.prog w= .ok () (w.setRow g cs):=by
 unfold stH
 simp only[Instr.storeAt,Instr.sureAddr,Sem.run_bind,Sem.run_pure,Result.andThen_ok]
 exact run_storeVar_row w g 39 39 old cs h hi ho h1
theorem build_head (w:World)(cp ic st ta ti te:Int):(bldH #[(0,.int .u32 cp),(1,.int .u32 ic),(2,.int .i64 st),(28,.int .u32 ta),(29,.int .u32 ti),(30,.int .u64 te)]).run Tryz.prog w= .ok (.agg ((⟨cp,ic,st,fun _=>0,fun _=>0,ta,ti,te⟩:HD).cells 21).toArray) w:=by
 unfold bldH
 exact run_build w _ _ _ (hd_built cp ic st ta ti te)
attribute [local irreducible] HD.cells wpList Code.wp
attribute [local go_sem ↓] st_fold bld_fold
theorem taken_any (A:Option Addr)(l:List Int)(n c:Nat)(w:World)(hb:Bytes w A l)(hL:l.length=n)(h272:272≤n)(hn:n≤1000000)(hc:n≤c):
 Calls Tryz.prog 64 #[.slice A n c] w fun e w'=>e= .returned (.agg ((hdOf l).cells 21).toArray)∧Below w.heap.size w w':=by
 have N8:=yH fun(W:World) (hW:Bytes W A l)=>show Calls Tryz.prog 127 #[.slice A n c,.int .i64 8,.int .i64 4] W fun e w'=>e= .returned (.int .u64 (u4 l 8))∧W=w' from number_any A l n c 8 4 W hW hL (by omega) rfl (by omega)
 have N12:=yH fun(W:World) (hW:Bytes W A l)=>show Calls Tryz.prog 127 #[.slice A n c,.int .i64 12,.int .i64 4] W fun e w'=>e= .returned (.int .u64 (u4 l 12))∧W=w' from number_any A l n c 12 4 W hW hL (by omega) rfl (by omega)
 have N256:=yH fun(W:World) (hW:Bytes W A l)=>show Calls Tryz.prog 127 #[.slice A n c,.int .i64 256,.int .i64 4] W fun e w'=>e= .returned (.int .u64 (u4 l 256))∧W=w' from number_any A l n c 256 4 W hW hL (by omega) rfl (by omega)
 have N260:=yH fun(W:World) (hW:Bytes W A l)=>show Calls Tryz.prog 127 #[.slice A n c,.int .i64 260,.int .i64 4] W fun e w'=>e= .returned (.int .u64 (u4 l 260))∧W=w' from number_any A l n c 260 4 W hW hL (by omega) rfl (by omega)
 have N264:=yH fun(W:World) (hW:Bytes W A l)=>show Calls Tryz.prog 127 #[.slice A n c,.int .i64 264,.int .i64 8] W fun e w'=>e= .returned (.int .u64 (u8 l 264))∧W=w' from number_any A l n c 264 8 W hW hL (by omega) rfl (by omega)
 have U8:=u4_bd hb.1 8
 have U12:=u4_bd hb.1 12
 have U256:=u4_bd hb.1 256
 have U260:=u4_bd hb.1 260
 have U16:=hb.1.at_ 16
 have K8:IntKind.u32.wrap (u4 l 8)=u4 l 8:=by rw[IntKind.wrap_u32];omega
 have K12:IntKind.u32.wrap (u4 l 12)=u4 l 12:=by rw[IntKind.wrap_u32];omega
 have K256:IntKind.u32.wrap (u4 l 256)=u4 l 256:=by rw[IntKind.wrap_u32];omega
 have K260:IntKind.u32.wrap (u4 l 260)=u4 l 260:=by rw[IntKind.wrap_u32];omega
 have K16:IntKind.i64.wrap (l.getD 16 0)=l.getD 16 0:=by rw[IntKind.wrap_i64];omega
 obtain⟨bb,off,rfl,hblt,hcell⟩:=hb.spot (by omega)
 have HB:=yH hb
 have HLt:=yH hblt
 have HCell:=yH (hcell 16 (by omega))
 clear hcell hblt
 go_enter Tryz.func64,Tryz.ntmps64
 go_upto_region 1 with fail
 have b1:=yH ((Below.refl w.heap.size w).alloc (yR _) (.cells Tryz.zeroCells39 39))
 have Z1:=yH (heap_alloc_new w (.cells Tryz.zeroCells39 39))
 have s1:=yH (show(w.alloc (.cells Tryz.zeroCells39 39)).heap.size=w.heap.size+1 by simp)
 generalize w.alloc (.cells Tryz.zeroCells39 39)=w1 at*
 have HBa:=yH (show Bytes w1.drew (some ⟨bb,off,none⟩) l from(HB.out.below b1.out (yR _)).drew)
 have BB:=yH ((Below.refl w1.heap.size w1).alloc (yR _) (.cells Tryz.zeroCells39 39)).drew
 have HBb:=yH (show Bytes ((w1.alloc (.cells Tryz.zeroCells39 39)).drew) (some ⟨bb,off,none⟩) l from(HB.out.below b1.out (yR _)).below BB.out (yR _))
 have qa:w1.drew.cell? ⟨bb,off+16,none⟩=some (.int .u8 (l.getD 16 0)):=(b1.out.cell (p:=⟨bb,off+16,none⟩) HLt.out).trans HCell.out
 have hlt1:=yL HLt.out b1.out.size
 have qb:((w1.alloc (.cells Tryz.zeroCells39 39)).drew).cell? ⟨bb,off+16,none⟩=some (.int .u8 (l.getD 16 0)):=(BB.out.cell (p:=⟨bb,off+16,none⟩) hlt1).trans qa
 have hbld:=fun W:World=>build_head W (u4 l 8) (u4 l 12) (l.getD 16 0) (u4 l 256) (u4 l 260) (u8 l 264)
 have hnew:((w1.alloc (.cells Tryz.zeroCells39 39)).drew).heap[w1.heap.size]? =some (.cells Tryz.zeroCells39 39 (0,0)):=heap_alloc_new w1 _
 have hsto:=store_head ((w1.alloc (.cells Tryz.zeroCells39 39)).drew) w1.heap.size _ ((⟨u4 l 8,u4 l 12,l.getD 16 0,fun _=>0,fun _=>0,u4 l 256,u4 l 260,u8 l 264⟩:HD).cells 21).toArray hnew zeros_size (cells_info _) (HD.one _ 21)
 have BC:=yH (show Below w1.heap.size w1 (((w1.alloc (.cells Tryz.zeroCells39 39)).drew).setRow w1.heap.size ((⟨u4 l 8,u4 l 12,l.getD 16 0,fun _=>0,fun _=>0,u4 l 256,u4 l 260,u8 l 264⟩:HD).cells 21).toArray)from below_setRow BB.out (yR _) _)
 have qc:(((w1.alloc (.cells Tryz.zeroCells39 39)).drew).setRow w1.heap.size ((⟨u4 l 8,u4 l 12,l.getD 16 0,fun _=>0,fun _=>0,u4 l 256,u4 l 260,u8 l 264⟩:HD).cells 21).toArray).cell? ⟨bb,off+16,none⟩=some (.int .u8 (l.getD 16 0)):=(BC.out.cell (p:=⟨bb,off+16,none⟩) hlt1).trans qa
 have RC:=yH (show Blk (((w1.alloc (.cells Tryz.zeroCells39 39)).drew).setRow w1.heap.size ((⟨u4 l 8,u4 l 12,l.getD 16 0,fun _=>0,fun _=>0,u4 l 256,u4 l 260,u8 l 264⟩:HD).cells 21).toArray) w1.heap.size ((⟨u4 l 8,u4 l 12,l.getD 16 0,fun _=>0,fun _=>0,u4 l 256,u4 l 260,u8 l 264⟩:HD).cells 21) 39 from setRow_heap _ _ _ _ _ (0,0) hnew)
 have d16:(16:Int)<(n:Int):=by omega
 clear hnew U8 U12 U256 U260 U16
 have HZ:=yH (hdI_zero l)
 generalize u4 l 8=cp at*
 generalize u4 l 12=ic at*
 generalize u4 l 256=ta at*
 generalize u4 l 260=ti at*
 generalize u8 l 264=te at*
 generalize l.getD 16 0=s16 at*
 go_cut [3]from 8 to 27 (fun z wx=>z= .pointer (some ⟨w1.heap.size,0,none⟩)∧Hid (Blk wx w1.heap.size ((⟨cp,ic,s16,fun _=>0,fun _=>0,ta,ti,te⟩:HD).cells 21) 39)∧Hid (Below w1.heap.size w1 wx))
 case first=>
  go_region_held3 (fun W=>W.cell? ⟨bb,off+16,none⟩=some (.int .u8 (s16))) (first|(with_reducible exact qa)|(with_reducible exact qb)|(with_reducible exact qc)|go_keep) ((go_simp;go_at_call 127;(first|(with_reducible refine(N8.out _ HBa.out).mono ?_)|(with_reducible refine(N8.out _ HBb.out).mono ?_)|(with_reducible refine(N12.out _ HBa.out).mono ?_)|(with_reducible refine(N12.out _ HBb.out).mono ?_)|(with_reducible refine(N256.out _ HBa.out).mono ?_)|(with_reducible refine(N256.out _ HBb.out).mono ?_)|(with_reducible refine(N260.out _ HBa.out).mono ?_)|(with_reducible refine(N260.out _ HBb.out).mono ?_)|(with_reducible refine(N264.out _ HBa.out).mono ?_)|(with_reducible refine(N264.out _ HBb.out).mono ?_));rintro e w' ⟨rfl,rfl⟩))
  all_goals
   go_wp2_with fail
   go_meet
   case rel=>exact⟨rfl,RC,BC⟩
 case rest=>
  obtain⟨rfl,hR,hB⟩:=hcut
  have R2:=yH (show Blk wc w1.heap.size ((hdI l 0 0).cells 21) 39 by rw[HZ.out];exact hR.out)
  have B2:=yH hB.out
  clear hR hB RC BC qa qb qc hbld hsto HZ K8 K12 K256 K260 K16 N8 N12 N256 N260 N264 HBa HBb BB
  go_upto_region 3 with(go_at_call 67;((with_reducible refine(ids_any _ _).mono ?_);rintro e w3 ⟨rfl,hb3⟩;have R3:=yH (R2.out.below hb3 R2.out.lt);have B3:=yH (B2.out.trans (hb3.mono B2.out.size));clear hb3))
  have HI:=yH fun(k:Nat) (hk:k<4)=>fun(W:World)=>ids_index w1.heap.size k hk W
  have HS:=yH fun(k:Nat) (hk:k<4)=>hdI_splice l k 0 hk (by omega)
  clear R2
  go_loopw [28] (fun i wr=> ∃k:Nat,k≤4∧i= .int .i64 (k:Int)∧Hid (Blk wr w1.heap.size ((hdI l k 0).cells 21) 39)∧Hid (Below w1.heap.size w1 wr)) (fun i _=>4-(intOf i).toNat)
  case atStart=>exact⟨0,Nat.zero_le _,rfl,R3,B3⟩
  case round=>
   obtain⟨k,hk,rfl,hR,hB⟩:=hrel
   by_cases hlt:k<4
   ·have hix:=HI.out k hlt
    have hsp:=yH (HS.out k hlt)
    have e1:IntKind.i64.wrap ((k:Int)*16)=(k:Int)*16:=IntWalk.i64_in _ (by omega)
    have e2:IntKind.i64.wrap (24+(k:Int)*16)=24+(k:Int)*16:=IntWalk.i64_in _ (by omega)
    have hcut: ∀W:World,(Instr.slice 24 (.slice (some ⟨bb,off,none⟩) n c) (some (.int .i64 (24+(k:Int)*16))) none none).run Tryz.prog W= .ok (.slice (cutA (some ⟨bb,off,none⟩) c (24+16*k)) (n-(24+16*k)) (c-(24+16*k))) W:=fun W=>by
     rw[show(24+(k:Int)*16)=((24+16*k:Nat):Int)by omega]
     exact cut_l _ n c (24+16*k) (by omega) W
    have HCt:=yH (show cutA (some ⟨bb,off,none⟩) c (24+16*k)=some ⟨bb,off+(24+16*k),none⟩by rw[cutA_some,if_neg (by omega)])
    have HBr:=yH (show Bytes wr (some ⟨bb,off,none⟩) l from(HB.out.below b1.out (yR _)).below hB.out (yR _))
    have HSrc:=yH (show ∀(j:Nat) (x:Value),(((l.drop (24+16*k)).take 16).map (Value.int .u8))[j]? =some x→wr.cell? ((⟨bb,off+(24+16*k),none⟩:Addr).add j)=some x from fun j x hj=>by
     have hj16:j<16:=by have:=(List.getElem?_eq_some_iff.1 hj).1;simp at this;omega
     obtain⟨b9,off9,e9,_,hc9⟩:=HBr.out.2 (24+16*k+j) (by rw[hL];omega)
     injection e9 with e9
     injection e9 with e9 e10
     subst e9 e10
     rw[add_none,Nat.add_assoc,hc9,←hj]
     simp[hj16,List.getD_eq_getElem?_getD,List.getElem?_eq_getElem (show 24+16*k+j<l.length by omega)])
    have HLen:=yH (show(((l.drop (24+16*k)).take 16).map (Value.int .u8)).length=16 by simp;omega)
    go_wp2_with fail
    refine wp_region_still_tail 8 (by kernel_rfl) (by kernel_rfl) ?_
    simp only[List.take_succ_cons,List.take_zero,List.drop_succ_cons,List.drop_zero]
    repeat still_step
    try refine wpStill_nil ?_
    change wpList _ _ _ _ _ wr.drew
    have HW:=yH (show Below w1.heap.size w1 wr.drew from hB.out.drew)
    refine wpList_copy_splice rfl (.tmp 34) (.tmp 39) 24 24 rfl 5 Tryz.underlying24 size8 (some ⟨w1.heap.size,3+16*k,none⟩) (cutA (some ⟨bb,off,none⟩) c (24+16*k)) 16 16 (n-(24+16*k)) (c-(24+16*k)) rfl rfl w1.heap.size (3+16*k) ((hdI l k 0).cells 21) 39 hR.out (((l.drop (24+16*k)).take 16).map (Value.int .u8)) (by rw[HLen.out];show 16=min _ _;omega) (fun _=>⟨rfl,_,HCt.out,HSrc.out⟩) (by rw[HLen.out,HD.len];omega) (fun v hv=>by obtain⟨x,_,rfl⟩:=List.mem_map.1 hv;rfl) w1.heap.size w1 HW.out (yR _) ?_
    intro w5 h5 hb5
    have R5:=yH (show Blk w5 w1.heap.size ((hdI l (k+1) 0).cells 21) 39 by rw[←hsp.out];exact h5.out)
    have B5:=yH hb5
    clear h5 hb5 e1 e2 hcut
    go_wp2_with fail
    go_roundw
    case rel=>exact⟨k+1,by omega,by go_num,R5,B5⟩
    case measure=>simp[intOf];omega
   ·obtain rfl:k=4:=by omega
    clear HI HS R3 B3
    rename World=>w6
    go_upto_region 8 with(go_at_call 68;((with_reducible refine(hnums_any _ _).mono ?_);rintro e w7 ⟨rfl,hb7⟩;have R7:=yH (hR.out.below hb7 hR.out.lt);have B7:=yH (hB.out.trans (hb7.mono hB.out.size));clear hb7))
    have HN:=yH fun(j:Nat) (hj:j<21)=>fun(W:World)=>nums_index w1.heap.size j hj W
    have HS:=yH fun(j:Nat) (hj:j<21)=>hdI_set l j hj
    have HNum:=yH fun(j:Nat) (hj:j<21) (W:World) (hW:Bytes W (some ⟨bb,off,none⟩) l)=>show Calls Tryz.prog 127 #[.slice (some ⟨bb,off,none⟩) n c,.int .i64 (88+(j:Int)*8),.int .i64 8] W fun e w'=>e= .returned (.int .u64 (Ob.u8 l (88+8*j)))∧W=w' by
     rw[show(88+(j:Int)*8)=((88+8*j:Nat):Int)by omega]
     exact number_any _ l n c (88+8*j) 8 W hW hL hn rfl (by omega)
    clear hR hB
    go_loopw [43] (fun i wr=> ∃j:Nat,j≤21∧i= .int .i64 (j:Int)∧Hid (Blk wr w1.heap.size ((hdI l 4 j).cells 21) 39)∧Hid (Below w1.heap.size w1 wr)) (fun i _=>21-(intOf i).toNat)
    case atStart=>exact⟨0,Nat.zero_le _,rfl,R7,B7⟩
    case round=>
     obtain⟨j,hj,rfl,hR,hB⟩:=hrel
     by_cases hlt:j<21
     ·have hix:=HN.out j hlt
      have hst:=yH (HS.out j hlt)
      have HBr:=yH (show Bytes wr (some ⟨bb,off,none⟩) l from(HB.out.below b1.out (yR _)).below hB.out (yR _))
      have HNj:=yH (HNum.out j hlt wr HBr.out)
      have ck:=HD.nums_at (h:=hdI l 4 j) hR.out j hlt
      have fk:=hR.out.frozen (67+j)
      generalize Ob.u8 l (88+8*j)=x at*
      go_wp2_with(go_at_call 127;((with_reducible refine HNj.out.mono ?_);rintro e w' ⟨rfl,rfl⟩))
      go_roundw
      case rel=>exact⟨j+1,by omega,by go_num,yH (by rw[←hst.out];exact hR.out.set_ (67+j) _),yH (hB.out.setCell (yR _) _)⟩
      case measure=>simp[intOf];omega
     ·obtain rfl:j=21:=by omega
      have R8:=yH (show Blk wr w1.heap.size ((hdOf l).cells 21) 39 by rw[←hdI_whole];exact hR.out)
      have Z8:=yH ((hB.out.block w.heap.size (by rw[s1.out];exact Nat.lt_succ_self _)).trans Z1.out)
      have B8:=yH (b1.out.trans (hB.out.mono (by rw[s1.out];exact Nat.le_succ _)))
      clear HN HS HNum R7 B7 hR hB
      rename World=>w9
      go_wp2_with(first
       |((with_reducible apply at_slot 55);refine wpList_load_row rfl 39 (.tmp 3) rfl w1.heap.size rfl 39 ((hdOf l).cells 21).toArray (0,0) _ R8.out Tryz.underlying39 rfl (cells_info _) ?_)
       |((with_reducible apply at_store (.tmp 2) (.tmp 55));refine wpList_store_row rfl 39 (.tmp 2) (.tmp 55) rfl w.heap.size ((hdOf l).cells 21).toArray rfl rfl 39 Tryz.zeroCells39 Z8.out (cells_info _) zeros_size (HD.one _ 21) ?_))
      refine bodyPost_ret (v:= .agg ((hdOf l).cells 21).toArray) (by exact results_cell_row Tryz.results64 _ _ w.heap.size 39 _ (0,0) _ rfl (setRow_heap _ w.heap.size _ _ _ (0,0) Z8.out) Tryz.underlying39 rfl (cells_info _)) rfl ?_
      exact⟨rfl,below_setRow B8.out (yR _) _⟩
end Gk
namespace Gl
open Bytes8 Blk8 Own8 OwnE Ga Gb
def tcode (a z from1 en:Int):Int:=if a%8≠0 then 3 else if z=0∨z%16≠0 then 5 else if a<from1+16∨en<a∨en-a<z then 2 else 0
theorem isState_any (s:Int)(w:World):Calls Tryz.prog 128 #[.int .i64 s] w fun e w'=>e= .returned (.bool (s==0||s==1||s==2))∧w=w':=by
 by_cases h0:s=0
 ·subst h0
  go_enter Tryz.func128,Tryz.ntmps128
  go_wp2
  go_ret
  exact⟨rfl,rfl⟩
 by_cases h1:s=1
 ·subst h1
  go_enter Tryz.func128,Tryz.ntmps128
  go_wp2
  go_ret
  exact⟨rfl,rfl⟩
 ·have d0:(s==0)=false:=by simp[h0]
  have d1:(s==1)=false:=by simp[h1]
  go_enter Tryz.func128,Tryz.ntmps128
  go_wp2
  go_ret
  exact⟨ret_bool (by rw[d0,d1];simp),rfl⟩
attribute [local irreducible] HD.cells wpList Code.wp
theorem tf_any (h:HD)(ok:h.Ok 21)(en a z:Int)(he:0≤en∧en≤18446744073709551615)(ha:0≤a∧a≤18446744073709551615)(hz:0≤z∧z≤18446744073709551615)(hN:h.N 0≤1000000000)(w:World):
 Calls Tryz.prog 129 #[.agg (h.cells 21).toArray,.int .u64 en,.int .u64 a,.int .u64 z] w fun e w'=>e= .returned (.int .i64 (tcode a z (h.N 0) en))∧Below w.heap.size w w':=by
 have b0:=yH ((Below.refl w.heap.size w).alloc (yR _) (.cells (h.cells 21).toArray 39))
 have R0:=(show Blk (w.alloc (.cells (h.cells 21).toArray 39)) w.heap.size (h.cells 21) 39 from Blk.new w _ _)
 have c0:=HD.nums_at R0 0 (by decide)
 have hn0:=(ok.N 0).1
 clear R0
 by_cases h1:a%8=0
 ·by_cases h2:z=0
  ·rw[show tcode a z (h.N 0) en=5 by unfold tcode;rw[if_neg (by simpa using h1),if_pos (Or.inl h2)]]
   subst h2
   go_enter Tryz.func129,Tryz.ntmps129
   go_wp2
   go_ret
   exact⟨rfl,b0.out⟩
  have d2:(z==0)=false:=by simp[h2]
  by_cases h3:z%16=0
  ·by_cases h4:a<h.N 0+16
   ·rw[show tcode a z (h.N 0) en=2 by unfold tcode;rw[if_neg (by simpa using h1),if_neg (by omega),if_pos (Or.inl h4)]]
    go_enter Tryz.func129,Tryz.ntmps129
    go_wp2
    go_ret
    exact⟨rfl,b0.out⟩
   have d4:decide (a<h.N 0+16)=false:=by simp;omega
   by_cases h5:en<a
   ·have d5:decide (en<a)=true:=by simp;omega
    rw[show tcode a z (h.N 0) en=2 by unfold tcode;rw[if_neg (by simpa using h1),if_neg (by omega),if_pos (Or.inr (Or.inl h5))]]
    go_enter Tryz.func129,Tryz.ntmps129
    go_wp2
    go_ret
    exact⟨rfl,b0.out⟩
   have d5:decide (en<a)=false:=by simp;omega
   by_cases h6:en-a<z
   ·have d6:decide (en-a<z)=true:=by simp;omega
    rw[show tcode a z (h.N 0) en=2 by unfold tcode;rw[if_neg (by simpa using h1),if_neg (by omega),if_pos (Or.inr (Or.inr h6))]]
    go_enter Tryz.func129,Tryz.ntmps129
    go_wp2
    go_ret
    exact⟨rfl,b0.out⟩
   ·have d6:decide (en-a<z)=false:=by simp;omega
    rw[show tcode a z (h.N 0) en=0 by unfold tcode;rw[if_neg (by simpa using h1),if_neg (by omega),if_neg (by omega)]]
    go_enter Tryz.func129,Tryz.ntmps129
    go_wp2
    go_ret
    exact⟨rfl,b0.out⟩
  ·have d3: ¬z%16=0:=h3
   rw[show tcode a z (h.N 0) en=5 by unfold tcode;rw[if_neg (by simpa using h1),if_pos (Or.inr h3)]]
   go_enter Tryz.func129,Tryz.ntmps129
   go_wp2
   go_ret
   exact⟨rfl,b0.out⟩
 ·rw[show tcode a z (h.N 0) en=3 by unfold tcode;rw[if_pos h1]]
  go_enter Tryz.func129,Tryz.ntmps129
  go_wp2
  go_ret
  exact⟨rfl,b0.out⟩
theorem rtable_any (fr en a z:Int)(hf:0≤fr∧fr≤18446744073709551615)(he:0≤en∧en≤18446744073709551615)(ha:0≤a∧a≤18446744073709551615)(hz:0≤z∧z≤18446744073709551615)(w:World):
 Calls Tryz.prog 166 #[.int .u64 a,.int .u64 z,.int .u64 fr,.int .u64 en] w fun e w'=>e= .returned (.int .i64 (tcode a z fr en))∧w=w':=by
 by_cases h1:a%8=0
 ·by_cases h2:z=0
  ·rw[show tcode a z fr en=5 by unfold tcode;rw[if_neg (by simpa using h1),if_pos (Or.inl h2)]]
   subst h2
   go_enter Tryz.func166,Tryz.ntmps166
   go_wp2
   go_ret
   exact⟨rfl,rfl⟩
  have d2:(z==0)=false:=by simp[h2]
  by_cases h3:z%16=0
  ·by_cases h4:a<fr
   ·have d4:decide (a<fr)=true:=by simp;omega
    rw[show tcode a z fr en=2 by unfold tcode;rw[if_neg (by simpa using h1),if_neg (by omega),if_pos (Or.inl (by omega))]]
    go_enter Tryz.func166,Tryz.ntmps166
    go_wp2
    go_ret
    exact⟨rfl,rfl⟩
   have d4:decide (a<fr)=false:=by simp;omega
   by_cases h4b:a-fr<16
   ·have d4b:decide (a-fr<16)=true:=by simp;omega
    rw[show tcode a z fr en=2 by unfold tcode;rw[if_neg (by simpa using h1),if_neg (by omega),if_pos (Or.inl (by omega))]]
    go_enter Tryz.func166,Tryz.ntmps166
    go_wp2
    go_ret
    exact⟨rfl,rfl⟩
   have d4b:decide (a-fr<16)=false:=by simp;omega
   by_cases h5:en<a
   ·have d5:decide (en<a)=true:=by simp;omega
    rw[show tcode a z fr en=2 by unfold tcode;rw[if_neg (by simpa using h1),if_neg (by omega),if_pos (Or.inr (Or.inl h5))]]
    go_enter Tryz.func166,Tryz.ntmps166
    go_wp2
    go_ret
    exact⟨rfl,rfl⟩
   have d5:decide (en<a)=false:=by simp;omega
   by_cases h6:en-a<z
   ·have d6:decide (en-a<z)=true:=by simp;omega
    rw[show tcode a z fr en=2 by unfold tcode;rw[if_neg (by simpa using h1),if_neg (by omega),if_pos (Or.inr (Or.inr h6))]]
    go_enter Tryz.func166,Tryz.ntmps166
    go_wp2
    go_ret
    exact⟨rfl,rfl⟩
   ·have d6:decide (en-a<z)=false:=by simp;omega
    rw[show tcode a z fr en=0 by unfold tcode;rw[if_neg (by simpa using h1),if_neg (by omega),if_neg (by omega)]]
    go_enter Tryz.func166,Tryz.ntmps166
    go_wp2
    go_ret
    exact⟨rfl,rfl⟩
  ·rw[show tcode a z fr en=5 by unfold tcode;rw[if_neg (by simpa using h1),if_pos (Or.inr h3)]]
   go_enter Tryz.func166,Tryz.ntmps166
   go_wp2
   go_ret
   exact⟨rfl,rfl⟩
 ·rw[show tcode a z fr en=3 by unfold tcode;rw[if_pos h1]]
  go_enter Tryz.func166,Tryz.ntmps166
  go_wp2
  go_ret
  exact⟨rfl,rfl⟩
end Gl
end Go.Proofs.YtiddkgcafpaekaaGreat
