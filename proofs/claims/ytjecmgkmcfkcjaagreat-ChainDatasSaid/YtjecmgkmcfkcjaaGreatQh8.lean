/-
  Texts beneath the proof.
-/
import Derived.StillTailTactics
import Derived.Test.YtjecmgkmcfkcjaaGreatQh7
set_option linter.unusedVariables false
set_option linter.unusedSimpArgs false
set_option maxRecDepth 100000
set_option maxHeartbeats 1000000
open Go.ChangeShapes Go.WideShapes Go.ChangeAt Go.RowKit
namespace Go.Proofs.YtjecmgkmcfkcjaaGreat
namespace Ol7
end Ol7
namespace Gc
open Bytes8 Blk8 Own8 Ob Ga Gb
abbrev idsV (g:Nat):Value:= .agg #[.pointer (some ⟨g,3,none⟩),.pointer (some ⟨g,19,none⟩),.pointer (some ⟨g,35,none⟩),.pointer (some ⟨g,51,none⟩)]
abbrev numsV (g:Nat):Value:= .agg #[.pointer (some ⟨g,67,none⟩),.pointer (some ⟨g,68,none⟩),.pointer (some ⟨g,69,none⟩),.pointer (some ⟨g,70,none⟩),.pointer (some ⟨g,71,none⟩),.pointer (some ⟨g,72,none⟩),.pointer (some ⟨g,73,none⟩),.pointer (some ⟨g,74,none⟩),.pointer (some ⟨g,75,none⟩),.pointer (some ⟨g,76,none⟩),.pointer (some ⟨g,77,none⟩),.pointer (some ⟨g,78,none⟩),.pointer (some ⟨g,79,none⟩),.pointer (some ⟨g,80,none⟩),.pointer (some ⟨g,81,none⟩),.pointer (some ⟨g,82,none⟩),.pointer (some ⟨g,83,none⟩),.pointer (some ⟨g,84,none⟩),.pointer (some ⟨g,85,none⟩),.pointer (some ⟨g,86,none⟩),.pointer (some ⟨g,87,none⟩)]
theorem nums_one (g:Nat):(#[.pointer (some ⟨g,67,none⟩),.pointer (some ⟨g,68,none⟩),.pointer (some ⟨g,69,none⟩),.pointer (some ⟨g,70,none⟩),.pointer (some ⟨g,71,none⟩),.pointer (some ⟨g,72,none⟩),.pointer (some ⟨g,73,none⟩),.pointer (some ⟨g,74,none⟩),.pointer (some ⟨g,75,none⟩),.pointer (some ⟨g,76,none⟩),.pointer (some ⟨g,77,none⟩),.pointer (some ⟨g,78,none⟩),.pointer (some ⟨g,79,none⟩),.pointer (some ⟨g,80,none⟩),.pointer (some ⟨g,81,none⟩),.pointer (some ⟨g,82,none⟩),.pointer (some ⟨g,83,none⟩),.pointer (some ⟨g,84,none⟩),.pointer (some ⟨g,85,none⟩),.pointer (some ⟨g,86,none⟩),.pointer (some ⟨g,87,none⟩)]:Array Value).all (·.oneCell')=true:=by simp[Value.oneCell']
theorem p4Info:(Tryz.prog.info? 265).map (·.size)=some 4:=by kernel_rfl
theorem p21Info:(Tryz.prog.info? 269).map (·.size)=some 21:=by kernel_rfl
theorem ids_any (g:Nat)(w:World):
 Calls Tryz.prog 175 #[.pointer (some ⟨g,0,none⟩)] w fun e w'=>e= .returned (idsV g)∧Below w.heap.size w w':=by
 go_enter Tryz.func175,Tryz.ntmps175
 go_wp2
 go_region
 all_goals
  go_wp2
  refine bodyPost_ret (v:=idsV g) (by exact results_cell_row Tryz.results175 _ _ w.heap.size 265 _ (0,0) _ rfl (heap_alloc_new w _) Tryz.underlying265 rfl p4Info) rfl ?_
  exact⟨rfl,((Below.refl w.heap.size w).alloc (Nat.le_refl _) _).drew⟩
theorem hnums_any (g:Nat)(w:World):
 Calls Tryz.prog 176 #[.pointer (some ⟨g,0,none⟩)] w fun e w'=>e= .returned (numsV g)∧Below w.heap.size w w':=by
 go_enter Tryz.func176,Tryz.ntmps176
 go_wp2
 have Z0:=Lib.hid (heap_alloc_new w (.cells #[.pointer none,.pointer none,.pointer none,.pointer none,.pointer none,.pointer none,.pointer none,.pointer none,.pointer none,.pointer none,.pointer none,.pointer none,.pointer none,.pointer none,.pointer none,.pointer none,.pointer none,.pointer none,.pointer none,.pointer none,.pointer none] 269))
 have B0:=Lib.hid ((Below.refl w.heap.size w).alloc (Nat.le_refl _) (.cells #[.pointer none,.pointer none,.pointer none,.pointer none,.pointer none,.pointer none,.pointer none,.pointer none,.pointer none,.pointer none,.pointer none,.pointer none,.pointer none,.pointer none,.pointer none,.pointer none,.pointer none,.pointer none,.pointer none,.pointer none,.pointer none] 269))
 generalize w.alloc (.cells #[.pointer none,.pointer none,.pointer none,.pointer none,.pointer none,.pointer none,.pointer none,.pointer none,.pointer none,.pointer none,.pointer none,.pointer none,.pointer none,.pointer none,.pointer none,.pointer none,.pointer none,.pointer none,.pointer none,.pointer none,.pointer none] 269)=w1 at*
 refine wp_region_still_tail 63 (by kernel_rfl) (by kernel_rfl) ?_
 simp only[List.append_eq,List.cons_append,List.nil_append,List.take_succ_cons,List.take_zero,List.drop_succ_cons,List.drop_zero]
 repeat still_step
 try refine wpStill_nil ?_
 change wpList _ _ _ _ _ w1.drew
 go_wp2_with(first
  |((with_reducible apply at_slot 66);refine wpList_build_as rfl 269 _ rfl #[.pointer (some ⟨g,67,none⟩),.pointer (some ⟨g,68,none⟩),.pointer (some ⟨g,69,none⟩),.pointer (some ⟨g,70,none⟩),.pointer (some ⟨g,71,none⟩),.pointer (some ⟨g,72,none⟩),.pointer (some ⟨g,73,none⟩),.pointer (some ⟨g,74,none⟩),.pointer (some ⟨g,75,none⟩),.pointer (some ⟨g,76,none⟩),.pointer (some ⟨g,77,none⟩),.pointer (some ⟨g,78,none⟩),.pointer (some ⟨g,79,none⟩),.pointer (some ⟨g,80,none⟩),.pointer (some ⟨g,81,none⟩),.pointer (some ⟨g,82,none⟩),.pointer (some ⟨g,83,none⟩),.pointer (some ⟨g,84,none⟩),.pointer (some ⟨g,85,none⟩),.pointer (some ⟨g,86,none⟩),.pointer (some ⟨g,87,none⟩)] (by kernel_rfl) ?_)
  |((with_reducible apply at_store (.tmp 2) (.tmp 66));refine wpList_store_row rfl 269 (.tmp 2) (.tmp 66) rfl w.heap.size #[.pointer (some ⟨g,67,none⟩),.pointer (some ⟨g,68,none⟩),.pointer (some ⟨g,69,none⟩),.pointer (some ⟨g,70,none⟩),.pointer (some ⟨g,71,none⟩),.pointer (some ⟨g,72,none⟩),.pointer (some ⟨g,73,none⟩),.pointer (some ⟨g,74,none⟩),.pointer (some ⟨g,75,none⟩),.pointer (some ⟨g,76,none⟩),.pointer (some ⟨g,77,none⟩),.pointer (some ⟨g,78,none⟩),.pointer (some ⟨g,79,none⟩),.pointer (some ⟨g,80,none⟩),.pointer (some ⟨g,81,none⟩),.pointer (some ⟨g,82,none⟩),.pointer (some ⟨g,83,none⟩),.pointer (some ⟨g,84,none⟩),.pointer (some ⟨g,85,none⟩),.pointer (some ⟨g,86,none⟩),.pointer (some ⟨g,87,none⟩)] rfl rfl 269 #[.pointer none,.pointer none,.pointer none,.pointer none,.pointer none,.pointer none,.pointer none,.pointer none,.pointer none,.pointer none,.pointer none,.pointer none,.pointer none,.pointer none,.pointer none,.pointer none,.pointer none,.pointer none,.pointer none,.pointer none,.pointer none] Z0.out p21Info rfl (nums_one g) ?_))
 refine bodyPost_ret (v:=numsV g) (by exact results_cell_row Tryz.results176 _ _ w.heap.size 269 _ (0,0) _ rfl (setRow_heap _ w.heap.size _ _ _ (0,0) Z0.out) Tryz.underlying269 rfl p21Info) rfl ?_
 exact⟨rfl,below_setRow B0.out.drew (Nat.le_refl _) _⟩
end Gc
namespace Gd
open Bytes8 Ga Gb Gc
theorem index_one {P:Program}(t e:TypeId)(n:Nat)(cs:Array Value)(i:Nat)(v:Value)(w:World)(hu:P.underlying t=some (.array n e))(d:TypeDesc)(he:P.underlying e=some d)(hd:(match d with| .struct _| .array _ _=>true|_=>false)=false)(hs:(P.info? e).map (·.size)=some 1)(hi:i<n)(hv:cs[i]? =some v):
 (Instr.index t (.agg cs) (.int .i64 (i:Int))).run P w= .ok v w:=by
 obtain⟨f,hf,hz⟩:=Option.map_eq_some_iff.1 hs
 have h1:(0:Int)≤(i:Int)∧(i:Int)<(n:Int):=by omega
 have hag:(isAgg e).run P w= .ok false w:=by
  unfold isAgg
  rw[Sem.run_bind,run_underlying he w]
  cases d<;>simp_all
 simp[Instr.index,run_underlying hu,asIntOf,h1,sizeOf,typeInfo,hf,hz,hi,part,hag,hv]
theorem ids_index (g k:Nat)(hk:k<4)(w:World):(Instr.index 265 (idsV g) (.int .i64 (k:Int))).run Tryz.prog w= .ok (.pointer (some ⟨g,3+16*k,none⟩)) w:=by
 refine index_one _ 264 4 _ k _ w Tryz.underlying265 _ Tryz.underlying264 rfl (by kernel_rfl) hk ?_
 rcases k with _|_|_|_|k
 all_goals first|rfl|omega
theorem nums_index (g k:Nat)(hk:k<21)(w:World):(Instr.index 269 (numsV g) (.int .i64 (k:Int))).run Tryz.prog w= .ok (.pointer (some ⟨g,67+k,none⟩)) w:=by
 refine index_one _ 268 21 _ k _ w Tryz.underlying269 _ Tryz.underlying268 rfl (by kernel_rfl) hk ?_
 rcases k with _|_|_|_|_|_|_|_|_|_|_|_|_|_|_|_|_|_|_|_|_|k
 all_goals first|rfl|omega
attribute [local irreducible] HD.cells wpList Code.wp
end Gd
namespace Gf
open Bytes8 Blk8 Own8 Ga Gb
def endV (h:HD):Int:=if h.N 0+h.N 1≤18446744073709551615 then h.N 0+h.N 1 else 0
def endB (h:HD):Bool:=decide (h.N 0+h.N 1≤18446744073709551615)
theorem add64_any (x y:Int)(hx:0≤x)(hy:0≤y)(w:World):
 (callFunc 124 #[.int .u64 x,.int .u64 y,.int .u64 0]).run Tryz.prog w= .ok (.value (.tuple #[.int .u64 ((x+y)%18446744073709551616),.int .u64 ((x+y)/18446744073709551616)])) w:=by
 have h:=run_add64 (P:=Tryz.prog) x y 0 hx hy (by decide) (by decide) w
 rw[Int.add_zero]at h
 rw[run_callFunc_extern Tryz.func124 (by kernel_rfl) (by kernel_rfl) (by kernel_rfl) (e:=add64Entry) (by kernel_rfl),h]
 rfl
attribute [local irreducible] HD.cells wpList Code.wp
theorem end_any (h:HD)(ok:h.Ok 21)(w:World):
 Calls Tryz.prog 67 #[.agg (h.cells 21).toArray] w fun e w'=>e= .returned (.tuple #[.int .u64 (endV h),.bool (endB h)])∧Below w.heap.size w w':=by
 have b0:=Lib.hid ((Below.refl w.heap.size w).alloc (Nat.le_refl _) (.cells (h.cells 21).toArray 78))
 have R0:=Lib.hid (show Blk (w.alloc (.cells (h.cells 21).toArray 78)) w.heap.size (h.cells 21) 78 from Blk.new w _ _)
 obtain⟨p0,p1⟩:=ok.N 0
 obtain⟨r0,r1⟩:=ok.N 1
 have c0:=HD.nums_at R0.out 0 (by decide)
 have c1:=HD.nums_at R0.out 1 (by decide)
 by_cases hle:h.N 0+h.N 1≤18446744073709551615
 ·rw[show endV h=h.N 0+h.N 1 from if_pos hle,show endB h=true from decide_eq_true hle]
  have ha:=add64_any (h.N 0) (h.N 1) p0 r0
  rw[show(h.N 0+h.N 1)%18446744073709551616=h.N 0+h.N 1 by omega,show(h.N 0+h.N 1)/18446744073709551616=0 by omega]at ha
  go_enter Tryz.func67,Tryz.ntmps67
  go_wp2
  go_ret2
  exact⟨rfl,b0.out⟩
 ·rw[show endV h=0 from if_neg hle,show endB h=false from decide_eq_false hle]
  have ha:=add64_any (h.N 0) (h.N 1) p0 r0
  rw[show(h.N 0+h.N 1)/18446744073709551616=1 by omega]at ha
  go_enter Tryz.func67,Tryz.ntmps67
  go_wp2
  go_ret2
  exact⟨rfl,b0.out⟩
end Gf
namespace Gi
open Bytes8 Blk8 Own8 Ga Gb
def hd0:HD:=⟨0,0,0,fun _=>0,fun _=>0,0,0,0⟩
theorem wpList_build_zero {P:Program}{ops:Array Oper}{rest:List Oper}{o:Oper}{a:Act}{w:World}{Q:Exit→Act→World→Prop}(hw:Region.wanted o (yielded ops a.tmps)=true)(t:TypeId)(ho:o.op= .build t #[])(cells:Array Value)
 (hb:P.built t []=some cells)(h:wpList P ops Q rest (a.put o.dst (.agg cells)) w):wpList P ops Q (o::rest) a w:=
 BigFrame.wpList_want hw fun K hK=>wp_build t #[] ho (by simp only[List.map_toArray,List.map_nil];rw[hb];rfl) (by simp only[List.map_toArray,List.map_nil];rw[hb];exact hK _ _ h)
theorem zero_built:Tryz.prog.built 78 []=some (hd0.cells 21).toArray:=by kernel_rfl
theorem res_rowG {P:Program}{fn:Func}{p u:Tmp}{ty:TypeId}(h:fn.results= #[.cell p ty,.tmp u])(tmps:Array Value)(w:World)(g:Nat)(t:TypeId)(cs:Array Value)(fr:Nat×Nat)(d:TypeDesc)(c:Value)
 (hp:tmps.getD p undef= .pointer (some ⟨g,0,none⟩))(hc:tmps.getD u undef=c)(hg:w.heap[g]? =some (.cells cs t fr))(hu:P.underlying ty=some d)(hd:(match d with| .struct _| .array _ _=>true|_=>false)=true)(hi:(P.info? ty).map (·.size)=some cs.size):
 (results fn tmps).run P w= .ok (.tuple #[.agg cs,c]) w:=by
 rw[results_cell_tmp h,hp,hc]
 simp[asAddr,run_loadVar_row w g t ty cs fr d hg hu hd hi,Result.andThen]
attribute [local irreducible] HD.cells wpList Code.wp
theorem read_short (A:Option Addr)(n c:Nat)(w:World)(hn:n<272):
 Calls Tryz.prog 66 #[.slice A n c] w fun e w'=>e= .returned (.tuple #[.agg (hd0.cells 21).toArray,.int .i64 22])∧Below w.heap.size w w':=by
 have d1:(n:Int)<272:=by omega
 go_enter Tryz.func66,Tryz.ntmps66
 go_upto_region 1 with fail
 have b1:=Lib.hid ((Below.refl w.heap.size w).alloc (Nat.le_refl _) (.cells Tryz.zeroCells78 78))
 have Z1:=Lib.hid (heap_alloc_new w (.cells Tryz.zeroCells78 78))
 generalize w.alloc (.cells Tryz.zeroCells78 78)=w1 at*
 go_wp2_with(first
  |((with_reducible apply at_slot 9);refine wpList_build_zero rfl 78 rfl _ zero_built ?_)
  |((with_reducible apply at_store (.tmp 2) (.tmp 9));refine wpList_store_row rfl 78 (.tmp 2) (.tmp 9) rfl w.heap.size (hd0.cells 21).toArray rfl rfl 78 Tryz.zeroCells78 Z1.out (cells_info _) zeros_size (HD.one _ 21) ?_))
 refine bodyPost_ret (v:= .tuple #[.agg (hd0.cells 21).toArray,.int .i64 22]) (by exact res_rowG Tryz.results66 _ _ w.heap.size 78 _ (0,0) _ _ rfl rfl (setRow_heap _ _ _ _ _ (0,0) Z1.out) Tryz.underlying78 rfl (cells_info _)) rfl ?_
 exact⟨rfl,below_setRow b1.out (Nat.le_refl _) _⟩
end Gi
namespace Gj
open Bytes8 OwnE LeA LeNum LeB LeP Ob Ga Gb
def u4 (l:List Int)(a:Nat):Int:=leNum ((l.drop a).take 4)
theorem u4_bd {l:List Int}(h:AllB l)(a:Nat):0≤u4 l a∧u4 l a≤4294967295:=by
 have h1:=leNum_bound ((l.drop a).take 4) ((h.drop a).take 4)
 have h2:((l.drop a).take 4).length≤4:=by simp;omega
 have h3:(256:Int)^((l.drop a).take 4).length≤4294967296:=by
  generalize ((l.drop a).take 4).length=k at*
  rcases k with _|_|_|_|_|k
  all_goals first|decide|omega
 unfold u4
 omega
def hdOf (l:List Int):HD:=⟨u4 l 8,u4 l 12,l.getD 16 0,fun i=>l.getD (24+i) 0,fun i=>u8 l (88+8*i),u4 l 256,u4 l 260,u8 l 264⟩
theorem hdOf_ok {l:List Int}(h:AllB l)(m:Nat):(hdOf l).Ok m:=
 ⟨u4_bd h 8,u4_bd h 12,by have:=h.at_ 16;show _≤l.getD 16 0∧l.getD 16 0≤_;omega,fun i=>h.at_ _,fun i=>u8_bd h _,u4_bd h 256,u4_bd h 260,u8_bd h 264⟩
def hdI (l:List Int)(k j:Nat):HD:={hdOf l with I:=fun i=>if i<16*k then l.getD (24+i) 0 else 0,N:=fun i=>if i<j then u8 l (88+8*i)else 0}
theorem hdI_zero (l:List Int):hdI l 0 0=⟨u4 l 8,u4 l 12,l.getD 16 0,fun _=>0,fun _=>0,u4 l 256,u4 l 260,u8 l 264⟩:=by
 unfold hdI hdOf
 simp
theorem at_cong {a b:HD}{m:Nat}(h: ∀i,i<70+m→a.at_ m i=b.at_ m i):a.cells m=b.cells m:=by
 unfold HD.cells
 apply List.map_congr_left
 intro i hi
 exact h i (List.mem_range.1 hi)
theorem hdI_whole (l:List Int):(hdI l 4 21).cells 21=(hdOf l).cells 21:=by
 apply at_cong
 intro i hi
 unfold HD.at_
 by_cases h1:i<3
 ·rw[if_pos h1,if_pos h1];rfl
 rw[if_neg h1,if_neg h1]
 by_cases h2:i<67
 ·rw[if_pos h2,if_pos h2]
  show Value.int .u8 (if i-3<16*4 then _ else 0)=_
  rw[if_pos (by omega)];rfl
 rw[if_neg h2,if_neg h2]
 by_cases h3:i<67+21
 ·rw[if_pos h3,if_pos h3]
  show Value.int .u64 (if i-67<21 then _ else 0)=_
  rw[if_pos (by omega)];rfl
 rw[if_neg h3,if_neg h3];rfl
theorem hdI_set (l:List Int)(j:Nat)(hj:j<21):((hdI l 4 j).cells 21).set (67+j) (.int .u64 (u8 l (88+8*j)))=(hdI l 4 (j+1)).cells 21:=by
 apply List.ext_getElem?
 intro i
 rw[List.getElem?_set]
 by_cases hi:i<91
 ·by_cases he:67+j=i
  ·subst he
   rw[if_pos rfl,if_pos (by rw[HD.len];omega),HD.get_N _ 21 j hj]
   show _=some (Value.int .u64 (if j<j+1 then _ else 0))
   rw[if_pos (by omega)]
  ·rw[if_neg he,HD.get _ 21 i hi,HD.get _ 21 i hi]
   congr 1
   unfold HD.at_
   by_cases h1:i<3
   ·rw[if_pos h1,if_pos h1];rfl
   rw[if_neg h1,if_neg h1]
   by_cases h2:i<67
   ·rw[if_pos h2,if_pos h2];rfl
   rw[if_neg h2,if_neg h2]
   by_cases h3:i<67+21
   ·rw[if_pos h3,if_pos h3]
    show Value.int .u64 (if i-67<j then _ else 0)=Value.int .u64 (if i-67<j+1 then _ else 0)
    by_cases h4:i-67<j
    ·rw[if_pos h4,if_pos (by omega)]
    ·rw[if_neg h4,if_neg (by omega)]
   rw[if_neg h3,if_neg h3];rfl
 ·rw[if_neg (by omega),List.getElem?_eq_none (by rw[HD.len];omega),List.getElem?_eq_none (by rw[HD.len];omega)]
theorem hdI_splice (l:List Int)(k j:Nat)(hk:k<4)(hl:272≤l.length):splice ((hdI l k j).cells 21) (3+16*k) (((l.drop (24+16*k)).take 16).map (Value.int .u8))=(hdI l (k+1) j).cells 21:=by
 have hc:(((l.drop (24+16*k)).take 16).map (Value.int .u8)).length=16:=by simp;omega
 apply List.ext_getElem?
 intro i
 unfold splice
 rw[hc]
 by_cases hi:i<91
 ·rw[HD.get _ 21 i hi]
  by_cases h1:i<3+16*k
  ·rw[List.getElem?_append_left (by rw[List.length_take,HD.len];omega),List.getElem?_take_of_lt h1,HD.get _ 21 i hi]
   congr 1
   unfold HD.at_
   by_cases h2:i<3
   ·rw[if_pos h2,if_pos h2];rfl
   ·rw[if_neg h2,if_neg h2,if_pos (by omega),if_pos (by omega)]
    show Value.int .u8 (if i-3<16*k then _ else 0)=Value.int .u8 (if i-3<16*(k+1)then _ else 0)
    rw[if_pos (by omega),if_pos (by omega)]
  ·by_cases h2:i<19+16*k
   ·rw[List.getElem?_append_right (by rw[List.length_take,HD.len];omega),List.length_take,HD.len,Nat.min_eq_left (by omega),List.getElem?_append_left (by rw[hc];omega),List.getElem?_map,List.getElem?_take_of_lt (by omega),List.getElem?_drop,List.getElem?_eq_getElem (by omega)]
    unfold HD.at_
    rw[if_neg (by omega),if_pos (by omega)]
    show some (Value.int .u8 _)=some (Value.int .u8 (if i-3<16*(k+1)then l.getD (24+(i-3)) 0 else 0))
    rw[if_pos (by omega),List.getD_eq_getElem?_getD,List.getElem?_eq_getElem (by omega)]
    simp only[Option.getD_some]
    congr 3
    omega
   ·rw[List.getElem?_append_right (by rw[List.length_take,HD.len];omega),List.length_take,HD.len,Nat.min_eq_left (by omega),List.getElem?_append_right (by rw[hc];omega),hc,List.getElem?_drop,show 3+16*k+16+(i-(3+16*k)-16)=i by omega,HD.get _ 21 i hi]
    congr 1
    unfold HD.at_
    have h0: ¬i<3:=by omega
    rw[if_neg h0,if_neg h0]
    by_cases h3:i<67
    ·rw[if_pos h3,if_pos h3]
     show Value.int .u8 (if i-3<16*k then _ else 0)=Value.int .u8 (if i-3<16*(k+1)then _ else 0)
     rw[if_neg (by omega),if_neg (by omega)]
    ·rw[if_neg h3,if_neg h3];rfl
 ·rw[List.getElem?_eq_none (by simp only[List.length_append,List.length_take,List.length_drop,HD.len,hc];omega),List.getElem?_eq_none (by rw[HD.len];omega)]
theorem hd_built (cp ic st ta ti te:Int):Tryz.prog.built 78 [(0,.int .u32 cp),(1,.int .u32 ic),(2,.int .i64 st),(28,.int .u32 ta),(29,.int .u32 ti),(30,.int .u64 te)]=some ((⟨cp,ic,st,fun _=>0,fun _=>0,ta,ti,te⟩:HD).cells 21).toArray:=by kernel_rfl
theorem number_any (A:Option Addr)(l:List Int)(n c p k:Nat)(w:World)(hb:Bytes w A l)(hL:l.length=n)(hn:n≤1000000)(hk:isW k=true)(hp:p+k≤n):
 Calls Tryz.prog 174 #[.slice A n c,.int .i64 (p:Int),.int .i64 (k:Int)] w fun e w'=>e= .returned (.int .u64 (leNum ((l.drop p).take k)))∧w=w':=by
 subst hL
 obtain⟨h1,h2⟩:=isW_bd hk
 have HG:=Lib.hid (get_yes A l c p k w (by omega) (by unfold fits;rw[hk];simp;omega) hb (by omega) (by omega) hp)
 generalize leNum ((l.drop p).take k)=x at*
 clear hb
 go_enter Tryz.func174,Tryz.ntmps174
 go_wp2_with(go_at_call 96;((with_reducible refine HG.out.mono ?_);rintro e w' ⟨rfl,rfl⟩))
 go_ret
 exact⟨rfl,rfl⟩
end Gj
end Go.Proofs.YtjecmgkmcfkcjaaGreat
