/-
  Texts beneath.
-/
import Derived.Test.YteaikbodkgjkdaaGreatQl8
set_option linter.unusedVariables false
set_option linter.unusedSimpArgs false
set_option maxRecDepth 100000
set_option maxHeartbeats 4000000
open Go.ChangeShapes Go.WideShapes Go.ChangeAt Go.RowKit
namespace Go.Proofs.YteaikbodkgjkdaaGreat
namespace Gi
open Bytes8 Blk8 Own8 Ga Gb
def hd0:HD:=⟨0,0,0,fun _=>0,fun _=>0,0,0,0⟩
theorem aAh {P:Program}{b:Array Oper}{rest:List Oper}{o:Oper}{a:Act}{w:World}{Q:Exit→Act→World→Prop}(d:Region.wanted o (yielded b a.tmps)=true)(t:TypeId)(e:o.op= .build t #[])(cells:Array Value)
 (c:P.built t []=some cells)(h:wpList P b Q rest (a.put o.dst (.agg cells)) w):wpList P b Q (o::rest) a w:=
 BigFrame.wpList_want d fun K hK=>wp_build t #[] e (by simp only[List.map_toArray,List.map_nil];rw[c];rfl) (by simp only[List.map_toArray,List.map_nil];rw[c];exact hK _ _ h)
theorem aDj:Tryz.prog.built 165 []=some (hd0.cells 21).toArray:=by kernel_rfl
theorem aAq {P:Program}{fn:Func}{p u:Tmp}{a:TypeId}(h:fn.results= #[.cell p a,.tmp u])(tmps:Array Value)(w:World)(g:Nat)(t:TypeId)(b:Array Value)(fr:Nat×Nat)(d:TypeDesc)(c:Value)
 (e:tmps.getD p undef= .pointer (some ⟨g,0,none⟩))(l:tmps.getD u undef=c)(j:w.heap[g]? =some (.cells b t fr))(i:P.underlying a=some d)(f:(match d with| .struct _| .array _ _=>true|_=>false)=true)(k:(P.info? a).map (·.size)=some b.size):
 (results fn tmps).run P w= .ok (.tuple #[.agg b,c]) w:=by
 rw[results_cell_tmp h,e,l]
 simp[asAddr,run_loadVar_row w g t a b fr d j i f k,Result.andThen]
attribute [local irreducible] HD.cells wpList Code.wp
theorem read_short (A:Option Addr)(n c:Nat)(w:World)(f:n<272):
 Calls Tryz.prog 80 #[.slice A n c] w fun e w'=>e= .returned (.tuple #[.agg (hd0.cells 21).toArray,.int .i64 22])∧Below w.heap.size w w':=by
 have d:(n:Int)<272:=by omega
 go_enter Tryz.func80,Tryz.ntmps80
 go_upto_region 1 with fail
 have b:=yH ((yB w.heap.size w).alloc (yR _) (.cells Tryz.zeroCells165 165))
 have a:=yH (heap_alloc_new w (.cells Tryz.zeroCells165 165))
 generalize w.alloc (.cells Tryz.zeroCells165 165)=w1 at*
 go_wp2_with(first
  |((with_reducible apply aAb 9);refine aAh rfl 165 rfl _ aDj ?_)
  |((with_reducible apply aAa (.tmp 2) (.tmp 9));refine wpList_store_row rfl 165 (.tmp 2) (.tmp 9) rfl w.heap.size (hd0.cells 21).toArray rfl rfl 165 Tryz.zeroCells165 a.out (aAf _) aAB (HD.one _ 21) ?_))
 refine bodyPost_ret (v:= .tuple #[.agg (hd0.cells 21).toArray,.int .i64 22]) (by exact aAq Tryz.results80 _ _ w.heap.size 165 _ (0,0) _ _ rfl rfl (setRow_heap _ _ _ _ _ (0,0) a.out) Tryz.underlying165 rfl (aAf _)) rfl ?_
 exact⟨rfl,below_setRow b.out (yR _) _⟩
end Gi
namespace Gj
open Bytes8 OwnE LeA LeNum LeB LeP Ob Ga Gb
def u4 (l:List Int)(a:Nat):Int:=leNum ((l.drop a).take 4)
theorem aDz {l:List Int}(h:AllB l)(a:Nat):0≤u4 l a∧u4 l a≤4294967295:=by
 have b:=aAK ((l.drop a).take 4) ((h.drop a).take 4)
 have d:((l.drop a).take 4).length≤4:=by simp;omega
 have c:(256:Int)^((l.drop a).take 4).length≤4294967296:=by
  generalize ((l.drop a).take 4).length=k at*
  rcases k with _|_|_|_|_|k
  all_goals first|decide|omega
 unfold u4
 omega
def hdOf (l:List Int):HD:=⟨u4 l 8,u4 l 12,l.getD 16 0,fun i=>l.getD (24+i) 0,fun i=>u8 l (88+8*i),u4 l 256,u4 l 260,u8 l 264⟩
theorem aDk {l:List Int}(h:AllB l)(m:Nat):(hdOf l).Ok m:=
 ⟨aDz h 8,aDz h 12,by have:=h.at_ 16;show _≤l.getD 16 0∧l.getD 16 0≤_;omega,fun i=>h.at_ _,fun i=>aCE h _,aDz h 256,aDz h 260,aCE h 264⟩
def hdI (l:List Int)(k j:Nat):HD:={hdOf l with I:=fun i=>if i<16*k then l.getD (24+i) 0 else 0,N:=fun i=>if i<j then u8 l (88+8*i)else 0}
theorem aNU (l:List Int):hdI l 0 0=⟨u4 l 8,u4 l 12,l.getD 16 0,fun _=>0,fun _=>0,u4 l 256,u4 l 260,u8 l 264⟩:=by
 unfold hdI hdOf
 simp
theorem aL8 {a b:HD}{m:Nat}(h: ∀i,i<70+m→a.at_ m i=b.at_ m i):a.cells m=b.cells m:=by
 unfold HD.cells
 apply List.map_congr_left
 intro i c
 exact h i (List.mem_range.1 c)
theorem aL9 (l:List Int):(hdI l 4 21).cells 21=(hdOf l).cells 21:=by
 apply aL8
 intro i d
 unfold HD.at_
 by_cases a:i<3
 ·rw[if_pos a,if_pos a];rfl
 rw[if_neg a,if_neg a]
 by_cases c:i<67
 ·rw[if_pos c,if_pos c]
  show Value.int .u8 (if i-3<16*4 then _ else 0)=_
  rw[if_pos (by omega)];rfl
 rw[if_neg c,if_neg c]
 by_cases b:i<67+21
 ·rw[if_pos b,if_pos b]
  show Value.int .u64 (if i-67<21 then _ else 0)=_
  rw[if_pos (by omega)];rfl
 rw[if_neg b,if_neg b];rfl
theorem aPv (l:List Int)(j:Nat)(g:j<21):((hdI l 4 j).cells 21).set (67+j) (.int .u64 (u8 l (88+8*j)))=(hdI l 4 (j+1)).cells 21:=by
 apply List.ext_getElem?
 intro i
 rw[List.getElem?_set]
 by_cases f:i<91
 ·by_cases d:67+j=i
  ·subst d
   rw[if_pos rfl,if_pos (by rw[HD.len];omega),HD.get_N _ 21 j g]
   show _=some (Value.int .u64 (if j<j+1 then _ else 0))
   rw[if_pos (by omega)]
  ·rw[if_neg d,HD.get _ 21 i f,HD.get _ 21 i f]
   congr 1
   unfold HD.at_
   by_cases b:i<3
   ·rw[if_pos b,if_pos b];rfl
   rw[if_neg b,if_neg b]
   by_cases a:i<67
   ·rw[if_pos a,if_pos a];rfl
   rw[if_neg a,if_neg a]
   by_cases c:i<67+21
   ·rw[if_pos c,if_pos c]
    show Value.int .u64 (if i-67<j then _ else 0)=Value.int .u64 (if i-67<j+1 then _ else 0)
    by_cases e:i-67<j
    ·rw[if_pos e,if_pos (by omega)]
    ·rw[if_neg e,if_neg (by omega)]
   rw[if_neg c,if_neg c];rfl
 ·rw[if_neg (by omega),List.getElem?_eq_none (by rw[HD.len];omega),List.getElem?_eq_none (by rw[HD.len];omega)]
theorem aJY (l:List Int)(k j:Nat)(g:k<4)(m:272≤l.length):splice ((hdI l k j).cells 21) (3+16*k) (((l.drop (24+16*k)).take 16).map (Value.int .u8))=(hdI l (k+1) j).cells 21:=by
 have b:(((l.drop (24+16*k)).take 16).map (Value.int .u8)).length=16:=by simp;omega
 apply List.ext_getElem?
 intro i
 unfold splice
 rw[b]
 by_cases d:i<91
 ·rw[HD.get _ 21 i d]
  by_cases f:i<3+16*k
  ·rw[List.getElem?_append_left (by rw[List.length_take,HD.len];omega),List.getElem?_take_of_lt f,HD.get _ 21 i d]
   congr 1
   unfold HD.at_
   by_cases a:i<3
   ·rw[if_pos a,if_pos a];rfl
   ·rw[if_neg a,if_neg a,if_pos (by omega),if_pos (by omega)]
    show Value.int .u8 (if i-3<16*k then _ else 0)=Value.int .u8 (if i-3<16*(k+1)then _ else 0)
    rw[if_pos (by omega),if_pos (by omega)]
  ·by_cases a:i<19+16*k
   ·rw[List.getElem?_append_right (by rw[List.length_take,HD.len];omega),List.length_take,HD.len,Nat.min_eq_left (by omega),List.getElem?_append_left (by rw[b];omega),List.getElem?_map,List.getElem?_take_of_lt (by omega),List.getElem?_drop,yG (by omega)]
    unfold HD.at_
    rw[if_neg (by omega),if_pos (by omega)]
    show some (Value.int .u8 _)=some (Value.int .u8 (if i-3<16*(k+1)then l.getD (24+(i-3)) 0 else 0))
    rw[if_pos (by omega),yD,yG (by omega)]
    simp only[Option.getD_some]
    congr 3
    omega
   ·rw[List.getElem?_append_right (by rw[List.length_take,HD.len];omega),List.length_take,HD.len,Nat.min_eq_left (by omega),List.getElem?_append_right (by rw[b];omega),b,List.getElem?_drop,show 3+16*k+16+(i-(3+16*k)-16)=i by omega,HD.get _ 21 i d]
    congr 1
    unfold HD.at_
    have e: ¬i<3:=by omega
    rw[if_neg e,if_neg e]
    by_cases c:i<67
    ·rw[if_pos c,if_pos c]
     show Value.int .u8 (if i-3<16*k then _ else 0)=Value.int .u8 (if i-3<16*(k+1)then _ else 0)
     rw[if_neg (by omega),if_neg (by omega)]
    ·rw[if_neg c,if_neg c];rfl
 ·rw[List.getElem?_eq_none (by simp only[yA,List.length_take,List.length_drop,HD.len,b];omega),List.getElem?_eq_none (by rw[HD.len];omega)]
theorem aNV (cp ic st ta ti te:Int):Tryz.prog.built 165 [(0,.int .u32 cp),(1,.int .u32 ic),(2,.int .i64 st),(28,.int .u32 ta),(29,.int .u32 ti),(30,.int .u64 te)]=some ((⟨cp,ic,st,fun _=>0,fun _=>0,ta,ti,te⟩:HD).cells 21).toArray:=by kernel_rfl
theorem number_any (A:Option Addr)(l:List Int)(n c p k:Nat)(w:World)(a:Bytes w A l)(g:l.length=n)(j:n≤1000000)(b:isW k=true)(d:p+k≤n):
 Calls Tryz.prog 150 #[.slice A n c,.int .i64 (p:Int),.int .i64 (k:Int)] w fun e w'=>e= .returned (.int .u64 (leNum ((l.drop p).take k)))∧w=w':=by
 subst g
 obtain⟨m,i⟩:=aPU b
 have f:=yH (aCZ A l c p k w (by omega) (by unfold fits;rw[b];simp;omega) a (by omega) (by omega) d)
 generalize leNum ((l.drop p).take k)=x at*
 clear a
 go_enter Tryz.func150,Tryz.ntmps150
 go_wp2_with(go_at_call 183;((with_reducible refine f.out.mono ?_);rintro e w' ⟨rfl,rfl⟩))
 go_ret
 exact⟨rfl,rfl⟩
end Gj
namespace Gk
open Bytes8 Blk8 Own8 OwnE LeP Ob Ga Gb Gc Gd Gj
def stH (p v:Value):Sem Unit:=Instr.storeAt 165 p v
theorem st_fold (p v:Value):Instr.storeAt 165 p v=stH p v:=rfl
def bldH (parts:Array (Nat×Value)):Sem Value:=Instr.build 165 parts
theorem bld_fold (a:Array (Nat×Value)):Instr.build 165 a=bldH a:=rfl
theorem store_head (w:World)(g:Nat)(old a:Array Value)(h:w.heap[g]? =some (.cells old 165 (0,0)))(b:old.size=a.size)(d:(Tryz.prog.info? 165).map (·.size)=some a.size)(c:a.all (·.oneCell')=true):
 (stH (.pointer (some ⟨g,0,none⟩)) (.agg a)).run Tryz.prog w= .ok () (w.setRow g a):=by
 unfold stH
 simp only[Instr.storeAt,Instr.sureAddr,Sem.run_bind,Sem.run_pure,Result.andThen_ok]
 exact run_storeVar_row w g 165 165 old a h d b c
theorem build_head (w:World)(cp ic st ta ti te:Int):(bldH #[(0,.int .u32 cp),(1,.int .u32 ic),(2,.int .i64 st),(28,.int .u32 ta),(29,.int .u32 ti),(30,.int .u64 te)]).run Tryz.prog w= .ok (.agg ((⟨cp,ic,st,fun _=>0,fun _=>0,ta,ti,te⟩:HD).cells 21).toArray) w:=by
 unfold bldH
 exact run_build w _ _ _ (aNV cp ic st ta ti te)
attribute [local irreducible] HD.cells wpList Code.wp
attribute [local go_sem ↓] st_fold bld_fold
theorem aMa (A:Option Addr)(l:List Int)(n c:Nat)(w:World)(F:Bytes w A l)(G:l.length=n)(au:272≤n)(hn:n≤1000000)(hc:n≤c):
 Calls Tryz.prog 119 #[.slice A n c] w fun e w'=>e= .returned (.agg ((hdOf l).cells 21).toArray)∧Below w.heap.size w w':=by
 have N8:=yH fun(W:World) (hW:Bytes W A l)=>show Calls Tryz.prog 150 #[.slice A n c,.int .i64 8,.int .i64 4] W fun e w'=>e= .returned (.int .u64 (u4 l 8))∧W=w' from number_any A l n c 8 4 W hW G (by omega) rfl (by omega)
 have I:=yH fun(W:World) (hW:Bytes W A l)=>show Calls Tryz.prog 150 #[.slice A n c,.int .i64 12,.int .i64 4] W fun e w'=>e= .returned (.int .u64 (u4 l 12))∧W=w' from number_any A l n c 12 4 W hW G (by omega) rfl (by omega)
 have r:=yH fun(W:World) (hW:Bytes W A l)=>show Calls Tryz.prog 150 #[.slice A n c,.int .i64 256,.int .i64 4] W fun e w'=>e= .returned (.int .u64 (u4 l 256))∧W=w' from number_any A l n c 256 4 W hW G (by omega) rfl (by omega)
 have s:=yH fun(W:World) (hW:Bytes W A l)=>show Calls Tryz.prog 150 #[.slice A n c,.int .i64 260,.int .i64 4] W fun e w'=>e= .returned (.int .u64 (u4 l 260))∧W=w' from number_any A l n c 260 4 W hW G (by omega) rfl (by omega)
 have q:=yH fun(W:World) (hW:Bytes W A l)=>show Calls Tryz.prog 150 #[.slice A n c,.int .i64 264,.int .i64 8] W fun e w'=>e= .returned (.int .u64 (u8 l 264))∧W=w' from number_any A l n c 264 8 W hW G (by omega) rfl (by omega)
 have U8:=aDz F.1 8
 have ak:=aDz F.1 12
 have af:=aDz F.1 256
 have ac:=aDz F.1 260
 have ai:=F.1.at_ 16
 have K8:IntKind.u32.wrap (u4 l 8)=u4 l 8:=by rw[IntKind.wrap_u32];omega
 have aj:IntKind.u32.wrap (u4 l 12)=u4 l 12:=by rw[IntKind.wrap_u32];omega
 have ag:IntKind.u32.wrap (u4 l 256)=u4 l 256:=by rw[IntKind.wrap_u32];omega
 have Y:IntKind.u32.wrap (u4 l 260)=u4 l 260:=by rw[IntKind.wrap_u32];omega
 have al:IntKind.i64.wrap (l.getD 16 0)=l.getD 16 0:=by rw[IntKind.wrap_i64];omega
 obtain⟨b,a,rfl,B,u⟩:=F.spot (by omega)
 have HB:=yH F
 have Z:=yH B
 have H:=yH (u 16 (by omega))
 clear u B
 go_enter Tryz.func119,Tryz.ntmps119
 go_upto_region 1 with fail
 have J:=yH ((yB w.heap.size w).alloc (yR _) (.cells Tryz.zeroCells165 165))
 have Z1:=yH (heap_alloc_new w (.cells Tryz.zeroCells165 165))
 have s1:=yH (show(w.alloc (.cells Tryz.zeroCells165 165)).heap.size=w.heap.size+1 by simp)
 generalize w.alloc (.cells Tryz.zeroCells165 165)=w1 at*
 have g:=yH (show Bytes w1.drew (some ⟨b,a,none⟩) l from(HB.out.below J.out (yR _)).drew)
 have BB:=yH ((yB w1.heap.size w1).alloc (yR _) (.cells Tryz.zeroCells165 165)).drew
 have m:=yH (show Bytes ((w1.alloc (.cells Tryz.zeroCells165 165)).drew) (some ⟨b,a,none⟩) l from(HB.out.below J.out (yR _)).below BB.out (yR _))
 have qa:w1.drew.cell? ⟨b,a+16,none⟩=some (.int .u8 (l.getD 16 0)):=(J.out.cell (p:=⟨b,a+16,none⟩) Z.out).trans H.out
 have C:=yL Z.out J.out.size
 have qb:((w1.alloc (.cells Tryz.zeroCells165 165)).drew).cell? ⟨b,a+16,none⟩=some (.int .u8 (l.getD 16 0)):=(BB.out.cell (p:=⟨b,a+16,none⟩) C).trans qa
 have aa:=fun W:World=>build_head W (u4 l 8) (u4 l 12) (l.getD 16 0) (u4 l 256) (u4 l 260) (u8 l 264)
 have t:((w1.alloc (.cells Tryz.zeroCells165 165)).drew).heap[w1.heap.size]? =some (.cells Tryz.zeroCells165 165 (0,0)):=heap_alloc_new w1 _
 have ab:=store_head ((w1.alloc (.cells Tryz.zeroCells165 165)).drew) w1.heap.size _ ((⟨u4 l 8,u4 l 12,l.getD 16 0,fun _=>0,fun _=>0,u4 l 256,u4 l 260,u8 l 264⟩:HD).cells 21).toArray t aAB (aAf _) (HD.one _ 21)
 have BC:=yH (show Below w1.heap.size w1 (((w1.alloc (.cells Tryz.zeroCells165 165)).drew).setRow w1.heap.size ((⟨u4 l 8,u4 l 12,l.getD 16 0,fun _=>0,fun _=>0,u4 l 256,u4 l 260,u8 l 264⟩:HD).cells 21).toArray)from below_setRow BB.out (yR _) _)
 have qc:(((w1.alloc (.cells Tryz.zeroCells165 165)).drew).setRow w1.heap.size ((⟨u4 l 8,u4 l 12,l.getD 16 0,fun _=>0,fun _=>0,u4 l 256,u4 l 260,u8 l 264⟩:HD).cells 21).toArray).cell? ⟨b,a+16,none⟩=some (.int .u8 (l.getD 16 0)):=(BC.out.cell (p:=⟨b,a+16,none⟩) C).trans qa
 have RC:=yH (show Blk (((w1.alloc (.cells Tryz.zeroCells165 165)).drew).setRow w1.heap.size ((⟨u4 l 8,u4 l 12,l.getD 16 0,fun _=>0,fun _=>0,u4 l 256,u4 l 260,u8 l 264⟩:HD).cells 21).toArray) w1.heap.size ((⟨u4 l 8,u4 l 12,l.getD 16 0,fun _=>0,fun _=>0,u4 l 256,u4 l 260,u8 l 264⟩:HD).cells 21) 165 from setRow_heap _ _ _ _ _ (0,0) t)
 have av:(16:Int)<(n:Int):=by omega
 clear t U8 ak af ac ai
 have HZ:=yH (aNU l)
 generalize u4 l 8=cp at*
 generalize u4 l 12=ic at*
 generalize u4 l 256=ta at*
 generalize u4 l 260=ti at*
 generalize u8 l 264=te at*
 generalize l.getD 16 0=X at*
 go_cut [3]from 8 to 27 (fun z wx=>z= .pointer (some ⟨w1.heap.size,0,none⟩)∧Hid (Blk wx w1.heap.size ((⟨cp,ic,X,fun _=>0,fun _=>0,ta,ti,te⟩:HD).cells 21) 165)∧Hid (Below w1.heap.size w1 wx))
 case first=>
  go_region_held3 (fun W=>W.cell? ⟨b,a+16,none⟩=some (.int .u8 (X))) (first|(with_reducible exact qa)|(with_reducible exact qb)|(with_reducible exact qc)|go_keep) ((go_simp;go_at_call 150;(first|(with_reducible refine(N8.out _ g.out).mono ?_)|(with_reducible refine(N8.out _ m.out).mono ?_)|(with_reducible refine(I.out _ g.out).mono ?_)|(with_reducible refine(I.out _ m.out).mono ?_)|(with_reducible refine(r.out _ g.out).mono ?_)|(with_reducible refine(r.out _ m.out).mono ?_)|(with_reducible refine(s.out _ g.out).mono ?_)|(with_reducible refine(s.out _ m.out).mono ?_)|(with_reducible refine(q.out _ g.out).mono ?_)|(with_reducible refine(q.out _ m.out).mono ?_));rintro e w' ⟨rfl,rfl⟩))
  all_goals
   go_wp2_with fail
   go_meet
   case rel=>exact⟨rfl,RC,BC⟩
 case rest=>
  obtain⟨rfl,o,f⟩:=hcut
  have R2:=yH (show Blk wc w1.heap.size ((hdI l 0 0).cells 21) 165 by rw[HZ.out];exact o.out)
  have B2:=yH f.out
  clear o f RC BC qa qb qc aa ab HZ K8 aj ag Y al N8 I r s q g m BB
  go_upto_region 3 with(go_at_call 151;((with_reducible refine(aPu _ _).mono ?_);rintro e w3 ⟨rfl,N⟩;have R3:=yH (R2.out.below N R2.out.lt);have B3:=yH (B2.out.trans (N.mono B2.out.size));clear N))
  have HI:=yH fun(k:Nat) (hk:k<4)=>fun(W:World)=>aL7 w1.heap.size k hk W
  have HS:=yH fun(k:Nat) (hk:k<4)=>aJY l k 0 hk (by omega)
  clear R2
  go_loopw [28] (fun i wr=> ∃k:Nat,k≤4∧i= .int .i64 (k:Int)∧Hid (Blk wr w1.heap.size ((hdI l k 0).cells 21) 165)∧Hid (Below w1.heap.size w1 wr)) (fun i _=>4-(intOf i).toNat)
  case atStart=>exact⟨0,Nat.zero_le _,rfl,R3,B3⟩
  case round=>
   obtain⟨k,hk,rfl,o,f⟩:=hrel
   by_cases d:k<4
   ·have ah:=HI.out k d
    have am:=yH (HS.out k d)
    have e1:IntKind.i64.wrap ((k:Int)*16)=(k:Int)*16:=IntWalk.i64_in _ (by omega)
    have e2:IntKind.i64.wrap (24+(k:Int)*16)=24+(k:Int)*16:=IntWalk.i64_in _ (by omega)
    have hcut: ∀W:World,(Instr.slice 26 (.slice (some ⟨b,a,none⟩) n c) (some (.int .i64 (24+(k:Int)*16))) none none).run Tryz.prog W= .ok (.slice (cutA (some ⟨b,a,none⟩) c (24+16*k)) (n-(24+16*k)) (c-(24+16*k))) W:=fun W=>by
     rw[show(24+(k:Int)*16)=((24+16*k:Nat):Int)by omega]
     exact aJA _ n c (24+16*k) (by omega) W
    have ao:=yH (show cutA (some ⟨b,a,none⟩) c (24+16*k)=some ⟨b,a+(24+16*k),none⟩by rw[aCN,if_neg (by omega)])
    have L:=yH (show Bytes wr (some ⟨b,a,none⟩) l from(HB.out.below J.out (yR _)).below f.out (yR _))
    have ae:=yH (show ∀(j:Nat) (x:Value),(((l.drop (24+16*k)).take 16).map (Value.int .u8))[j]? =some x→wr.cell? ((⟨b,a+(24+16*k),none⟩:Addr).add j)=some x from fun j x y=>by
     have V:j<16:=by have:=(List.getElem?_eq_some_iff.1 y).1;simp at this;omega
     obtain⟨b9,ar,R,_,aq⟩:=L.out.2 (24+16*k+j) (by rw[G];omega)
     injection R with R
     injection R with R e10
     subst R e10
     rw[aAV,Nat.add_assoc,aq,←y]
     simp[V,yD,yG (show 24+16*k+j<l.length by omega)])
    have D:=yH (show(((l.drop (24+16*k)).take 16).map (Value.int .u8)).length=16 by simp;omega)
    go_wp2_with fail
    refine wp_region_still_tail 8 (by kernel_rfl) (by kernel_rfl) ?_
    simp only[List.take_succ_cons,List.take_zero,List.drop_succ_cons,List.drop_zero]
    repeat still_step
    try refine wpStill_nil ?_
    change wpList _ _ _ _ _ wr.drew
    have HW:=yH (show Below w1.heap.size w1 wr.drew from f.out.drew)
    refine wpList_copy_splice rfl (.tmp 34) (.tmp 39) 26 26 rfl 5 Tryz.underlying26 size8 (some ⟨w1.heap.size,3+16*k,none⟩) (cutA (some ⟨b,a,none⟩) c (24+16*k)) 16 16 (n-(24+16*k)) (c-(24+16*k)) rfl rfl w1.heap.size (3+16*k) ((hdI l k 0).cells 21) 165 o.out (((l.drop (24+16*k)).take 16).map (Value.int .u8)) (by rw[D.out];show 16=min _ _;omega) (fun _=>⟨rfl,_,ao.out,ae.out⟩) (by rw[D.out,HD.len];omega) (fun v hv=>by obtain⟨x,_,rfl⟩:=List.mem_map.1 hv;rfl) w1.heap.size w1 HW.out (yR _) ?_
    intro w5 h5 ad
    have R5:=yH (show Blk w5 w1.heap.size ((hdI l (k+1) 0).cells 21) 165 by rw[←am.out];exact h5.out)
    have B5:=yH ad
    clear h5 ad e1 e2 hcut
    go_wp2_with fail
    go_roundw
    case rel=>exact⟨k+1,by omega,by go_num,R5,B5⟩
    case measure=>simp[intOf];omega
   ·obtain rfl:k=4:=by omega
    clear HI HS R3 B3
    rename World=>w6
    go_upto_region 8 with(go_at_call 152;((with_reducible refine(aL6 _ _).mono ?_);rintro e w7 ⟨rfl,M⟩;have R7:=yH (o.out.below M o.out.lt);have B7:=yH (f.out.trans (M.mono f.out.size));clear M))
    have HN:=yH fun(j:Nat) (y:j<21)=>fun(W:World)=>aJX w1.heap.size j y W
    have HS:=yH fun(j:Nat) (y:j<21)=>aPv l j y
    have E:=yH fun(j:Nat) (y:j<21) (W:World) (hW:Bytes W (some ⟨b,a,none⟩) l)=>show Calls Tryz.prog 150 #[.slice (some ⟨b,a,none⟩) n c,.int .i64 (88+(j:Int)*8),.int .i64 8] W fun e w'=>e= .returned (.int .u64 (Ob.u8 l (88+8*j)))∧W=w' by
     rw[show(88+(j:Int)*8)=((88+8*j:Nat):Int)by omega]
     exact number_any _ l n c (88+8*j) 8 W hW G hn rfl (by omega)
    clear o f
    go_loopw [43] (fun i wr=> ∃j:Nat,j≤21∧i= .int .i64 (j:Int)∧Hid (Blk wr w1.heap.size ((hdI l 4 j).cells 21) 165)∧Hid (Below w1.heap.size w1 wr)) (fun i _=>21-(intOf i).toNat)
    case atStart=>exact⟨0,Nat.zero_le _,rfl,R7,B7⟩
    case round=>
     obtain⟨j,y,rfl,o,f⟩:=hrel
     by_cases d:j<21
     ·have ah:=HN.out j d
      have an:=yH (HS.out j d)
      have L:=yH (show Bytes wr (some ⟨b,a,none⟩) l from(HB.out.below J.out (yR _)).below f.out (yR _))
      have ap:=yH (E.out j d wr L.out)
      have ck:=HD.nums_at (h:=hdI l 4 j) o.out j d
      have fk:=o.out.frozen (67+j)
      generalize Ob.u8 l (88+8*j)=x at*
      go_wp2_with(go_at_call 150;((with_reducible refine ap.out.mono ?_);rintro e w' ⟨rfl,rfl⟩))
      go_roundw
      case rel=>exact⟨j+1,by omega,by go_num,yH (by rw[←an.out];exact o.out.set_ (67+j) _),yH (f.out.setCell (yR _) _)⟩
      case measure=>simp[intOf];omega
     ·obtain rfl:j=21:=by omega
      have R8:=yH (show Blk wr w1.heap.size ((hdOf l).cells 21) 165 by rw[←aL9];exact o.out)
      have Z8:=yH ((f.out.block w.heap.size (by rw[s1.out];exact Nat.lt_succ_self _)).trans Z1.out)
      have B8:=yH (J.out.trans (f.out.mono (by rw[s1.out];exact Nat.le_succ _)))
      clear HN HS E R7 B7 o f
      rename World=>w9
      go_wp2_with(first
       |((with_reducible apply aAb 55);refine wpList_load_row rfl 165 (.tmp 3) rfl w1.heap.size rfl 165 ((hdOf l).cells 21).toArray (0,0) _ R8.out Tryz.underlying165 rfl (aAf _) ?_)
       |((with_reducible apply aAa (.tmp 2) (.tmp 55));refine wpList_store_row rfl 165 (.tmp 2) (.tmp 55) rfl w.heap.size ((hdOf l).cells 21).toArray rfl rfl 165 Tryz.zeroCells165 Z8.out (aAf _) aAB (HD.one _ 21) ?_))
      refine bodyPost_ret (v:= .agg ((hdOf l).cells 21).toArray) (by exact results_cell_row Tryz.results119 _ _ w.heap.size 165 _ (0,0) _ rfl (setRow_heap _ w.heap.size _ _ _ (0,0) Z8.out) Tryz.underlying165 rfl (aAf _)) rfl ?_
      exact⟨rfl,below_setRow B8.out (yR _) _⟩
end Gk
namespace Gl
open Bytes8 Blk8 Own8 OwnE Ga Gb
def tcode (a z from1 en:Int):Int:=if a%8≠0 then 3 else if z=0∨z%16≠0 then 5 else if a<from1+16∨en<a∨en-a<z then 2 else 0
theorem aBf (s:Int)(w:World):Calls Tryz.prog 153 #[.int .i64 s] w fun e w'=>e= .returned (.bool (s==0||s==1||s==2))∧w=w':=by
 by_cases b:s=0
 ·subst b
  go_enter Tryz.func153,Tryz.ntmps153
  go_wp2
  go_ret
  exact⟨rfl,rfl⟩
 by_cases a:s=1
 ·subst a
  go_enter Tryz.func153,Tryz.ntmps153
  go_wp2
  go_ret
  exact⟨rfl,rfl⟩
 ·have d:(s==0)=false:=by simp[b]
  have c:(s==1)=false:=by simp[a]
  go_enter Tryz.func153,Tryz.ntmps153
  go_wp2
  go_ret
  exact⟨aAC (by rw[d,c];simp),rfl⟩
attribute [local irreducible] HD.cells wpList Code.wp
theorem aOr (h:HD)(i:h.Ok 21)(b a z:Int)(u:0≤b∧b≤18446744073709551615)(t:0≤a∧a≤18446744073709551615)(x:0≤z∧z≤18446744073709551615)(r:h.N 0≤1000000000)(w:World):
 Calls Tryz.prog 154 #[.agg (h.cells 21).toArray,.int .u64 b,.int .u64 a,.int .u64 z] w fun e w'=>e= .returned (.int .i64 (tcode a z (h.N 0) b))∧Below w.heap.size w w':=by
 have b0:=yH ((yB w.heap.size w).alloc (yR _) (.cells (h.cells 21).toArray 165))
 have g:=(show Blk (w.alloc (.cells (h.cells 21).toArray 165)) w.heap.size (h.cells 21) 165 from Blk.new w _ _)
 have v:=HD.nums_at g 0 (by decide)
 have n:=(i.N 0).1
 clear g
 by_cases c:a%8=0
 ·by_cases d:z=0
  ·rw[show tcode a z (h.N 0) b=5 by unfold tcode;rw[if_neg (by simpa using c),if_pos (Or.inl d)]]
   subst d
   go_enter Tryz.func154,Tryz.ntmps154
   go_wp2
   go_ret
   exact⟨rfl,b0.out⟩
  have p:(z==0)=false:=by simp[d]
  by_cases f:z%16=0
  ·by_cases m:a<h.N 0+16
   ·rw[show tcode a z (h.N 0) b=2 by unfold tcode;rw[if_neg (by simpa using c),if_neg (by omega),if_pos (Or.inl m)]]
    go_enter Tryz.func154,Tryz.ntmps154
    go_wp2
    go_ret
    exact⟨rfl,b0.out⟩
   have s:decide (a<h.N 0+16)=false:=by simp;omega
   by_cases o:b<a
   ·have j:decide (b<a)=true:=by simp;omega
    rw[show tcode a z (h.N 0) b=2 by unfold tcode;rw[if_neg (by simpa using c),if_neg (by omega),if_pos (Or.inr (Or.inl o))]]
    go_enter Tryz.func154,Tryz.ntmps154
    go_wp2
    go_ret
    exact⟨rfl,b0.out⟩
   have j:decide (b<a)=false:=by simp;omega
   by_cases l:b-a<z
   ·have k:decide (b-a<z)=true:=by simp;omega
    rw[show tcode a z (h.N 0) b=2 by unfold tcode;rw[if_neg (by simpa using c),if_neg (by omega),if_pos (Or.inr (Or.inr l))]]
    go_enter Tryz.func154,Tryz.ntmps154
    go_wp2
    go_ret
    exact⟨rfl,b0.out⟩
   ·have k:decide (b-a<z)=false:=by simp;omega
    rw[show tcode a z (h.N 0) b=0 by unfold tcode;rw[if_neg (by simpa using c),if_neg (by omega),if_neg (by omega)]]
    go_enter Tryz.func154,Tryz.ntmps154
    go_wp2
    go_ret
    exact⟨rfl,b0.out⟩
  ·have q: ¬z%16=0:=f
   rw[show tcode a z (h.N 0) b=5 by unfold tcode;rw[if_neg (by simpa using c),if_pos (Or.inr f)]]
   go_enter Tryz.func154,Tryz.ntmps154
   go_wp2
   go_ret
   exact⟨rfl,b0.out⟩
 ·rw[show tcode a z (h.N 0) b=3 by unfold tcode;rw[if_pos c]]
  go_enter Tryz.func154,Tryz.ntmps154
  go_wp2
  go_ret
  exact⟨rfl,b0.out⟩
theorem aE7 (fr b a z:Int)(p:0≤fr∧fr≤18446744073709551615)(q:0≤b∧b≤18446744073709551615)(r:0≤a∧a≤18446744073709551615)(t:0≤z∧z≤18446744073709551615)(w:World):
 Calls Tryz.prog 125 #[.int .u64 a,.int .u64 z,.int .u64 fr,.int .u64 b] w fun e w'=>e= .returned (.int .i64 (tcode a z fr b))∧w=w':=by
 by_cases c:a%8=0
 ·by_cases d:z=0
  ·rw[show tcode a z fr b=5 by unfold tcode;rw[if_neg (by simpa using c),if_pos (Or.inl d)]]
   subst d
   go_enter Tryz.func125,Tryz.ntmps125
   go_wp2
   go_ret
   exact⟨rfl,rfl⟩
  have o:(z==0)=false:=by simp[d]
  by_cases i:z%16=0
  ·by_cases s:a<fr
   ·have l:decide (a<fr)=true:=by simp;omega
    rw[show tcode a z fr b=2 by unfold tcode;rw[if_neg (by simpa using c),if_neg (by omega),if_pos (Or.inl (by omega))]]
    go_enter Tryz.func125,Tryz.ntmps125
    go_wp2
    go_ret
    exact⟨rfl,rfl⟩
   have l:decide (a<fr)=false:=by simp;omega
   by_cases j:a-fr<16
   ·have f:decide (a-fr<16)=true:=by simp;omega
    rw[show tcode a z fr b=2 by unfold tcode;rw[if_neg (by simpa using c),if_neg (by omega),if_pos (Or.inl (by omega))]]
    go_enter Tryz.func125,Tryz.ntmps125
    go_wp2
    go_ret
    exact⟨rfl,rfl⟩
   have f:decide (a-fr<16)=false:=by simp;omega
   by_cases m:b<a
   ·have g:decide (b<a)=true:=by simp;omega
    rw[show tcode a z fr b=2 by unfold tcode;rw[if_neg (by simpa using c),if_neg (by omega),if_pos (Or.inr (Or.inl m))]]
    go_enter Tryz.func125,Tryz.ntmps125
    go_wp2
    go_ret
    exact⟨rfl,rfl⟩
   have g:decide (b<a)=false:=by simp;omega
   by_cases k:b-a<z
   ·have n:decide (b-a<z)=true:=by simp;omega
    rw[show tcode a z fr b=2 by unfold tcode;rw[if_neg (by simpa using c),if_neg (by omega),if_pos (Or.inr (Or.inr k))]]
    go_enter Tryz.func125,Tryz.ntmps125
    go_wp2
    go_ret
    exact⟨rfl,rfl⟩
   ·have n:decide (b-a<z)=false:=by simp;omega
    rw[show tcode a z fr b=0 by unfold tcode;rw[if_neg (by simpa using c),if_neg (by omega),if_neg (by omega)]]
    go_enter Tryz.func125,Tryz.ntmps125
    go_wp2
    go_ret
    exact⟨rfl,rfl⟩
  ·rw[show tcode a z fr b=5 by unfold tcode;rw[if_neg (by simpa using c),if_pos (Or.inr i)]]
   go_enter Tryz.func125,Tryz.ntmps125
   go_wp2
   go_ret
   exact⟨rfl,rfl⟩
 ·rw[show tcode a z fr b=3 by unfold tcode;rw[if_pos c]]
  go_enter Tryz.func125,Tryz.ntmps125
  go_wp2
  go_ret
  exact⟨rfl,rfl⟩
end Gl
namespace Gm
open Bytes8 Blk8 Own8 OwnE Ga Gb Gf Gl
def flB (ic:Int):Bool:=bits BinOp.andNot IntKind.u32 ic 4 !=0
def stB (s:Int):Bool:=s==0||s==1||s==2
def fcode (h:HD)(n:Int):Int:=
 if flB h.ic=true then 7 else if stB h.st=false then 8
 else if h.N 0<272∨h.N 0%8≠0∨h.N 1%8≠0 then 5
 else if endB h=false∨n<endV h then 2
 else if tcode (h.N 2) (h.N 3) (h.N 0) (endV h)≠0 then tcode (h.N 2) (h.N 3) (h.N 0) (endV h)else tcode (h.N 4) (h.N 5) (h.N 0) (endV h)
theorem aG2 (h:HD)(a:h.Ok 21):0≤endV h∧endV h≤18446744073709551615:=by
 have c:=a.N 0
 have b:=a.N 1
 unfold endV
 split<;>omega
attribute [local irreducible] HD.cells wpList Code.wp
abbrev Told (c:Int)(w:World)(e:Ending)(w':World):Prop:=e= .returned (.int .i64 c)∧Below w.heap.size w w'
theorem aJZ (h:HD)(c:h.Ok 21)(n:Int)(w:World)(s:(bits BinOp.andNot IntKind.u32 h.ic 4 !=0)=true):Calls Tryz.prog 120 #[.agg (h.cells 21).toArray,.int .u64 n] w (Told 7 w):=by
 have b0:=yH ((yB w.heap.size w).alloc (yR _) (.cells (h.cells 21).toArray 165))
 have d:=yH (show Blk (w.alloc (.cells (h.cells 21).toArray 165)) w.heap.size (h.cells 21) 165 from Blk.new w _ _)
 have l:=yH fun(W:World)=>aDi h c W
 have g:=yH fun(W:World)=>aBf h.st W
 have m:=c.ic
 obtain⟨r,q⟩:=c.N 0
 obtain⟨r0,r1⟩:=c.N 1
 go_enter Tryz.func120,Tryz.ntmps120
 go_wp2_with(first
  |((with_reducible apply aAb 9);refine wpList_load_row rfl 165 (.tmp 2) rfl w.heap.size rfl 165 (h.cells 21).toArray (0,0) _ d.out Tryz.underlying165 rfl (aAf _) ?_)
  |(go_at_call 81;((with_reducible refine(l.out _).mono ?_);rintro e w1 ⟨rfl,a⟩;have f:=yH (b0.out.trans (a.mono b0.out.size));have b:=yH (d.out.below a d.out.lt);have t:w1.cell? ⟨w.heap.size,1,none⟩=some (.int .u32 h.ic):=b.out.cell (h.get 21 1 (by decide));have p:w1.cell? ⟨w.heap.size,2,none⟩=some (.int .i64 h.st):=b.out.cell (h.get 21 2 (by decide));have i:=HD.nums_at b.out 0 (by decide);have k:=HD.nums_at b.out 1 (by decide);have o:=HD.nums_at b.out 2 (by decide);have j:=HD.nums_at b.out 3 (by decide);clear a))
  |(go_at_call 153;((with_reducible refine(g.out _).mono ?_);rintro e w' ⟨rfl,rfl⟩))
  |fail)
 go_ret
 exact⟨rfl,f.out⟩
theorem aH2 (h:HD)(c:h.Ok 21)(n:Int)(w:World)(t:(bits BinOp.andNot IntKind.u32 h.ic 4 !=0)=false)(d:stB h.st=false):Calls Tryz.prog 120 #[.agg (h.cells 21).toArray,.int .u64 n] w (Told 8 w):=by
 have b0:=yH ((yB w.heap.size w).alloc (yR _) (.cells (h.cells 21).toArray 165))
 have f:=yH (show Blk (w.alloc (.cells (h.cells 21).toArray 165)) w.heap.size (h.cells 21) 165 from Blk.new w _ _)
 have m:=yH fun(W:World)=>aDi h c W
 have g:=yH fun(W:World)=>aBf h.st W
 have o:=c.ic
 obtain⟨s,r⟩:=c.N 0
 obtain⟨r0,r1⟩:=c.N 1
 unfold stB at d
 rw[d]at g
 clear d
 go_enter Tryz.func120,Tryz.ntmps120
 go_wp2_with(first
  |((with_reducible apply aAb 9);refine wpList_load_row rfl 165 (.tmp 2) rfl w.heap.size rfl 165 (h.cells 21).toArray (0,0) _ f.out Tryz.underlying165 rfl (aAf _) ?_)
  |(go_at_call 81;((with_reducible refine(m.out _).mono ?_);rintro e w1 ⟨rfl,a⟩;have i:=yH (b0.out.trans (a.mono b0.out.size));have b:=yH (f.out.below a f.out.lt);have u:w1.cell? ⟨w.heap.size,1,none⟩=some (.int .u32 h.ic):=b.out.cell (h.get 21 1 (by decide));have q:w1.cell? ⟨w.heap.size,2,none⟩=some (.int .i64 h.st):=b.out.cell (h.get 21 2 (by decide));have j:=HD.nums_at b.out 0 (by decide);have l:=HD.nums_at b.out 1 (by decide);have p:=HD.nums_at b.out 2 (by decide);have k:=HD.nums_at b.out 3 (by decide);clear a))
  |(go_at_call 153;((with_reducible refine(g.out _).mono ?_);rintro e w' ⟨rfl,rfl⟩))
  |fail)
 go_ret
 exact⟨rfl,i.out⟩
theorem aJ0 (h:HD)(k:h.Ok 21)(n:Int)(w:World)(z:(bits BinOp.andNot IntKind.u32 h.ic 4 !=0)=false)(m:stB h.st=true)(o:h.N 0<272∨h.N 0%8≠0∨h.N 1%8≠0):Calls Tryz.prog 120 #[.agg (h.cells 21).toArray,.int .u64 n] w (Told 5 w):=by
 have b0:=yH ((yB w.heap.size w).alloc (yR _) (.cells (h.cells 21).toArray 165))
 have c:=yH (show Blk (w.alloc (.cells (h.cells 21).toArray 165)) w.heap.size (h.cells 21) 165 from Blk.new w _ _)
 have p:=yH fun(W:World)=>aDi h k W
 have l:=yH fun(W:World)=>aBf h.st W
 have t:=k.ic
 obtain⟨x,u⟩:=k.N 0
 obtain⟨r0,r1⟩:=k.N 1
 unfold stB at m
 rw[m]at l
 clear m
 by_cases y:h.N 0<272
 ·have s:decide (h.N 0<272)=true:=by simp;omega
  clear o
  go_enter Tryz.func120,Tryz.ntmps120
  go_wp2_with(first
   |((with_reducible apply aAb 9);refine wpList_load_row rfl 165 (.tmp 2) rfl w.heap.size rfl 165 (h.cells 21).toArray (0,0) _ c.out Tryz.underlying165 rfl (aAf _) ?_)
   |(go_at_call 81;((with_reducible refine(p.out _).mono ?_);rintro e w1 ⟨rfl,a⟩;have d:=yH (b0.out.trans (a.mono b0.out.size));have b:=yH (c.out.below a c.out.lt);have r:w1.cell? ⟨w.heap.size,1,none⟩=some (.int .u32 h.ic):=b.out.cell (h.get 21 1 (by decide));have q:w1.cell? ⟨w.heap.size,2,none⟩=some (.int .i64 h.st):=b.out.cell (h.get 21 2 (by decide));have f:=HD.nums_at b.out 0 (by decide);have i:=HD.nums_at b.out 1 (by decide);have j:=HD.nums_at b.out 2 (by decide);have g:=HD.nums_at b.out 3 (by decide);clear a))
   |(go_at_call 153;((with_reducible refine(l.out _).mono ?_);rintro e w' ⟨rfl,rfl⟩))
   |fail)
  go_ret
  exact⟨rfl,d.out⟩
 have s:decide (h.N 0<272)=false:=by simp;omega
 by_cases A:h.N 0%8=0
 ·have v: ¬h.N 1%8=0:=by omega
  clear o
  go_enter Tryz.func120,Tryz.ntmps120
  go_wp2_with(first
   |((with_reducible apply aAb 9);refine wpList_load_row rfl 165 (.tmp 2) rfl w.heap.size rfl 165 (h.cells 21).toArray (0,0) _ c.out Tryz.underlying165 rfl (aAf _) ?_)
   |(go_at_call 81;((with_reducible refine(p.out _).mono ?_);rintro e w1 ⟨rfl,a⟩;have d:=yH (b0.out.trans (a.mono b0.out.size));have b:=yH (c.out.below a c.out.lt);have r:w1.cell? ⟨w.heap.size,1,none⟩=some (.int .u32 h.ic):=b.out.cell (h.get 21 1 (by decide));have q:w1.cell? ⟨w.heap.size,2,none⟩=some (.int .i64 h.st):=b.out.cell (h.get 21 2 (by decide));have f:=HD.nums_at b.out 0 (by decide);have i:=HD.nums_at b.out 1 (by decide);have j:=HD.nums_at b.out 2 (by decide);have g:=HD.nums_at b.out 3 (by decide);clear a))
   |(go_at_call 153;((with_reducible refine(l.out _).mono ?_);rintro e w' ⟨rfl,rfl⟩))
   |fail)
  go_ret
  exact⟨rfl,d.out⟩
 ·clear o
  go_enter Tryz.func120,Tryz.ntmps120
  go_wp2_with(first
   |((with_reducible apply aAb 9);refine wpList_load_row rfl 165 (.tmp 2) rfl w.heap.size rfl 165 (h.cells 21).toArray (0,0) _ c.out Tryz.underlying165 rfl (aAf _) ?_)
   |(go_at_call 81;((with_reducible refine(p.out _).mono ?_);rintro e w1 ⟨rfl,a⟩;have d:=yH (b0.out.trans (a.mono b0.out.size));have b:=yH (c.out.below a c.out.lt);have r:w1.cell? ⟨w.heap.size,1,none⟩=some (.int .u32 h.ic):=b.out.cell (h.get 21 1 (by decide));have q:w1.cell? ⟨w.heap.size,2,none⟩=some (.int .i64 h.st):=b.out.cell (h.get 21 2 (by decide));have f:=HD.nums_at b.out 0 (by decide);have i:=HD.nums_at b.out 1 (by decide);have j:=HD.nums_at b.out 2 (by decide);have g:=HD.nums_at b.out 3 (by decide);clear a))
   |(go_at_call 153;((with_reducible refine(l.out _).mono ?_);rintro e w' ⟨rfl,rfl⟩))
   |fail)
  go_ret
  exact⟨rfl,d.out⟩
theorem aH3 (h:HD)(g:h.Ok 21)(n:Int)(w:World)(v:(bits BinOp.andNot IntKind.u32 h.ic 4 !=0)=false)(j:stB h.st=true)(u: ¬(h.N 0<272∨h.N 0%8≠0∨h.N 1%8≠0))(c:endB h=false∨n<endV h):Calls Tryz.prog 120 #[.agg (h.cells 21).toArray,.int .u64 n] w (Told 2 w):=by
 have b0:=yH ((yB w.heap.size w).alloc (yR _) (.cells (h.cells 21).toArray 165))
 have d:=yH (show Blk (w.alloc (.cells (h.cells 21).toArray 165)) w.heap.size (h.cells 21) 165 from Blk.new w _ _)
 have i:=yH fun(W:World)=>aDi h g W
 have o:=yH fun(W:World)=>aBf h.st W
 have r:=g.ic
 obtain⟨D,y⟩:=g.N 0
 obtain⟨r0,r1⟩:=g.N 1
 unfold stB at j
 rw[j]at o
 clear j
 have C:decide (h.N 0<272)=false:=by simp;omega
 have x:h.N 0%8=0:=by omega
 have B:h.N 1%8=0:=by omega
 clear u
 by_cases h7:endB h=false
 ·rw[h7]at i
  clear c h7
  go_enter Tryz.func120,Tryz.ntmps120
  go_wp2_with(first
   |((with_reducible apply aAb 9);refine wpList_load_row rfl 165 (.tmp 2) rfl w.heap.size rfl 165 (h.cells 21).toArray (0,0) _ d.out Tryz.underlying165 rfl (aAf _) ?_)
   |(go_at_call 81;((with_reducible refine(i.out _).mono ?_);rintro e w1 ⟨rfl,a⟩;have m:=yH (b0.out.trans (a.mono b0.out.size));have b:=yH (d.out.below a d.out.lt);have s:w1.cell? ⟨w.heap.size,1,none⟩=some (.int .u32 h.ic):=b.out.cell (h.get 21 1 (by decide));have t:w1.cell? ⟨w.heap.size,2,none⟩=some (.int .i64 h.st):=b.out.cell (h.get 21 2 (by decide));have k:=HD.nums_at b.out 0 (by decide);have l:=HD.nums_at b.out 1 (by decide);have q:=HD.nums_at b.out 2 (by decide);have p:=HD.nums_at b.out 3 (by decide);clear a))
   |(go_at_call 153;((with_reducible refine(o.out _).mono ?_);rintro e w' ⟨rfl,rfl⟩))
   |fail)
  go_ret
  exact⟨rfl,m.out⟩
 ·have f:endB h=true:=by simpa using h7
  have z:n<endV h:=by rcases c with c|c;exact absurd c h7;exact c
  rw[f]at i
  clear c h7 f
  generalize endV h=V at*
  have A:decide (n<V)=true:=by simp;omega
  go_enter Tryz.func120,Tryz.ntmps120
  go_wp2_with(first
   |((with_reducible apply aAb 9);refine wpList_load_row rfl 165 (.tmp 2) rfl w.heap.size rfl 165 (h.cells 21).toArray (0,0) _ d.out Tryz.underlying165 rfl (aAf _) ?_)
   |(go_at_call 81;((with_reducible refine(i.out _).mono ?_);rintro e w1 ⟨rfl,a⟩;have m:=yH (b0.out.trans (a.mono b0.out.size));have b:=yH (d.out.below a d.out.lt);have s:w1.cell? ⟨w.heap.size,1,none⟩=some (.int .u32 h.ic):=b.out.cell (h.get 21 1 (by decide));have t:w1.cell? ⟨w.heap.size,2,none⟩=some (.int .i64 h.st):=b.out.cell (h.get 21 2 (by decide));have k:=HD.nums_at b.out 0 (by decide);have l:=HD.nums_at b.out 1 (by decide);have q:=HD.nums_at b.out 2 (by decide);have p:=HD.nums_at b.out 3 (by decide);clear a))
   |(go_at_call 153;((with_reducible refine(o.out _).mono ?_);rintro e w' ⟨rfl,rfl⟩))
   |fail)
  go_ret
  exact⟨rfl,m.out⟩
theorem aH4 (h:HD)(d:h.Ok 21)(n:Int)(hn:n≤1000000)(w:World)(R:(bits BinOp.andNot IntKind.u32 h.ic 4 !=0)=false)(p:stB h.st=true)(J: ¬(h.N 0<272∨h.N 0%8≠0∨h.N 1%8≠0))(u: ¬(endB h=false∨n<endV h)):Calls Tryz.prog 120 #[.agg (h.cells 21).toArray,.int .u64 n] w (Told (if tcode (h.N 2) (h.N 3) (h.N 0) (endV h)≠0 then tcode (h.N 2) (h.N 3) (h.N 0) (endV h)else tcode (h.N 4) (h.N 5) (h.N 0) (endV h)) w):=by
 have b0:=yH ((yB w.heap.size w).alloc (yR _) (.cells (h.cells 21).toArray 165))
 have g:=yH (show Blk (w.alloc (.cells (h.cells 21).toArray 165)) w.heap.size (h.cells 21) 165 from Blk.new w _ _)
 have B:=yH fun(W:World)=>aDi h d W
 have y:=yH fun(W:World)=>aBf h.st W
 have F:=d.ic
 obtain⟨p0,Z⟩:=d.N 0
 obtain⟨r0,r1⟩:=d.N 1
 unfold stB at p
 rw[p]at y
 clear p
 have d4:decide (h.N 0<272)=false:=by simp;omega
 have X:h.N 0%8=0:=by omega
 have h6:h.N 1%8=0:=by omega
 clear J
 have v:endB h=true:=by
  cases E:endB h with
  |true=>rfl
  |false=>exact absurd (Or.inl E) u
 have h8: ¬n<endV h:=fun hx=>u (Or.inr hx)
 have L:endV h=h.N 0+h.N 1:=if_pos (of_decide_eq_true v)
 have j:h.N 0≤1000000000:=by omega
 have i:=aG2 h d
 have l:=yH fun(W:World)=>aOr h d (endV h) (h.N 2) (h.N 3) i (d.N 2) (d.N 3) j W
 have A:=yH fun(W:World)=>aOr h d (endV h) (h.N 4) (h.N 5) i (d.N 4) (d.N 5) j W
 rw[v]at B
 clear u v L
 generalize tcode (h.N 2) (h.N 3) (h.N 0) (endV h)=D at*
 generalize tcode (h.N 4) (h.N 5) (h.N 0) (endV h)=M at*
 generalize endV h=V at*
 have d8:decide (n<V)=false:=by simp;omega
 by_cases q:D=0
 ·subst q
  rw[if_neg (by simp)]
  go_enter Tryz.func120,Tryz.ntmps120
  go_wp2_with(first
   |((with_reducible apply aAb 9);refine wpList_load_row rfl 165 (.tmp 2) rfl w.heap.size rfl 165 (h.cells 21).toArray (0,0) _ g.out Tryz.underlying165 rfl (aAf _) ?_)
   |(go_at_call 81;((with_reducible refine(B.out _).mono ?_);rintro e w1 ⟨rfl,c⟩;have k:=yH (b0.out.trans (c.mono b0.out.size));have a:=yH (g.out.below c g.out.lt);have G:w1.cell? ⟨w.heap.size,1,none⟩=some (.int .u32 h.ic):=a.out.cell (h.get 21 1 (by decide));have H:w1.cell? ⟨w.heap.size,2,none⟩=some (.int .i64 h.st):=a.out.cell (h.get 21 2 (by decide));have r:=HD.nums_at a.out 0 (by decide);have t:=HD.nums_at a.out 1 (by decide);have C:=HD.nums_at a.out 2 (by decide);have z:=HD.nums_at a.out 3 (by decide);clear c))
   |(go_at_call 153;((with_reducible refine(y.out _).mono ?_);rintro e w' ⟨rfl,rfl⟩))
   |((with_reducible apply aAb 47);refine wpList_load_row rfl 165 (.tmp 2) rfl w.heap.size rfl 165 (h.cells 21).toArray (0,0) _ a.out Tryz.underlying165 rfl (aAf _) ?_)
   |(go_at_call 154;((with_reducible refine(l.out w1).mono ?_);rintro e w2 ⟨rfl,b⟩;have o:=yH (k.out.trans (b.mono k.out.size));have f:=yH (a.out.below b a.out.lt);have x:=HD.nums_at f.out 4 (by decide);have s:=HD.nums_at f.out 5 (by decide);clear b))
   |((with_reducible apply aAb 57);refine wpList_load_row rfl 165 (.tmp 2) rfl w.heap.size rfl 165 (h.cells 21).toArray (0,0) _ f.out Tryz.underlying165 rfl (aAf _) ?_)
   |(go_at_call 154;((with_reducible refine(A.out w2).mono ?_);rintro e w3 ⟨rfl,m⟩;have I:=yH (o.out.trans (m.mono o.out.size));clear m)))
  go_ret
  exact⟨rfl,I.out⟩
 ·rw[if_pos q]
  have Y:(D !=0)=true:=by simp[q]
  go_enter Tryz.func120,Tryz.ntmps120
  go_wp2_with(first
   |((with_reducible apply aAb 9);refine wpList_load_row rfl 165 (.tmp 2) rfl w.heap.size rfl 165 (h.cells 21).toArray (0,0) _ g.out Tryz.underlying165 rfl (aAf _) ?_)
   |(go_at_call 81;((with_reducible refine(B.out _).mono ?_);rintro e w1 ⟨rfl,c⟩;have k:=yH (b0.out.trans (c.mono b0.out.size));have a:=yH (g.out.below c g.out.lt);have G:w1.cell? ⟨w.heap.size,1,none⟩=some (.int .u32 h.ic):=a.out.cell (h.get 21 1 (by decide));have H:w1.cell? ⟨w.heap.size,2,none⟩=some (.int .i64 h.st):=a.out.cell (h.get 21 2 (by decide));have r:=HD.nums_at a.out 0 (by decide);have t:=HD.nums_at a.out 1 (by decide);have C:=HD.nums_at a.out 2 (by decide);have z:=HD.nums_at a.out 3 (by decide);clear c))
   |(go_at_call 153;((with_reducible refine(y.out _).mono ?_);rintro e w' ⟨rfl,rfl⟩))
   |((with_reducible apply aAb 47);refine wpList_load_row rfl 165 (.tmp 2) rfl w.heap.size rfl 165 (h.cells 21).toArray (0,0) _ a.out Tryz.underlying165 rfl (aAf _) ?_)
   |(go_at_call 154;((with_reducible refine(l.out w1).mono ?_);rintro e w2 ⟨rfl,b⟩;have o:=yH (k.out.trans (b.mono k.out.size));have f:=yH (a.out.below b a.out.lt);have x:=HD.nums_at f.out 4 (by decide);have s:=HD.nums_at f.out 5 (by decide);clear b))
   |fail)
  go_ret
  exact⟨rfl,o.out⟩
theorem aMb (h:HD)(ok:h.Ok 21)(n:Int)(hn:n≤1000000)(w:World):Calls Tryz.prog 120 #[.agg (h.cells 21).toArray,.int .u64 n] w (Told (fcode h n) w):=by
 unfold fcode
 by_cases h1:flB h.ic=true
 ·rw[if_pos h1];exact aJZ h ok n w h1
 rw[if_neg h1]
 have h1':flB h.ic=false:=by simpa using h1
 by_cases h2:stB h.st=false
 ·rw[if_pos h2];exact aH2 h ok n w h1' h2
 rw[if_neg h2]
 have h2':stB h.st=true:=by simpa using h2
 by_cases h3:h.N 0<272∨h.N 0%8≠0∨h.N 1%8≠0
 ·rw[if_pos h3];exact aJ0 h ok n w h1' h2' h3
 rw[if_neg h3]
 by_cases h4:endB h=false∨n<endV h
 ·rw[if_pos h4];exact aH3 h ok n w h1' h2' h3 h4
 rw[if_neg h4]
 exact aH4 h ok n hn w h1' h2' h3 h4
end Gm
end Go.Proofs.YteaikbodkgjkdaaGreat
