/-
  Texts beneath the proof.
-/
import Derived.Test.YtelmgldkgccecaaGreatQs1
import Derived.Test.YtelmgldkgccecaaGreatQs33
import Derived.Test.YtelmgldkgccecaaGreatQs32
import Derived.Test.YtelmgldkgccecaaGreatQs3
set_option linter.unusedVariables false
set_option linter.unusedSimpArgs false
set_option maxRecDepth 100000
set_option maxHeartbeats 32000000
open Go.ChangeShapes Go.WideShapes Go.ChangeAt Go.RowKit
namespace Go.Proofs.YtelmgldkgccecaaGreat
namespace Ve
open Bytes8 Blk8 Own8 OwnE RefA Rows2 Ob Ga Gb Gj Oj Ok7 Np Nr Pr8 Rc Rm Rr Rq Va Vb
open Yc Yp Yd Ye Yg Yh Yi Yq
open Rn (rcode recL_all natOf)
open Vc (rrecTell)
open Rk (hcode9)
open Ri (ecode9 ez)
open Rd (dcode dz)
open Rf (fcode fz)
open Rg (arcode az)
attribute [local irreducible] wpList Code.wp
theorem samedata_yes (x0 x1 x2 x3 x4 x5:Int)(A B:Option Addr)(m c d:Nat)(pl:List Int)(w:World)(ha:Bytes w A pl)(hb:Bytes w B pl)(hl:pl.length=m):
 Calls Tryz.prog 69 #[dataV x0 x1 x2 x3 x4 x5 A m c,dataV x0 x1 x2 x3 x4 x5 B m d] w fun e w'=>e= .returned (.bool true)∧Below w.heap.size w w':=by
 have B0:=jH (((Below.refl w.heap.size w).alloc (jR _) (.cells #[.int .u64 x0,.int .u64 x1,.int .u64 x2,.int .u64 x3,.int .u64 x4,.int .u64 x5,.slice A m c] 92)).alloc (by simp) (.cells #[.int .u64 x0,.int .u64 x1,.int .u64 x2,.int .u64 x3,.int .u64 x4,.int .u64 x5,.slice B m d] 124))
 have P0:=jH ((show Blk (w.alloc (.cells #[.int .u64 x0,.int .u64 x1,.int .u64 x2,.int .u64 x3,.int .u64 x4,.int .u64 x5,.slice A m c] 92)) w.heap.size [.int .u64 x0,.int .u64 x1,.int .u64 x2,.int .u64 x3,.int .u64 x4,.int .u64 x5,.slice A m c] 92 from Blk.new w _ _).alloc (.cells #[.int .u64 x0,.int .u64 x1,.int .u64 x2,.int .u64 x3,.int .u64 x4,.int .u64 x5,.slice B m d] 124))
 have Q0:=jH (show Blk ((w.alloc (.cells #[.int .u64 x0,.int .u64 x1,.int .u64 x2,.int .u64 x3,.int .u64 x4,.int .u64 x5,.slice A m c] 92)).alloc (.cells #[.int .u64 x0,.int .u64 x1,.int .u64 x2,.int .u64 x3,.int .u64 x4,.int .u64 x5,.slice B m d] 124)) (w.heap.size+1) [.int .u64 x0,.int .u64 x1,.int .u64 x2,.int .u64 x3,.int .u64 x4,.int .u64 x5,.slice B m d] 124 from Blk.new_at _ _ _ _ (by simp))
 have HS:=jH (same_yes A B pl m c d _ (ha.below B0.out (jR _)) (hb.below B0.out (jR _)) hl)
 clear ha hb
 have p0:=P0.out.cell (i:=0) rfl;have q0:=Q0.out.cell (i:=0) rfl
 have p1:=P0.out.cell (i:=1) rfl;have q1:=Q0.out.cell (i:=1) rfl
 have p2:=P0.out.cell (i:=2) rfl;have q2:=Q0.out.cell (i:=2) rfl
 have p3:=P0.out.cell (i:=3) rfl;have q3:=Q0.out.cell (i:=3) rfl
 have p4:=P0.out.cell (i:=4) rfl;have q4:=Q0.out.cell (i:=4) rfl
 have p5:=P0.out.cell (i:=5) rfl;have q5:=Q0.out.cell (i:=5) rfl
 have p6:=P0.out.cell (i:=6) rfl;have q6:=Q0.out.cell (i:=6) rfl
 go_enter Tryz.func69,Tryz.ntmps69
 go_wp2_with(first
  |(go_at_call 70;(refine HS.out.mono ?_);rintro e w2 ⟨rfl,rfl⟩)
  |fail)
 go_ret
 exact⟨rfl,B0.out⟩
structure Views (w:World)(gv gw:Nat)(h:HD)(dp:Int)(n:Nat)(l:List Int):Prop where
 v: ∃A c,ViewAt w gv h A n c l∧c≤maxLen
 w: ∃A c,ViewR w gw h dp A n c l
theorem Views.below {w w':World}{gv gw:Nat}{h:HD}{dp:Int}{n:Nat}{l:List Int}(v:Views w gv gw h dp n l)(hb:Below w.heap.size w w'):Views w' gv gw h dp n l:=by
 obtain⟨⟨A,c,h1,h2⟩,⟨B,d,h3⟩⟩:=v
 exact⟨⟨A,c,h1.below hb,h2⟩,⟨B,d,h3.below hb⟩⟩
theorem eC_le {h:HD}{l:List Int}{n a:Nat}(hl:l.length≤1000000):eC9 h l n a≤1000000∧aC9 h l n a≤1000000:=by
 have hb:(bodyL l a).length≤l.length:=by unfold bodyL;rw[List.length_take,List.length_drop];omega
 refine⟨?_,?_⟩
 ·unfold eC9
  split
  ·unfold eN itN
   split<;>omega
  ·omega
 ·unfold aC9
  split
  ·unfold arM arN
   split<;>omega
  ·omega
theorem eK9_ok {h:HD}{l:List Int}{n a:Nat}(hl:AllB l):IdOk (eK9 h l n a):=by
 unfold eK9
 split
 ·exact eK_ok hl
 ·exact fun _=>⟨Int.le_refl _,by show(0:Int)<256;decide⟩
theorem wpList_load_row_want {P:Program}{ops:Array Oper}{rest:List Oper}{o:Oper}{a:Act}{w:World}{Q:Exit→Act→World→Prop}(hw:Region.wanted o (yielded ops a.tmps)=true)(ty:TypeId)(x:Operand)(ho:o.op= .load ty x)
 (g:Nat)(hx:a.eval x= .pointer (some ⟨g,0,none⟩))(t:TypeId)(cs:Array Value)(fr:Nat×Nat)(d:TypeDesc)(hg:w.heap[g]? =some (.cells cs t fr))
 (hu:P.underlying ty=some d)(hd:(match d with| .struct _| .array _ _=>true|_=>false)=true)(hi:(P.info? ty).map (·.size)=some cs.size)
 (h:wpList P ops Q rest (a.put o.dst (.agg cs)) w):wpList P ops Q (o::rest) a w:=
 BigFrame.wpList_want hw fun _ hK=>wp_load_row ty x ho g hx t cs fr d hg hu hd hi (hK _ _ h)
attribute [local irreducible] dN dP fN fP eN9 eK9 eC9 aX9 aC9 payT hH rcode hcode9 dcode fcode ecode9 arcode recP itA itH arF
theorem sameat_yes {gv gw:Nat}{h:HD}{dp:Int}{n:Nat}{l:List Int}(a:Nat)(w:World)(v:Views w gv gw h dp n l):
 Calls Tryz.prog 20 #[.pointer (some ⟨gv,0,none⟩),.pointer (some ⟨gw,0,none⟩),.int .u64 (a:Int)] w fun e w'=>e= .returned (.bool true)∧Below w.heap.size w w':=by
 obtain⟨⟨A1,cv,hv,hcv⟩,⟨Bx,cw,hw⟩⟩:=v
 have hn8:=hw.big
 have hlen:=hw.len
 have HOkR:=jH (recP_ok h n a hw.by_.1)
 have HOkK:=jH (eK9_ok (h:=h) (n:=n) (a:=a) hw.by_.1)
 obtain⟨hC1,hC2⟩:=eC_le (h:=h) (n:=n) (a:=a) (l:=l) (by omega)
 have K1:=jH fun(W:World) (hW:Below w.heap.size w W)=>dataTell a W (hv.below hW) hcv
 have K2:=jH fun(W:World) (hW:Below w.heap.size w W)=>rdataTell a W (hw.below hW)
 have K3:=jH fun(W:World) (hW:Below w.heap.size w W)=>fieldTell a W (hv.below hW) hcv
 have K4:=jH fun(W:World) (hW:Below w.heap.size w W)=>rfieldTell a W (hw.below hW)
 have K5:=jH fun(W:World) (hW:Below w.heap.size w W)=>entTell a W (hv.below hW) hcv
 have K6:=jH fun(W:World) (hW:Below w.heap.size w W)=>rentTell a W (hw.below hW)
 have K7:=jH fun(W:World) (hW:Below w.heap.size w W)=>arrTell a W (hv.below hW) hcv
 have K8:=jH fun(W:World) (hW:Below w.heap.size w W)=>rarrTell a W (hw.below hW)
 have K9:=jH fun(W:World) (hW:Below w.heap.size w W)=>payTell a W (hv.below hW) hcv hn8
 have K10:=jH fun(W:World) (hW:Below w.heap.size w W)=>rpayTell a W (hw.below hW)
 have K11:=jH fun(W:World) (hW:Below w.heap.size w W)=>recTell a W (hv.below hW) hcv hn8
 have K12:=jH fun(W:World) (hW:Below w.heap.size w W)=>rrecTell a W (hw.below hW)
 unfold TellD at K1 K2
 unfold TellF at K3 K4
 unfold TellE at K5 K6
 unfold TellA at K7 K8
 unfold TellP at K9
 unfold TellH at K10
 unfold TellR at K11 K12
 clear hv hw hcv hn8 hlen
 generalize dN h l n a 0=x0 at*
 generalize dN h l n a 1=x1 at*
 generalize dN h l n a 2=x2 at*
 generalize dN h l n a 3=x3 at*
 generalize dN h l n a 4=x4 at*
 generalize dN h l n a 5=x5 at*
 generalize dP h l n a=dp1 at*
 generalize dcode h l n a=dc at*
 generalize fN h l n a 0=z0 at*
 generalize fN h l n a 1=z1 at*
 generalize fN h l n a 2=z2 at*
 generalize fP h l n a=fp1 at*
 generalize fcode h l n a=fc at*
 generalize eN9 h l n a 0=s0 at*
 generalize eN9 h l n a 8=s8 at*
 generalize eN9 h l n a 16=s16 at*
 generalize eN9 h l n a 40=s40 at*
 generalize eK9 h l n a=K at*
 generalize eC9 h l n a=N at*
 generalize ecode9 h l n a=ec at*
 generalize itA (bodyL l a)=fa at*
 generalize itH (bodyL l a)=fh at*
 generalize aX9 h l n a=ax at*
 generalize aC9 h l n a=M at*
 generalize arcode h l n a=ac at*
 generalize arF (bodyL l a)=af at*
 generalize payT h l n a=pt at*
 generalize hH h l n a=hh at*
 generalize hcode9 h l n a=hc at*
 generalize recP h l n a=q at*
 generalize rcode h l n a=rc at*
 go_enter Tryz.func20,Tryz.ntmps20
 have C0:=jH (Below.refl w.heap.size w)
 go_upto_region 2 with(first
  |(go_at_call 43;((refine(K1.out _ C0.out).mono ?_);rintro e u1 ⟨hb1,F1,m1,e1,rfl,hy1,hl1,_⟩;have D1:=jH hb1;have Y1:=jH hy1;clear hy1;clear hb1))
   |((with_reducible apply at_store (.tmp 7) (.tmp 37));refine wpList_store_row rfl 92 (.tmp 7) (.tmp 37) rfl u1.heap.size #[.int .u64 x0,.int .u64 x1,.int .u64 x2,.int .u64 x3,.int .u64 x4,.int .u64 x5,.slice F1 m1 e1] rfl rfl 92 dz (heap_alloc_new u1 _) (by kernel_rfl) rfl (by simp[Value.oneCell']) ?_)
   |fail)
 have R1:=jH (show Blk ((u1.alloc (.cells dz 92)).setRow u1.heap.size #[.int .u64 x0,.int .u64 x1,.int .u64 x2,.int .u64 x3,.int .u64 x4,.int .u64 x5,.slice F1 m1 e1]) u1.heap.size [.int .u64 x0,.int .u64 x1,.int .u64 x2,.int .u64 x3,.int .u64 x4,.int .u64 x5,.slice F1 m1 e1] 92 from setRow_heap _ _ _ _ _ (0,0) (heap_alloc_new u1 _))
 have E1:=jH (show Below u1.heap.size u1 ((u1.alloc (.cells dz 92)).setRow u1.heap.size #[.int .u64 x0,.int .u64 x1,.int .u64 x2,.int .u64 x3,.int .u64 x4,.int .u64 x5,.slice F1 m1 e1])from below_setRow ((Below.refl _ _).alloc (jR _) _) (jR _) _)
 generalize (u1.alloc (.cells dz 92)).setRow u1.heap.size #[.int .u64 x0,.int .u64 x1,.int .u64 x2,.int .u64 x3,.int .u64 x4,.int .u64 x5,.slice F1 m1 e1]=y1 at*
 have B1:=jH (D1.out.trans (E1.out.mono D1.out.size))
 have C1:=jH (C0.out.trans (B1.out.mono C0.out.size))
 go_upto_region 3 with(first
  |(go_at_call 61;((refine(K2.out _ C1.out).mono ?_);rintro e u2 ⟨hb2,F2,m2,e2,rfl,hy2,hl2,_⟩;have D2:=jH hb2;have Y2:=jH hy2;clear hy2;clear hb2))
   |((with_reducible apply at_store (.tmp 9) (.tmp 43));refine wpList_store_row rfl 124 (.tmp 9) (.tmp 43) rfl u2.heap.size #[.int .u64 x0,.int .u64 x1,.int .u64 x2,.int .u64 x3,.int .u64 x4,.int .u64 x5,.slice F2 m2 e2] rfl rfl 124 dz (heap_alloc_new u2 _) (by kernel_rfl) rfl (by simp[Value.oneCell']) ?_)
   |fail)
 have R2:=jH (show Blk ((u2.alloc (.cells dz 124)).setRow u2.heap.size #[.int .u64 x0,.int .u64 x1,.int .u64 x2,.int .u64 x3,.int .u64 x4,.int .u64 x5,.slice F2 m2 e2]) u2.heap.size [.int .u64 x0,.int .u64 x1,.int .u64 x2,.int .u64 x3,.int .u64 x4,.int .u64 x5,.slice F2 m2 e2] 124 from setRow_heap _ _ _ _ _ (0,0) (heap_alloc_new u2 _))
 have E2:=jH (show Below u2.heap.size u2 ((u2.alloc (.cells dz 124)).setRow u2.heap.size #[.int .u64 x0,.int .u64 x1,.int .u64 x2,.int .u64 x3,.int .u64 x4,.int .u64 x5,.slice F2 m2 e2])from below_setRow ((Below.refl _ _).alloc (jR _) _) (jR _) _)
 generalize (u2.alloc (.cells dz 124)).setRow u2.heap.size #[.int .u64 x0,.int .u64 x1,.int .u64 x2,.int .u64 x3,.int .u64 x4,.int .u64 x5,.slice F2 m2 e2]=y2 at*
 have B2:=jH (D2.out.trans (E2.out.mono D2.out.size))
 have C2:=jH (C1.out.trans (B2.out.mono C1.out.size))
 go_upto_region 4 with(first
  |(go_at_call 44;((refine(K3.out _ C2.out).mono ?_);rintro e u3 ⟨hb3,F3,m3,e3,rfl,hy3,hl3,_⟩;have D3:=jH hb3;have Y3:=jH hy3;clear hy3;clear hb3))
   |((with_reducible apply at_store (.tmp 11) (.tmp 49));refine wpList_store_row rfl 96 (.tmp 11) (.tmp 49) rfl u3.heap.size #[.int .u64 z0,.int .u64 z1,.int .u64 z2,.slice F3 m3 e3] rfl rfl 96 fz (heap_alloc_new u3 _) (by kernel_rfl) rfl (by simp[Value.oneCell']) ?_)
   |fail)
 have R3:=jH (show Blk ((u3.alloc (.cells fz 96)).setRow u3.heap.size #[.int .u64 z0,.int .u64 z1,.int .u64 z2,.slice F3 m3 e3]) u3.heap.size [.int .u64 z0,.int .u64 z1,.int .u64 z2,.slice F3 m3 e3] 96 from setRow_heap _ _ _ _ _ (0,0) (heap_alloc_new u3 _))
 have E3:=jH (show Below u3.heap.size u3 ((u3.alloc (.cells fz 96)).setRow u3.heap.size #[.int .u64 z0,.int .u64 z1,.int .u64 z2,.slice F3 m3 e3])from below_setRow ((Below.refl _ _).alloc (jR _) _) (jR _) _)
 generalize (u3.alloc (.cells fz 96)).setRow u3.heap.size #[.int .u64 z0,.int .u64 z1,.int .u64 z2,.slice F3 m3 e3]=y3 at*
 have B3:=jH (D3.out.trans (E3.out.mono D3.out.size))
 have C3:=jH (C2.out.trans (B3.out.mono C2.out.size))
 go_upto_region 5 with(first
  |(go_at_call 62;((refine(K4.out _ C3.out).mono ?_);rintro e u4 ⟨hb4,F4,m4,e4,rfl,hy4,hl4,_⟩;have D4:=jH hb4;have Y4:=jH hy4;clear hy4;clear hb4))
   |((with_reducible apply at_store (.tmp 13) (.tmp 55));refine wpList_store_row rfl 127 (.tmp 13) (.tmp 55) rfl u4.heap.size #[.int .u64 z0,.int .u64 z1,.int .u64 z2,.slice F4 m4 e4] rfl rfl 127 fz (heap_alloc_new u4 _) (by kernel_rfl) rfl (by simp[Value.oneCell']) ?_)
   |fail)
 have R4:=jH (show Blk ((u4.alloc (.cells fz 127)).setRow u4.heap.size #[.int .u64 z0,.int .u64 z1,.int .u64 z2,.slice F4 m4 e4]) u4.heap.size [.int .u64 z0,.int .u64 z1,.int .u64 z2,.slice F4 m4 e4] 127 from setRow_heap _ _ _ _ _ (0,0) (heap_alloc_new u4 _))
 have E4:=jH (show Below u4.heap.size u4 ((u4.alloc (.cells fz 127)).setRow u4.heap.size #[.int .u64 z0,.int .u64 z1,.int .u64 z2,.slice F4 m4 e4])from below_setRow ((Below.refl _ _).alloc (jR _) _) (jR _) _)
 generalize (u4.alloc (.cells fz 127)).setRow u4.heap.size #[.int .u64 z0,.int .u64 z1,.int .u64 z2,.slice F4 m4 e4]=y4 at*
 have B4:=jH (D4.out.trans (E4.out.mono D4.out.size))
 have C4:=jH (C3.out.trans (B4.out.mono C3.out.size))
 go_upto_region 6 with(first
  |(go_at_call 63;((refine(K5.out _ C4.out).mono ?_);rintro e u5 ⟨hb5,F5,e5,rfl,hy5,_⟩;have D5:=jH hb5;have Y5:=jH hy5;clear hy5;clear hb5))
   |((with_reducible apply at_store (.tmp 15) (.tmp 61));refine wpList_store_row rfl 132 (.tmp 15) (.tmp 61) rfl u5.heap.size (entL s0 s8 s16 K s40 F5 N e5).toArray rfl rfl 132 ez (heap_alloc_new u5 _) (by kernel_rfl) rfl (by first|exact ent_one _ _ _ _ _ _ _ _|exact z_one) ?_)
   |fail)
 have R5:=jH (show Blk ((u5.alloc (.cells ez 132)).setRow u5.heap.size (entL s0 s8 s16 K s40 F5 N e5).toArray) u5.heap.size (entL s0 s8 s16 K s40 F5 N e5) 132 from setRow_heap _ _ _ _ _ (0,0) (heap_alloc_new u5 _))
 have E5:=jH (show Below u5.heap.size u5 ((u5.alloc (.cells ez 132)).setRow u5.heap.size (entL s0 s8 s16 K s40 F5 N e5).toArray)from below_setRow ((Below.refl _ _).alloc (jR _) _) (jR _) _)
 generalize (u5.alloc (.cells ez 132)).setRow u5.heap.size (entL s0 s8 s16 K s40 F5 N e5).toArray=y5 at*
 have B5:=jH (D5.out.trans (E5.out.mono D5.out.size))
 have C5:=jH (C4.out.trans (B5.out.mono C4.out.size))
 go_upto_region 7 with(first
  |(go_at_call 64;((refine(K6.out _ C5.out).mono ?_);rintro e u6 ⟨hb6,F6,e6,rfl,hy6,_⟩;have D6:=jH hb6;have Y6:=jH hy6;clear hy6;clear hb6))
   |((with_reducible apply at_store (.tmp 17) (.tmp 67));refine wpList_store_row rfl 137 (.tmp 17) (.tmp 67) rfl u6.heap.size (entL s0 s8 s16 K s40 F6 N e6).toArray rfl rfl 137 ez (heap_alloc_new u6 _) (by kernel_rfl) rfl (by first|exact ent_one _ _ _ _ _ _ _ _|exact z_one) ?_)
   |fail)
 have R6:=jH (show Blk ((u6.alloc (.cells ez 137)).setRow u6.heap.size (entL s0 s8 s16 K s40 F6 N e6).toArray) u6.heap.size (entL s0 s8 s16 K s40 F6 N e6) 137 from setRow_heap _ _ _ _ _ (0,0) (heap_alloc_new u6 _))
 have E6:=jH (show Below u6.heap.size u6 ((u6.alloc (.cells ez 137)).setRow u6.heap.size (entL s0 s8 s16 K s40 F6 N e6).toArray)from below_setRow ((Below.refl _ _).alloc (jR _) _) (jR _) _)
 generalize (u6.alloc (.cells ez 137)).setRow u6.heap.size (entL s0 s8 s16 K s40 F6 N e6).toArray=y6 at*
 have B6:=jH (D6.out.trans (E6.out.mono D6.out.size))
 have C6:=jH (C5.out.trans (B6.out.mono C5.out.size))
 go_upto_region 8 with(first
  |(go_at_call 65;((refine(K7.out _ C6.out).mono ?_);rintro e u7 ⟨hb7,F7,e7,rfl,hy7,_⟩;have D7:=jH hb7;have Y7:=jH hy7;clear hy7;clear hb7))
   |((with_reducible apply at_store (.tmp 19) (.tmp 73));refine wpList_store_row rfl 141 (.tmp 19) (.tmp 73) rfl u7.heap.size #[.int .u64 ax,.slice F7 M e7] rfl rfl 141 az (heap_alloc_new u7 _) (by kernel_rfl) rfl (by simp[Value.oneCell']) ?_)
   |fail)
 have R7:=jH (show Blk ((u7.alloc (.cells az 141)).setRow u7.heap.size #[.int .u64 ax,.slice F7 M e7]) u7.heap.size [.int .u64 ax,.slice F7 M e7] 141 from setRow_heap _ _ _ _ _ (0,0) (heap_alloc_new u7 _))
 have E7:=jH (show Below u7.heap.size u7 ((u7.alloc (.cells az 141)).setRow u7.heap.size #[.int .u64 ax,.slice F7 M e7])from below_setRow ((Below.refl _ _).alloc (jR _) _) (jR _) _)
 generalize (u7.alloc (.cells az 141)).setRow u7.heap.size #[.int .u64 ax,.slice F7 M e7]=y7 at*
 have B7:=jH (D7.out.trans (E7.out.mono D7.out.size))
 have C7:=jH (C6.out.trans (B7.out.mono C6.out.size))
 go_upto_region 9 with(first
  |(go_at_call 66;((refine(K8.out _ C7.out).mono ?_);rintro e u8 ⟨hb8,F8,e8,rfl,hy8,_⟩;have D8:=jH hb8;have Y8:=jH hy8;clear hy8;clear hb8))
   |((with_reducible apply at_store (.tmp 21) (.tmp 79));refine wpList_store_row rfl 144 (.tmp 21) (.tmp 79) rfl u8.heap.size #[.int .u64 ax,.slice F8 M e8] rfl rfl 144 az (heap_alloc_new u8 _) (by kernel_rfl) rfl (by simp[Value.oneCell']) ?_)
   |fail)
 have R8:=jH (show Blk ((u8.alloc (.cells az 144)).setRow u8.heap.size #[.int .u64 ax,.slice F8 M e8]) u8.heap.size [.int .u64 ax,.slice F8 M e8] 144 from setRow_heap _ _ _ _ _ (0,0) (heap_alloc_new u8 _))
 have E8:=jH (show Below u8.heap.size u8 ((u8.alloc (.cells az 144)).setRow u8.heap.size #[.int .u64 ax,.slice F8 M e8])from below_setRow ((Below.refl _ _).alloc (jR _) _) (jR _) _)
 generalize (u8.alloc (.cells az 144)).setRow u8.heap.size #[.int .u64 ax,.slice F8 M e8]=y8 at*
 have B8:=jH (D8.out.trans (E8.out.mono D8.out.size))
 have C8:=jH (C7.out.trans (B8.out.mono C7.out.size))
 go_upto_region 10 with(first
  |(go_at_call 48;((refine(K9.out _ C8.out).mono ?_);rintro e u9 ⟨F9,m9,e9,rfl,hy9,hl9,hb9⟩;have D9:=jH hb9;have Y9:=jH hy9;clear hy9;clear hb9))
   |fail)
 obtain⟨y9,hy9⟩: ∃y,y=u9:=⟨_,rfl⟩
 subst hy9
 have B9:=jH D9.out
 have C9:=jH (C8.out.trans (B9.out.mono C8.out.size))
 go_upto_region 11 with(first
  |(go_at_call 67;((refine(K10.out _ C9.out).mono ?_);rintro e u10 ⟨hb10,F10,m10,e10,rfl,hy10,hl10,_⟩;have D10:=jH hb10;have Y10:=jH hy10;clear hy10;clear hb10))
   |fail)
 obtain⟨y10,hy10⟩: ∃y,y=u10:=⟨_,rfl⟩
 subst hy10
 have B10:=jH D10.out
 have C10:=jH (C9.out.trans (B10.out.mono C9.out.size))
 go_upto_region 12 with(first
  |(go_at_call 27;((refine(K11.out _ C10.out).mono ?_);rintro e u11 ⟨F11,e11,rfl,hy11,hb11⟩;have D11:=jH hb11;have Y11:=jH hy11;clear hy11;clear hb11))
   |((with_reducible apply at_store (.tmp 28) (.tmp 98));refine wpList_store_row rfl 67 (.tmp 28) (.tmp 98) rfl u11.heap.size (recL q.s q.r q.m q.K (.slice F11 q.n e11)).toArray rfl rfl 67 zR (heap_alloc_new u11 _) (recInfo _ _ _ _ _) rfl (recL_all _ _ _ _ _ _ _) ?_)
   |fail)
 have R11:=jH (show Blk ((u11.alloc (.cells zR 67)).setRow u11.heap.size (recL q.s q.r q.m q.K (.slice F11 q.n e11)).toArray) u11.heap.size (recL q.s q.r q.m q.K (.slice F11 q.n e11)) 67 from setRow_heap _ _ _ _ _ (0,0) (heap_alloc_new u11 _))
 have E11:=jH (show Below u11.heap.size u11 ((u11.alloc (.cells zR 67)).setRow u11.heap.size (recL q.s q.r q.m q.K (.slice F11 q.n e11)).toArray)from below_setRow ((Below.refl _ _).alloc (jR _) _) (jR _) _)
 generalize (u11.alloc (.cells zR 67)).setRow u11.heap.size (recL q.s q.r q.m q.K (.slice F11 q.n e11)).toArray=y11 at*
 have B11:=jH (D11.out.trans (E11.out.mono D11.out.size))
 have C11:=jH (C10.out.trans (B11.out.mono C10.out.size))
 go_upto_region 13 with(first
  |(go_at_call 68;((refine(K12.out _ C11.out).mono ?_);rintro e u12 ⟨F12,e12,rfl,hy12,hb12⟩;have D12:=jH hb12;have Y12:=jH hy12;clear hy12;clear hb12))
   |((with_reducible apply at_store (.tmp 30) (.tmp 104));refine wpList_store_row rfl 67 (.tmp 30) (.tmp 104) rfl u12.heap.size (recL q.s q.r q.m q.K (.slice F12 q.n e12)).toArray rfl rfl 67 zR (heap_alloc_new u12 _) (recInfo _ _ _ _ _) rfl (recL_all _ _ _ _ _ _ _) ?_)
   |fail)
 have R12:=jH (show Blk ((u12.alloc (.cells zR 67)).setRow u12.heap.size (recL q.s q.r q.m q.K (.slice F12 q.n e12)).toArray) u12.heap.size (recL q.s q.r q.m q.K (.slice F12 q.n e12)) 67 from setRow_heap _ _ _ _ _ (0,0) (heap_alloc_new u12 _))
 have E12:=jH (show Below u12.heap.size u12 ((u12.alloc (.cells zR 67)).setRow u12.heap.size (recL q.s q.r q.m q.K (.slice F12 q.n e12)).toArray)from below_setRow ((Below.refl _ _).alloc (jR _) _) (jR _) _)
 generalize (u12.alloc (.cells zR 67)).setRow u12.heap.size (recL q.s q.r q.m q.K (.slice F12 q.n e12)).toArray=y12 at*
 have B12:=jH (D12.out.trans (E12.out.mono D12.out.size))
 have C12:=jH (C11.out.trans (B12.out.mono C11.out.size))
 clear K1 K2 K3 K4 K5 K6 K7 K8 K9 K10 K11 K12
 have T12:=jH (Below.refl y12.heap.size y12)
 have T11:=jH (B12.out.trans (T12.out.mono B12.out.size))
 have T10:=jH (B11.out.trans (T11.out.mono B11.out.size))
 have T9:=jH (B10.out.trans (T10.out.mono B10.out.size))
 have T8:=jH (B9.out.trans (T9.out.mono B9.out.size))
 have T7:=jH (B8.out.trans (T8.out.mono B8.out.size))
 have T6:=jH (B7.out.trans (T7.out.mono B7.out.size))
 have T5:=jH (B6.out.trans (T6.out.mono B6.out.size))
 have T4:=jH (B5.out.trans (T5.out.mono B5.out.size))
 have T3:=jH (B4.out.trans (T4.out.mono B4.out.size))
 have T2:=jH (B3.out.trans (T3.out.mono B3.out.size))
 have T1:=jH (B2.out.trans (T2.out.mono B2.out.size))
 have U1:=jH (E1.out.trans (T1.out.mono E1.out.size))
 have G1:=jH (R1.out.below T1.out R1.out.lt)
 have X1:=jH (Y1.out.below U1.out (jR _))
 have U2:=jH (E2.out.trans (T2.out.mono E2.out.size))
 have G2:=jH (R2.out.below T2.out R2.out.lt)
 have X2:=jH (Y2.out.below U2.out (jR _))
 have U3:=jH (E3.out.trans (T3.out.mono E3.out.size))
 have G3:=jH (R3.out.below T3.out R3.out.lt)
 have X3:=jH (Y3.out.below U3.out (jR _))
 have U4:=jH (E4.out.trans (T4.out.mono E4.out.size))
 have G4:=jH (R4.out.below T4.out R4.out.lt)
 have X4:=jH (Y4.out.below U4.out (jR _))
 have U5:=jH (E5.out.trans (T5.out.mono E5.out.size))
 have G5:=jH (R5.out.below T5.out R5.out.lt)
 have X5:=jH (Rn.In2.older Y5.out U5.out)
 have U6:=jH (E6.out.trans (T6.out.mono E6.out.size))
 have G6:=jH (R6.out.below T6.out R6.out.lt)
 have X6:=jH (Rn.In2.older Y6.out U6.out)
 have U7:=jH (E7.out.trans (T7.out.mono E7.out.size))
 have G7:=jH (R7.out.below T7.out R7.out.lt)
 have X7:=jH (Y7.out.below U7.out)
 have U8:=jH (E8.out.trans (T8.out.mono E8.out.size))
 have G8:=jH (R8.out.below T8.out R8.out.lt)
 have X8:=jH (Y8.out.below U8.out)
 have U9:=jH T9.out
 have X9:=jH (Y9.out.below U9.out (jR _))
 have U10:=jH T10.out
 have X10:=jH (Y10.out.below U10.out (jR _))
 have U11:=jH (E11.out.trans (T11.out.mono E11.out.size))
 have G11:=jH (R11.out.below T11.out R11.out.lt)
 have X11:=jH (Y11.out.below U11.out)
 have U12:=jH (E12.out.trans (T12.out.mono E12.out.size))
 have G12:=jH (R12.out.below T12.out R12.out.lt)
 have X12:=jH (Y12.out.below U12.out)
 generalize hs1:u1.heap.size=t1 at*
 generalize hs2:u2.heap.size=t2 at*
 generalize hs3:u3.heap.size=t3 at*
 generalize hs4:u4.heap.size=t4 at*
 generalize hs5:u5.heap.size=t5 at*
 generalize hs6:u6.heap.size=t6 at*
 generalize hs7:u7.heap.size=t7 at*
 generalize hs8:u8.heap.size=t8 at*
 generalize hs11:u11.heap.size=t11 at*
 generalize hs12:u12.heap.size=t12 at*
 clear hs1 hs2 hs3 hs4 hs5 hs6 hs7 hs8 hs11 hs12
 clear R1 E1 R2 E2 R3 E3 R4 E4 R5 E5 R6 E6 R7 E7 R8 E8 R11 E11 R12 E12
 clear B1 D1 Y1 B2 D2 Y2 B3 D3 Y3 B4 D4 Y4 B5 D5 Y5 B6 D6 Y6 B7 D7 Y7 B8 D8 Y8 B9 D9 Y9 B10 D10 Y10 B11 D11 Y11 B12 D12 Y12
 clear T1 T2 T3 T4 T5 T6 T7 T8 T9 T10 T11 T12
 clear U1 U2 U3 U4 U5 U6 U7 U8 U9 U10 U11 U12
 clear C0 C1 C2 C3 C4 C5 C6 C7 C8 C9 C10 C11
 have hm12:m2=m1:=by omega
 subst hm12
 have hm34:m4=m3:=by omega
 subst hm34
 have hm910:m10=m9:=by omega
 subst hm910
 have g5:=G5.out.cell (i:=20) rfl
 have g6:=G6.out.cell (i:=20) rfl
 have g7:=G7.out.cell (i:=1) rfl
 have g8:=G8.out.cell (i:=1) rfl
 have HPl:=jH (samePlaces_yes F7 F8 M e7 e8 af y12 X7.out X8.out hC2)
 have hNN:((N:Int)!=(N:Int))=false:=by simp
 go_upto_region 16 with(first
  |(go_at_call 32;(refine HPl.out.mono ?_);rintro e y13 ⟨rfl,hb13⟩;have B13:=jH hb13;clear hb13)
  |fail)
 clear g5 g6 g7 g8 hNN HPl
 go_loopw [32] (fun i wr=> ∃k:Nat,k≤N∧i= .int .i64 (k:Int)∧Hid (Below y12.heap.size y12 wr)) (fun i _=>N-natOf i)
 case atStart=>exact⟨0,Nat.zero_le _,rfl,B13⟩
 case round=>
  obtain⟨k,hk,rfl,hbr⟩:=hrel
  have pr:=(G5.out.below hbr.out G5.out.lt).cell (i:=20) rfl
  have qr:=(G6.out.below hbr.out G6.out.lt).cell (i:=20) rfl
  by_cases hlt:k<N
  ·obtain⟨b1,o1,rfl,_,c1,c1',_⟩:=(Rn.In2.older X5.out hbr.out.drew) k hlt
   obtain⟨b2,o2,rfl,_,d1,d1',_⟩:=(Rn.In2.older X6.out hbr.out.drew) k hlt
   have pd:=(G5.out.below hbr.out G5.out.lt).drew.cell (i:=20) rfl
   have qd:=(G6.out.below hbr.out G6.out.lt).drew.cell (i:=20) rfl
   have hk0:(0:Int)≤(k:Int):=by omega
   have hkn:(k:Int)<(N:Int):=by omega
   generalize fa k=fx at*
   generalize fh k=gx at*
   go_wp2
   go_region
   all_goals
    go_wp2
    go_roundw
    case rel=>exact⟨k+1,by omega,by go_num,jH hbr.out.drew⟩
    case measure=>simp[natOf];omega
  ·obtain rfl:k=N:=by omega
   have BZ:=jH (C12.out.trans (hbr.out.mono C12.out.size))
   have H1:=jH (G1.out.below hbr.out G1.out.lt)
   have H2:=jH (G2.out.below hbr.out G2.out.lt)
   have H3:=jH (G3.out.below hbr.out G3.out.lt)
   have H4:=jH (G4.out.below hbr.out G4.out.lt)
   have H5:=jH (G5.out.below hbr.out G5.out.lt)
   have H6:=jH (G6.out.below hbr.out G6.out.lt)
   have H7:=jH (G7.out.below hbr.out G7.out.lt)
   have H8:=jH (G8.out.below hbr.out G8.out.lt)
   have H11:=jH (G11.out.below hbr.out G11.out.lt)
   have H12:=jH (G12.out.below hbr.out G12.out.lt)
   have V1:=jH (X1.out.below hbr.out (jR _))
   have V2:=jH (X2.out.below hbr.out (jR _))
   have V3:=jH (X3.out.below hbr.out (jR _))
   have V4:=jH (X4.out.below hbr.out (jR _))
   have V9:=jH (X9.out.below hbr.out (jR _))
   have V10:=jH (X10.out.below hbr.out (jR _))
   have V11:=jH (X11.out.below hbr.out)
   have V12:=jH (X12.out.below hbr.out)
   have HSd:=jH (samedata_yes x0 x1 x2 x3 x4 x5 F1 F2 m2 e1 e2 dp1 wr V1.out V2.out hl1)
   have heq:=eql_id K HOkK.out
   have b1_0:=H1.out.cell (i:=0) rfl
   have b1_1:=H1.out.cell (i:=1) rfl
   have b1_2:=H1.out.cell (i:=2) rfl
   have b1_3:=H1.out.cell (i:=3) rfl
   have b1_4:=H1.out.cell (i:=4) rfl
   have b1_5:=H1.out.cell (i:=5) rfl
   have b1_6:=H1.out.cell (i:=6) rfl
   have b2_0:=H2.out.cell (i:=0) rfl
   have b2_1:=H2.out.cell (i:=1) rfl
   have b2_2:=H2.out.cell (i:=2) rfl
   have b2_3:=H2.out.cell (i:=3) rfl
   have b2_4:=H2.out.cell (i:=4) rfl
   have b2_5:=H2.out.cell (i:=5) rfl
   have b2_6:=H2.out.cell (i:=6) rfl
   clear qr G1 G2 G3 G4 G5 G6 G7 G8 G11 G12 X1 X2 X3 X4 X5 X6 X7 X8 X9 X10 X11 X12
   skip
   go_wp2_with(first
    |(go_at_call 69;(refine HSd.out.mono ?_);rintro e w2 ⟨rfl,hb2⟩;have BY:=jH (BZ.out.trans (hb2.mono BZ.out.size));have M3:=jH (H3.out.below hb2 H3.out.lt);have M4:=jH (H4.out.below hb2 H4.out.lt);have M5:=jH (H5.out.below hb2 H5.out.lt);have M6:=jH (H6.out.below hb2 H6.out.lt);have M7:=jH (H7.out.below hb2 H7.out.lt);have M8:=jH (H8.out.below hb2 H8.out.lt);have M11:=jH (H11.out.below hb2 H11.out.lt);have M12:=jH (H12.out.below hb2 H12.out.lt);have N3:=jH (V3.out.below hb2 (jR _));have N4:=jH (V4.out.below hb2 (jR _));have N9:=jH (V9.out.below hb2 (jR _));have N10:=jH (V10.out.below hb2 (jR _));have N11:=jH (V11.out.below hb2);have N12:=jH (V12.out.below hb2);have a3_0:=M3.out.cell (i:=0) rfl;have a3_1:=M3.out.cell (i:=1) rfl;have a3_2:=M3.out.cell (i:=2) rfl;have a3_3:=M3.out.cell (i:=3) rfl;have a4_0:=M4.out.cell (i:=0) rfl;have a4_1:=M4.out.cell (i:=1) rfl;have a4_2:=M4.out.cell (i:=2) rfl;have a4_3:=M4.out.cell (i:=3) rfl;have a5_0:=M5.out.cell (i:=0) rfl;have a5_1:=M5.out.cell (i:=1) rfl;have a5_2:=M5.out.cell (i:=2) rfl;have a5_19:=M5.out.cell (i:=19) rfl;have a6_0:=M6.out.cell (i:=0) rfl;have a6_1:=M6.out.cell (i:=1) rfl;have a6_2:=M6.out.cell (i:=2) rfl;have a6_19:=M6.out.cell (i:=19) rfl;have a7_0:=M7.out.cell (i:=0) rfl;have a8_0:=M8.out.cell (i:=0) rfl;clear hb2)
    |(refine wpList_load_mid_want rfl 57 (.tmp 219) rfl t5 3 rfl [.int .u8 (K 0),.int .u8 (K 1),.int .u8 (K 2),.int .u8 (K 3),.int .u8 (K 4),.int .u8 (K 5),.int .u8 (K 6),.int .u8 (K 7),.int .u8 (K 8),.int .u8 (K 9),.int .u8 (K 10),.int .u8 (K 11),.int .u8 (K 12),.int .u8 (K 13),.int .u8 (K 14),.int .u8 (K 15)] _ (Yq.ent_range M5.out) Tryz.underlying57 rfl Yq.idInfo ?_)
    |(refine wpList_load_mid_want rfl 57 (.tmp 221) rfl t6 3 rfl [.int .u8 (K 0),.int .u8 (K 1),.int .u8 (K 2),.int .u8 (K 3),.int .u8 (K 4),.int .u8 (K 5),.int .u8 (K 6),.int .u8 (K 7),.int .u8 (K 8),.int .u8 (K 9),.int .u8 (K 10),.int .u8 (K 11),.int .u8 (K 12),.int .u8 (K 13),.int .u8 (K 14),.int .u8 (K 15)] _ (Yq.ent_range M6.out) Tryz.underlying57 rfl Yq.idInfo ?_)
    |(refine wpList_load_row_want rfl 67 (.tmp 28) rfl t11 rfl 67 (recL q.s q.r q.m q.K (.slice F11 q.n e11)).toArray (0,0) _ M11.out Tryz.underlying67 rfl (recInfo _ _ _ _ _) ?_)
    |(refine wpList_load_row_want rfl 67 (.tmp 30) rfl t12 rfl 67 (recL q.s q.r q.m q.K (.slice F12 q.n e12)).toArray (0,0) _ M12.out Tryz.underlying67 rfl (recInfo _ _ _ _ _) ?_)
    |(go_at_call 70;(first|(with_reducible refine(same_yes F3 F4 fp1 _ _ _ _ N3.out N4.out hl3).mono ?_)|(with_reducible refine(same_yes F9 F10 pt _ _ _ _ N9.out N10.out hl9).mono ?_));rintro e w3 ⟨rfl,rfl⟩)
    |(go_at_call 71;(refine(samerec_yes q.s q.r q.m q.K HOkR.out.K F11 F12 q.n e11 e12 q.pl _ N11.out N12.out HOkR.out.len HOkR.out.n).mono ?_);rintro e w4 ⟨rfl,hb4⟩;have BX:=jH (BY.out.trans (hb4.mono BY.out.size));clear hb4)
    |fail)
   go_ret
   exact⟨rfl,BX.out⟩
end Ve
end Go.Proofs.YtelmgldkgccecaaGreat
