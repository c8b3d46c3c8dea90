/-
  Texts beneath the proof.
-/
import Derived.Test.YtjecmgkmcfkcjaaGreatQhChainDatasb3
set_option linter.unusedVariables false
set_option linter.unusedSimpArgs false
set_option maxRecDepth 100000
set_option maxHeartbeats 16000000
namespace Go.Proofs.YtjecmgkmcfkcjaaGreat
namespace Xf
open Go.ChangeShapes Go.WideShapes Go.ChangeAt Go.RowKit Go.Shelf
open Bytes8 Blk8 Kf Own8 OwnE Ga Gb Ok7 Xd Xe
open Ye Yg Yh
open Rd (dcode)
open Rf (fcode)
abbrev linked (w:World)(gv:Nat)(a way:Int)(rf:Nat):World:=(((w.alloc (.cells #[.pointer (some ⟨gv,0,none⟩)] 27)).alloc (.cells #[.int .u64 a] 40)).alloc (.cells #[.int .i64 way] 3)).alloc (.cells #[.func (.func rf) #[] #[]] 142)
abbrev cloV (s:Nat):Value:= .func (.func 130) #[] #[.pointer (some ⟨s+1,0,none⟩),.pointer (some ⟨s,0,none⟩),.pointer (some ⟨s+2,0,none⟩),.pointer (some ⟨s+3,0,none⟩)]
theorem links_any (gv rf:Nat)(a way:Int)(w:World):Calls Tryz.prog 73 #[.pointer (some ⟨gv,0,none⟩),.int .u64 a,.int .i64 way,.func (.func rf) #[] #[]] w fun e w'=>e= .returned (cloV w.heap.size)∧w'=linked w gv a way rf:=by
 go_enter Tryz.func73,Tryz.ntmps73
 go_wp2
 go_ret
 exact⟨by simp,rfl⟩
theorem linked_clo {w0 w:World}(hb:Below w0.heap.size w0 w)(gv rf a:Nat)(way:Int):Clo w0 gv w.heap.size (w.heap.size+1) (w.heap.size+2) (w.heap.size+3) rf way a (linked w gv (a:Int) way rf)∧Below w0.heap.size w0 (linked w gv (a:Int) way rf)∧(linked w gv (a:Int) way rf).heap.size=w.heap.size+4∧Below w.heap.size w (linked w gv (a:Int) way rf):=by
 have hs:=hb.size
 have S:(linked w gv (a:Int) way rf).heap.size=w.heap.size+4:=by simp only[linked,World.alloc,Array.size_push]
 have K0:=(((Blk.new w [.pointer (some ⟨gv,0,none⟩)] 27).alloc (.cells #[.int .u64 (a:Int)] 40)).alloc (.cells #[.int .i64 way] 3)).alloc (.cells #[.func (.func rf) #[] #[]] 142)
 have K1:=((Blk.new (w.alloc (.cells #[.pointer (some ⟨gv,0,none⟩)] 27)) [.int .u64 (a:Int)] 40).alloc (.cells #[.int .i64 way] 3)).alloc (.cells #[.func (.func rf) #[] #[]] 142)
 have K2:=(Blk.new ((w.alloc (.cells #[.pointer (some ⟨gv,0,none⟩)] 27)).alloc (.cells #[.int .u64 (a:Int)] 40)) [.int .i64 way] 3).alloc (.cells #[.func (.func rf) #[] #[]] 142)
 have K3:=Blk.new (((w.alloc (.cells #[.pointer (some ⟨gv,0,none⟩)] 27)).alloc (.cells #[.int .u64 (a:Int)] 40)).alloc (.cells #[.int .i64 way] 3)) [.func (.func rf) #[] #[]] 142
 have B:Below w.heap.size w (linked w gv (a:Int) way rf):=((((Below.refl w.heap.size w).alloc (Nat.le_refl _) _).alloc (by simp) _).alloc (by simp<;>omega) _).alloc (by simp<;>omega) _
 simp only[World.size_alloc,Nat.add_assoc,Nat.reduceAdd]at K1 K2 K3
 have B0:=hb.trans (B.mono hs)
 exact⟨{bel:=B0,v:=K0.cell (i:=0) rfl,at_:=K1,wy:=K2.cell (i:=0) rfl,rd:=K3.cell (i:=0) rfl,va:=by omega,wa:=by omega,ra:=by omega,vl:=by omega,wl:=by omega,rl:=by omega,b0:=by omega},B0,S,B⟩
theorem byhash4 (w:World):Calls Tryz.prog 74 #[.int .i64 4] w fun e w'=>e= .returned (.func (.func 133) #[] #[])∧w=w':=by
 go_enter Tryz.func74,Tryz.ntmps74
 go_wp2
 go_ret
 exact⟨rfl,rfl⟩
theorem byhash5 (w:World):Calls Tryz.prog 74 #[.int .i64 5] w fun e w'=>e= .returned (.func (.func 132) #[] #[])∧w=w':=by
 go_enter Tryz.func74,Tryz.ntmps74
 go_wp2
 go_ret
 exact⟨rfl,rfl⟩
attribute [local irreducible] HD.cells wpList Code.wp
end Xf
namespace Xg
open Go.ChangeShapes Go.WideShapes Go.ChangeAt Go.RowKit Go.Shelf
open Bytes8 Blk8 Kf Own8 OwnE Rows2 Ob Ga Gb Ok7 Rc Rj Vf Vh Wg Xb Xc Xd Xe Xf Np Yg Mg Sg
open Yc Yp Ye Yh
open Re (res_row_cell load_code)
open Wf (rowOf rowOf_block KpL KpL.put)
open Xa (SeqOwn range_own)
attribute [local go_sem] Oper.semAt_some
theorem wpListIn_store_row {F:Fence}{nn:Nat}{ops:Array Oper}{rest:List Oper}{o:Oper}{a:Act}{w:World}{Q:Exit→Act→World→Prop}(hgd:o.guard=none)(ty:TypeId)(x y:Operand)(ho:o.op= .store ty x y)
 (g:Nat)(cells:Array Value)(hx:a.eval x= .pointer (some ⟨g,0,none⟩))(hy:a.eval y= .agg cells)(t:TypeId)(old:Array Value)(hg:w.heap[g]? =some (.cells old t (0,0)))(hi:(Tryz.prog.info? ty).map (·.size)=some cells.size)
 (hold:old.size=cells.size)(h1:cells.all (·.oneCell')=true)(h:wpListIn F nn Tryz.prog ops Q rest (a.put o.dst undef) (w.setRow g cells)):wpListIn F nn Tryz.prog ops Q (o::rest) a w:=by
 refine wpListIn_plain hgd fun K hK'=>?_
 unfold Oper.wpIn
 refine⟨?_,?_⟩
 ·simp[Oper.about,ho]
 ·rw[Oper.semAt_plain F _ _ (by rw[ho];intro c hc';cases hc')]
  simp only[execOp,ho,hx,hy,Instr.storeAt,Instr.sureAddr,Sem.run_bind,Sem.run_pure,Result.andThen_ok,run_storeVar_row w g t ty old cells hg hi hold h1]
  exact hK' _ _ h
abbrev lkL (a h x d:Int)(A:Option Addr)(m c:Nat):List Value:=[.int .u64 a,.int .u64 h,.int .u64 x,.int .u64 d,.slice A m c]
structure Fnd (w0:World)(s hb:Nat)(A0:Option Addr)(m0 c0:Nat)(hv:Int)(W:World):Prop where
 pb:Blk W s [.slice A0 m0 c0] 23
 r0:Blk W (s+1) zK 156
 r1:Blk W (s+2) [.int .i64 0] 3
 hx:Blk W hb [.int .u64 hv] 40
 bel:Below w0.heap.size w0 W
theorem Fnd.keptF {w0:World}{s hb:Nat}{A0:Option Addr}{m0 c0:Nat}{hv:Int}{W W':World}{G:Nat→Prop}(h:Fnd w0 s hb A0 m0 c0 hv W)(k:KeptF G W W')(h0: ¬G s∧ ¬G (s+1)∧ ¬G (s+2)∧ ¬G hb)(hlo: ∀j,j<w0.heap.size→ ¬G j):Fnd w0 s hb A0 m0 c0 hv W':=
 {pb:=Kf.Blk.keptF h.pb k h0.1
  r0:=Kf.Blk.keptF h.r0 k h0.2.1
  r1:=Kf.Blk.keptF h.r1 k h0.2.2.1
  hx:=Kf.Blk.keptF h.hx k h0.2.2.2
  bel:=h.bel.trans ⟨k.os,k.tape,k.output,k.size,fun j hj=>k.block j (by have:=h.bel.size;omega) (hlo j hj)⟩}
theorem fnd_out {w0:World}{s:Nat}{V:World}(hr0:Blk V (s+1) zK 156)(hr1:Blk V (s+2) [.int .i64 0] 3)(hbel:Below w0.heap.size w0 V)(hs:w0.heap.size≤s)(vs:List Value)(code:Int)(D:Nat)(hD:s+3≤D):
 KeepsFrom D V ((V.setRow (s+1) vs.toArray).setCell ⟨s+2,0,none⟩ (.int .i64 code))∧Blk ((V.setRow (s+1) vs.toArray).setCell ⟨s+2,0,none⟩ (.int .i64 code)) (s+1) vs 156∧Blk ((V.setRow (s+1) vs.toArray).setCell ⟨s+2,0,none⟩ (.int .i64 code)) (s+2) [.int .i64 code] 3∧
  Below w0.heap.size w0 ((V.setRow (s+1) vs.toArray).setCell ⟨s+2,0,none⟩ (.int .i64 code)):=by
 have B1: ∀k,k≠s+1→(V.setRow (s+1) vs.toArray).heap[k]? =V.heap[k]? :=fun k hk=>setRow_other V (s+1) k vs.toArray hk
 have k2:=KeptF.set1 (V.setRow (s+1) vs.toArray) (s+2) 0 (.int .i64 code)
 have hsz:(V.setRow (s+1) vs.toArray).heap.size=V.heap.size:=by simp
 have R0:Blk (V.setRow (s+1) vs.toArray) (s+1) vs 156:=setRow_heap _ _ _ _ _ (0,0) hr0
 have hb1:Below w0.heap.size w0 (V.setRow (s+1) vs.toArray):=below_setRow hbel (by omega) _
 refine⟨⟨by rw[←hsz];exact k2.size,fun k o hk ho hc=>?_⟩,Kf.Blk.keptF R0 k2 (fun e=>by have e1:s+1=s+2:=e;omega),?_,hb1.trans ⟨k2.os,k2.tape,k2.output,k2.size,fun j hj=>k2.block j (by have:=hb1.size;omega) (fun e=>by have e1:j=s+2:=e;omega)⟩⟩
 ·have hkV:=(Array.getElem?_eq_some_iff.1 ho).1
  exact((k2.block k (by omega) (fun e=>by have e1:k=s+2:=e;omega)).trans (B1 k (by omega))).trans ho
 ·exact Boxed.set (t:=3) (.int .i64 code) (show Boxed (V.setRow (s+1) vs.toArray) (s+2) 3 (.int .i64 0)from(B1 (s+2) (by omega)).trans hr1)
attribute [local irreducible] HD.cells wpList Code.wp
def findG (h:HD)(l:List Int)(n:Nat)(kd:Int)(oC oH:Nat→Int)(oX:Nat→Nat)(oP:Nat→List Int)(pl:List Int):Int×Int:=if tCode h l kd≠0 then(0,tCode h l kd)else fdR oH oP (ofS (keyB h.ic) (idL h.I) pl) pl (yk n true oC oX (n+2) (taA (bodyL l (tOff h kd)) ((ofS (keyB h.ic) (idL h.I) pl).toNat%tNum h l kd)).toNat none)
def Found (oD:Nat→Int)(R:Int×Int)(w:World)(e:Ending)(w':World):Prop:=Below w.heap.size w w'∧ ∃hh xx dd A m c,e= .returned (.tuple #[linkV R.1 hh xx dd A m c,.int .i64 R.2])∧(R.2=0→dd=oD R.1.toNat)
theorem find_any {gv:Nat}{h:HD}{A:Option Addr}{n c:Nat}{l:List Int}(kd:Int)(A0:Option Addr)(pl:List Int)(m0 c0:Nat)(w:World)(v:ViewAt w gv h A n c l)(hcm:c≤maxLen)(hb0:Bytes w A0 pl)(hL0:pl.length=m0)(hm0:m0≤800000)(hc0:m0≤c0)(hcm0:c0≤maxLen)(htn:tCode h l kd=0→0<tNum h l kd∧tNum h l kd≤1000000)
 (oC oH oD oXI:Nat→Int)(oX:Nat→Nat)(oP:Nat→List Int)(rf:Nat)
 (hR: ∀(a:Nat) (V:World),Below w.heap.size w V→Calls Tryz.prog rf #[.pointer (some ⟨gv,0,none⟩),.int .u64 (a:Int)] V (ReadK oC oH oXI oD oP a V))(heg: ∀args w,(callFunc rf args).run Tryz.prog w= .ok (.enter rf args) w)(hX: ∀a,oXI a=(oX a:Int)∧oX a≤18446744073709551615)
 (hbh: ∀w,Calls Tryz.prog 74 #[.int .i64 kd] w fun e w'=>e= .returned (.func (.func rf) #[] #[])∧w=w'):
 Calls Tryz.prog 79 #[.pointer (some ⟨gv,0,none⟩),.int .i64 kd,.slice A0 m0 c0] w (Found oD (findG h l n kd oC oH oX oP pl) w):=by
 have hn:=v.big
 have HTb:=Lib.hid fun(W:World) (hW:Below w.heap.size w W)=>tabTell kd W (v.below hW) hcm
 unfold TellT at HTb
 have HHa:=Lib.hid fun(W:World) (hW:Below w.heap.size w W)=>vhash_any A0 pl m0 c0 W (v.below hW) (hb0.below hW (Nat.le_refl _)) hL0 hm0 hc0 hcm0
 have HPl:=Lib.hid fun(W:World) (hW:Below w.heap.size w W)=>hb0.below hW (Nat.le_refl _)
 have HTA:=Lib.hid (taA_nn (l:=l) (a:=tOff h kd) v.by_.1)
 have hhv:=ofS_bd (keyB h.ic) (idL h.I) pl
 have HV:=Lib.hid v
 have HL0:=Lib.hid hL0
 have HBh:=Lib.hid hbh
 have HR:=Lib.hid hR
 have HX:=Lib.hid hX
 clear v hb0 hbh hR hX
 obtain⟨R,hRR⟩: ∃R,R=findG h l n kd oC oH oX oP pl:=⟨_,rfl⟩
 rw[←hRR]
 unfold findG at hRR
 generalize tCode h l kd=tc at*
 generalize tNum h l kd=tn at*
 generalize taA (bodyL l (tOff h kd))=fa at*
 generalize taB (bodyL l (tOff h kd))=fb at*
 generalize ofS (keyB h.ic) (idL h.I) pl=hv at*
 obtain⟨s,hs⟩: ∃s,w.heap.size=s:=⟨_,rfl⟩
 have K0:=((Blk.new w [.slice A0 m0 c0] 23).alloc (.cells #[.int .u64 0,.int .u64 0,.int .u64 0,.int .u64 0,.slice none 0 0] 156)).alloc (.cells #[.int .i64 0] 3)
 have K1:=(Blk.new (w.alloc (.cells #[.slice A0 m0 c0] 23)) zK 156).alloc (.cells #[.int .i64 0] 3)
 have K2:=Blk.new ((w.alloc (.cells #[.slice A0 m0 c0] 23)).alloc (.cells #[.int .u64 0,.int .u64 0,.int .u64 0,.int .u64 0,.slice none 0 0] 156)) [.int .i64 0] 3
 have B3:=(((Below.refl w.heap.size w).alloc (Nat.le_refl _) (.cells #[.slice A0 m0 c0] 23)).alloc (by simp) (.cells #[.int .u64 0,.int .u64 0,.int .u64 0,.int .u64 0,.slice none 0 0] 156)).alloc (by simp<;>omega) (.cells #[.int .i64 0] 3)
 have S3:(((w.alloc (.cells #[.slice A0 m0 c0] 23)).alloc (.cells #[.int .u64 0,.int .u64 0,.int .u64 0,.int .u64 0,.slice none 0 0] 156)).alloc (.cells #[.int .i64 0] 3)).heap.size=s+3:=by simp only[World.alloc,Array.size_push];omega
 simp only[World.size_alloc,hs,Nat.add_assoc,Nat.reduceAdd]at K0 K1 K2
 refine(callsIn_wide (n:=6)).1 ?_
 refine callsIn_of_wp_marks Tryz.func79 rfl trivial ?_ rfl
 refine wpIn_wide.2 ?_
 simp only[Tryz.ntmps79,List.size_toArray,List.length_cons,List.length_nil,Nat.reduceAdd,Nat.reduceSub,Array.replicate_succ,Array.replicate_zero,List.push_toArray,List.append_toArray,List.nil_append,List.cons_append]
 go_upto_region 1 with fail
 simp only[World.size_alloc,hs,Nat.add_assoc,Nat.reduceAdd]
 generalize (((w.alloc (.cells #[.slice A0 m0 c0] 23)).alloc (.cells #[.int .u64 0,.int .u64 0,.int .u64 0,.int .u64 0,.slice none 0 0] 156)).alloc (.cells #[.int .i64 0] 3))=w3 at*
 have HK:=Lib.hid (And.intro K0 (And.intro K1 K2))
 have HB3:=Lib.hid B3
 have HS3:=Lib.hid S3
 clear K0 K1 K2 B3 S3
 go_upto_region 2 with(first
  |(go_at_call 71;(refine(HTb.out _ HB3.out).mono ?_);rintro e w4 ⟨hb4,A2,c2,rfl,hi4⟩;have B4:=Lib.hid hb4;have I4:=Lib.hid hi4;clear hb4 hi4)
  |fail)
 have hs3:=HS3.out
 have HK4:=Lib.hid (And.intro (HK.out.1.below B4.out (by omega)) (And.intro (HK.out.2.1.below B4.out (by omega)) (HK.out.2.2.below B4.out (by omega))))
 have HB4:=Lib.hid (HB3.out.trans (B4.out.mono HB3.out.size))
 have HS4:=Lib.hid (show s+3≤w4.heap.size by have:=B4.out.size;omega)
 clear HK HB3 HS3 HTb
 by_cases htc:tc≠0
 ·rw[if_pos htc]at hRR
  have HRf:=Lib.hid hRR
  have d1:decide (tc=0)=false:=by simpa using htc
  have d3:(tc !=0)=true:=by simpa using htc
  have q2:(w4.setRow (s+1) zK.toArray).cell? ⟨s+2,0,none⟩=some (.int .i64 0):=(World.cell?_of_block (a:=⟨s+2,0,none⟩) (setRow_other w4 (s+1) (s+2) zK.toArray (by omega))).trans (HK4.out.2.2.cell (i:=0) rfl)
  have f2:(w4.setRow (s+1) zK.toArray).frozen? ⟨s+2,0,none⟩=false:=(show Blk (w4.setRow (s+1) zK.toArray) (s+2) [.int .i64 0] 3 from(setRow_other w4 (s+1) (s+2) zK.toArray (by omega)).trans HK4.out.2.2).frozen 0
  have HOut:=Lib.hid (fnd_out HK4.out.2.1 HK4.out.2.2 HB4.out (by omega) zK tc (s+3) (Nat.le_refl _))
  clear hRR htn hs3
  go_wp2_with(first
   |((with_reducible apply at_store (.tmp 6) (.tmp 22));refine wpList_store_row rfl 156 (.tmp 6) (.tmp 22) rfl (s+1) zK.toArray rfl rfl 156 zK.toArray HK4.out.2.1 (linkInfo _ _ _ _ _) rfl (by simp[Value.oneCell']) ?_)
   |fail)
  obtain⟨_,r3,r4,r6⟩:=HOut.out
  refine⟨.tuple #[.agg zK.toArray,.int .i64 tc],res_row_cell Tryz.results79 _ _ (s+1) (s+2) 156 _ (0,0) _ _ rfl rfl r3 Tryz.underlying156 rfl (linkInfo _ _ _ _ _) (load_code _ _ _ r4),?_⟩
  rw[HRf.out]
  exact⟨r6,0,0,0,none,0,0,rfl,fun h=>absurd h htc⟩
 rw[if_neg htc]at hRR
 have htc0:tc=0:=by simpa using htc
 subst htc0
 clear htc
 obtain⟨htn1,htn2⟩:=htn rfl
 obtain⟨hn0,rfl⟩: ∃q:Nat,hv=(q:Int):=⟨hv.toNat,by omega⟩
 rw[Int.toNat_natCast]at hRR
 have hix:hn0%tn<tn:=Nat.mod_lt _ htn1
 have HX2:=Lib.hid (HTA.out (hn0%tn))
 obtain⟨a0,ha0,ha1⟩: ∃q:Nat,fa (hn0%tn)=(q:Int)∧q≤18446744073709551615:=⟨(fa (hn0%tn)).toNat,by have:=HX2.out;omega,by have:=HX2.out;omega⟩
 rw[ha0,Int.toNat_natCast]at hRR
 have HR1:=Lib.hid hRR.symm
 have hwt:IntKind.u64.wrap (tn:Int)=(tn:Int):=by rw[IntKind.wrap_u64];omega
 have htm:((hn0:Int).tmod (tn:Int))=((hn0%tn:Nat):Int):=by rw[Int.tmod_eq_emod_of_nonneg (by omega)];omega
 have hmd:(hn0:Int)%(tn:Int)=((hn0%tn:Nat):Int):=by omega
 have htz:((tn:Int)==0)=false:=by simp;omega
 have htz2:decide ((tn:Int)=0)=false:=by simp;omega
 clear hRR HX2 htn hhv HTA
 generalize hn0%tn=ix at*
 have cp:=HK4.out.1.cell (i:=0) rfl
 have HHb:=Lib.hid (HHa.out w4 HB4.out)
 go_upto_region 5 with(first
  |(go_at_call 65;(refine HHb.out.mono ?_);rintro e w5 ⟨rfl,hb5⟩;have B5:=Lib.hid hb5;clear hb5)
  |fail)
 have HX5:=Lib.hid (Blk.new w5 [.int .u64 (hn0:Int)] 40)
 have b6:=Lib.hid (B5.out.alloc B5.out.size (.cells #[.int .u64 (hn0:Int)] 40))
 have hs5:=B5.out.size
 have I6:=Lib.hid (I4.out.keep b6.out)
 have HK6:=Lib.hid (And.intro (HK4.out.1.below b6.out (HK4.out.1.lt)) (And.intro (HK4.out.2.1.below b6.out HK4.out.2.1.lt) (HK4.out.2.2.below b6.out HK4.out.2.2.lt)))
 have HB6:=Lib.hid (HB4.out.trans (b6.out.mono HB4.out.size))
 have HZ6:=Lib.hid (And.intro (show s+3≤w5.heap.size by have:=HS4.out;omega) (show w5.heap.size<(w5.alloc (.cells #[.int .u64 (hn0:Int)] 40)).heap.size by simp))
 clear HK4 HB4 HS4 I4 B4 B5 b6 HHa HHb cp hs5
 generalize (w5.alloc (.cells #[.int .u64 (hn0:Int)] 40))=w6 at*
 generalize w5.heap.size=hb at*
 obtain⟨b1,o1,rfl,_,p1,p1',_⟩:=I6.out ix hix
 rw[ha0]at p1
 have hix2:(ix:Int)<(tn:Int):=by omega
 have cx:=HX5.out.cell (i:=0) rfl
 have HLk:=Lib.hid (links_any gv rf (a0:Int) 1 w6)
 go_wp2_with(first
  |(go_at_call 74;(refine(HBh.out _).mono ?_);rintro e w7 ⟨rfl,rfl⟩)
  |(go_at_call 73;(refine HLk.out.mono ?_);rintro e w8 ⟨rfl,hw8⟩)
  |fail)
 subst hw8
 have hbo:=hb
 obtain⟨hC,hbl,hsz,hb68⟩:=Xf.linked_clo HB6.out gv rf a0 1
 have HZ:=HZ6.out
 have HG0:Hid (Fnd w s hb A0 m0 c0 (hn0:Int) (Xf.linked w6 gv (a0:Int) 1 rf)):=Lib.hid
  {pb:=HK6.out.1.below hb68 HK6.out.1.lt,r0:=HK6.out.2.1.below hb68 HK6.out.2.1.lt,r1:=HK6.out.2.2.below hb68 HK6.out.2.2.lt
   hx:=HX5.out.below hb68 HX5.out.lt,bel:=hbl}
 have hrow:rowOf (Xf.linked w6 gv (a0:Int) 1 rf) hb=none:=by
  unfold rowOf
  rw[HG0.out.hx.cell (i:=0) rfl]
 have HM0:Hid (MidC w gv w6.heap.size (w6.heap.size+1) (w6.heap.size+2) (w6.heap.size+3) hb rf (wayN true) a0 (Xf.linked w6 gv (a0:Int) 1 rf)):=Lib.hid
  {bel:=hC.bel,v:=hC.v,at_:=hC.at_,wy:=hC.wy,rd:=hC.rd,row:=fun k hk=>by rw[hrow]at hk;cases hk}
 have HB0:Hid (Bxs w w6.heap.size (w6.heap.size+1) (w6.heap.size+2) (w6.heap.size+3) hb (Xf.linked w6 gv (a0:Int) 1 rf)):=Lib.hid
  {vl:=by omega,al:=by omega,wl:=by omega,rl:=by omega,va:=by omega,wa:=by omega,ra:=by omega,v:=by omega,w:=by omega,r:=by omega,l:=by omega,b0:=by omega}
 have HFin:=Lib.hid fun(xs:List LkE) (h1:xs.map LkE.pl=yk n true oC oX (n+2) a0 none) (h2:fdN oH oP (hn0:Int) pl (xs.map LkE.pl))=>show R=(0,16)by
  rw[←HR1.out,←h1]
  have h3:=fdR_after [] _ h2
  rw[List.append_nil]at h3
  rw[h3];rfl
 have HStop:=Lib.hid fun(pre:List LkE) (rest:List (Nat×Int)) (R2:Int×Int) (h1:yk n true oC oX (n+2) a0 none=pre.map LkE.pl++rest) (h2: ∀r,fdR oH oP (hn0:Int) pl (pre.map LkE.pl++r)=R2)=>show R=R2 by
  rw[←HR1.out,h1];exact h2 rest
 have HZ7:=Lib.hid (And.intro HZ.1 (And.intro HZ.2 hsz))
 generalize Xf.linked w6 gv (a0:Int) 1 rf=W0 at*
 clear hC hrow hbl hb68 HLk cx p1 p1' HZ6 HB6 HK6 HX5 HR1 I6 HBh
 refine wpIn_wide.1 (range_own (F:=Fence.wide) (n:=5) rfl (by omega) (gf:=130) (lb:= #[.pointer (some ⟨w6.heap.size+1,0,none⟩),.pointer (some ⟨w6.heap.size,0,none⟩),.pointer (some ⟨w6.heap.size+2,0,none⟩),.pointer (some ⟨w6.heap.size+3,0,none⟩)]) rfl trivial (enters_of Tryz.func130 (by kernel_rfl) rfl)
  (links1_own w HV.out true oC oH oD oXI oX oP rf HR.out heg HX.out w6.heap.size (w6.heap.size+1) (w6.heap.size+2) (w6.heap.size+3) hb a0 4 (by omega) W0 HM0.out HB0.out ha1)
  (fun X Y hXY k o hk ho hc=>(hXY.block k (Array.getElem?_eq_some_iff.1 ho).1 (fun e=>by have e1:k=w6.heap.size+1:=e;omega)).trans ho)
  (fun h k=>KpL.trans h k) (fun V q o o' h1 h2 h3 h4=>KpL.put (d:=W0.heap.size) (by omega) (by omega) V q o o' h1 h2 h3) (fun _=>rfl)
  (fun x W k o o' _ ho hc hp=>pxK_put x W k o o' ho hc hp)
  (fun pre W=>fdN oH oP (hn0:Int) pl (pre.map LkE.pl)∧Fnd w s hb A0 m0 c0 (hn0:Int) W)
  (fun cd pre W=>cd= .ret∧ ∃(R2:Int×Int) (hh xx dd:Int) (A3:Option Addr) (m3 c3:Nat),(∀r,fdR oH oP (hn0:Int) pl (pre.map LkE.pl++r)=R2)∧Blk W (s+1) (lkL R2.1 hh xx dd A3 m3 c3) 156∧Blk W (s+2) [.int .i64 R2.2] 3∧(R2.2=0→dd=oD R2.1.toNat)∧Below w.heap.size w W)
  ?ownI ?ownX ?abI ?abX ⟨(fun x hx=>by cases hx),HG0.out⟩
  (fun x W=>{tmps:= #[.pointer (some ⟨gv,0,none⟩),.int .i64 kd,.slice A0 m0 c0,undef,undef,.pointer (some ⟨s,0,none⟩),.pointer (some ⟨s+1,0,none⟩),.pointer (some ⟨s+2,0,none⟩),.slice (some ⟨b1,o1,none⟩) tn c2,.int .i64 0,.pointer (some ⟨hb,0,none⟩),.int .u64 (a0:Int),.pointer (some ⟨W.heap.size,0,none⟩),.int .i64 x.cd,.tuple #[.slice (some ⟨b1,o1,none⟩) tn c2,.int .i64 0],.pointer (some ⟨gv,0,none⟩),.int .i64 kd,.tuple #[.slice (some ⟨b1,o1,none⟩) tn c2,.int .i64 0],.slice (some ⟨b1,o1,none⟩) tn c2,.int .i64 0,.int .i64 0,.bool false,undef,undef,.pointer (some ⟨gv,0,none⟩),.slice A0 m0 c0,.int .u64 (hn0:Int),.slice (some ⟨b1,o1,none⟩) tn c2,.int .u64 (hn0:Int),.slice (some ⟨b1,o1,none⟩) tn c2,.int .i64 (tn:Int),.int .u64 (tn:Int),.int .u64 (ix:Int),.pointer (some ⟨b1,o1+ix*2,none⟩),.pointer (some ⟨b1,o1+ix*2,none⟩),.int .u64 (a0:Int),.pointer (some ⟨gv,0,none⟩),.int .u64 (a0:Int),.int .i64 kd,.func (.func rf) #[] #[],cloV w6.heap.size,linkV x.a x.h x.x x.d x.A x.m x.c,.int .i64 x.cd,undef,undef,undef,undef,undef,undef,undef,undef,undef,undef,undef,undef,undef,undef,undef,undef],defers:=[]})
  (fun x W=>W.alloc (.cells #[.int .u64 (x.a:Int),.int .u64 x.h,.int .u64 x.x,.int .u64 x.d,.slice x.A x.m x.c] 156))
  (fun x W k o hk ho hc=>(((Below.refl W.heap.size W).alloc (Nat.le_refl _) _).block k (Array.getElem?_eq_some_iff.1 ho).1).trans ho)
  ?isI (fun x W hp h0=>by
   obtain⟨p1,p2,p3,p4⟩:=hp h0
   exact⟨p1,p2,p3.below ((Below.refl W.heap.size W).alloc (Nat.le_refl _) _) (Nat.le_refl _),p4⟩)
  (fun x W hW=>kpl_alloc _ (by omega) (by omega)) ?assign ?body ?done ?stop)
 case assign=>
  intro q x V K hK
  gi_wp2
  exact hK
 case isI=>
  rintro pre x V hV ⟨h1,hG⟩
  exact⟨h1,hG.keptF ((KeptF.refl (fun _=>False) V).alloc _) ⟨id,id,id,id⟩ (fun _ _ h=>h)⟩
 case ownI=>
  rintro pre V V' row ⟨h1,hG⟩ hg hr
  refine⟨h1,hG.keptF (KeptF.grow row hg) ⟨fun e=>?_,fun e=>?_,fun e=>?_,fun e=>?_⟩ (fun j hj e=>?_)⟩
  all_goals
   have:=(hr _ e).1
   omega
 case ownX=>
  rintro cd pre V V' row ⟨rfl,R2,hh,xx,dd,A3,m3,c3,h1,b4,b5,h2,hbel⟩ hg hr
  have kk:=KeptF.grow row hg
  refine⟨rfl,R2,hh,xx,dd,A3,m3,c3,h1,Kf.Blk.keptF b4 kk (fun e=>?_),Kf.Blk.keptF b5 kk (fun e=>?_),h2,hbel.trans ⟨kk.os,kk.tape,kk.output,kk.size,fun j hj=>kk.block j (by have:=hbel.size;omega) (fun e=>?_)⟩⟩
  all_goals
   have:=(hr _ e).1
   omega
 case abI=>
  rintro pre V V' ⟨h1,hG⟩ kk
  refine⟨h1,hG.keptF kk ⟨fun e=>?_,fun e=>?_,fun e=>?_,fun e=>?_⟩ (fun j hj e=>?_)⟩
  ·have e1:s=w6.heap.size+1:=e;omega
  ·have e1:s+1=w6.heap.size+1:=e;omega
  ·have e1:s+2=w6.heap.size+1:=e;omega
  ·have e1:hb=w6.heap.size+1:=e;omega
  ·have e1:j=w6.heap.size+1:=e;omega
 case abX=>
  rintro cd pre V V' ⟨rfl,R2,hh,xx,dd,A3,m3,c3,h1,b4,b5,h2,hbel⟩ kk
  refine⟨rfl,R2,hh,xx,dd,A3,m3,c3,h1,Kf.Blk.keptF b4 kk (fun e=>?_),Kf.Blk.keptF b5 kk (fun e=>?_),h2,hbel.trans ⟨kk.os,kk.tape,kk.output,kk.size,fun j hj=>kk.block j (by have:=hbel.size;omega) (fun e=>?_)⟩⟩
  ·have e1:s+1=w6.heap.size+1:=e;omega
  ·have e1:s+2=w6.heap.size+1:=e;omega
  ·have e1:j=w6.heap.size+1:=e;omega
 case body=>
  rintro q pre x W V hW hpx hsp ⟨h1,hG⟩ hsz2 hblk
  have RX:=Lib.hid (show Blk V W.heap.size (lkL (x.a:Int) x.h x.x x.d x.A x.m x.c) 156 from(hblk W.heap.size (by omega)).trans (heap_alloc_new W _))
  have HPx:=Lib.hid hpx
  obtain⟨xa,xh,xx,xd,xA,xm,xc,cd⟩:=x
  dsimp only at*
  have HG:=Lib.hid hG
  have H1:=Lib.hid h1
  have HW:=Lib.hid hW
  clear hblk hsz2 hG h1 hpx hsp HG0 HM0 HB0
  generalize W.heap.size=gx at*
  have k0:=RX.out.cell (i:=0) rfl;have k1:=RX.out.cell (i:=1) rfl;have k2:=RX.out.cell (i:=2) rfl;have k3:=RX.out.cell (i:=3) rfl;have k4:=RX.out.cell (i:=4) rfl
  have cp:=HG.out.pb.cell (i:=0) rfl
  have cx:=HG.out.hx.cell (i:=0) rfl
  by_cases hz:cd≠0
  ·have d1:(cd !=0)=true:=by simpa using hz
   have d2:decide (cd=0)=false:=by simpa using hz
   have HR1:=Lib.hid fun r=>show fdR oH oP (hn0:Int) pl ((pre++ [(⟨xa,xh,xx,xd,xA,xm,xc,cd⟩:LkE)]).map LkE.pl++r)=(0,cd)from by
    rw[List.map_append,List.append_assoc,fdR_after _ _ H1.out]
    show(if cd≠0 then _ else _)=_
    rw[if_pos hz]
    rfl
   have q2:(V.setRow (s+1) zK.toArray).cell? ⟨s+2,0,none⟩=some (.int .i64 0):=(World.cell?_of_block (a:=⟨s+2,0,none⟩) (setRow_other V (s+1) (s+2) zK.toArray (by omega))).trans (HG.out.r1.cell (i:=0) rfl)
   have f2:(V.setRow (s+1) zK.toArray).frozen? ⟨s+2,0,none⟩=false:=(show Blk (V.setRow (s+1) zK.toArray) (s+2) [.int .i64 0] 3 from(setRow_other V (s+1) (s+2) zK.toArray (by omega)).trans HG.out.r1).frozen 0
   have HOut:=Lib.hid (fnd_out HG.out.r0 HG.out.r1 HG.out.bel (by omega) zK cd W0.heap.size (by omega))
   clear hz
   gi_wp2_with (first
    |(refine wpListIn_store_row rfl 156 (.tmp 6) (.tmp 45) rfl (s+1) zK.toArray rfl rfl 156 zK.toArray HG.out.r0 (linkInfo _ _ _ _ _) rfl (by simp[Value.oneCell']) ?_)
    |fail)
   obtain⟨r2,r3,r4,r6⟩:=HOut.out
   exact⟨r2,rfl,(0,cd),0,0,0,none,0,0,HR1.out,r3,r4,(fun h=>absurd h (by simpa using d1)),r6⟩
  ·have hz0:cd=0:=by simpa using hz
   subst hz0
   clear hz
   obtain⟨px1,px2,px3,px4⟩:=HPx.out rfl
   dsimp only at px1 px2 px3 px4
   have HEq:=Lib.hid (equal_any xA A0 (oP xa) pl xm xc m0 c0 V px3 (HPl.out V HG.out.bel) px4 HL0.out)
   have HD:=Lib.hid px2
   subst px1
   clear px3 px4 px2 HPx
   by_cases hh:oH xa=(hn0:Int)
   ·have e1:(oH xa==(hn0:Int))=true:=by simpa using hh
    have e2:decide (oH xa=(hn0:Int))=true:=by simpa using hh
    by_cases hp:oP xa=pl
    ·have e3:decide (oP xa=pl)=true:=by simpa using hp
     rw[e3]at HEq
     have HR1:=Lib.hid fun r=>show fdR oH oP (hn0:Int) pl ((pre++ [(⟨xa,oH xa,xx,xd,xA,xm,xc,0⟩:LkE)]).map LkE.pl++r)=((xa:Int),0)from by
      rw[List.map_append,List.append_assoc,fdR_after _ _ H1.out]
      show(if(0:Int)≠0 then _ else if oH xa=(hn0:Int)∧oP xa=pl then _ else _)=_
      rw[if_neg (by simp),if_pos ⟨hh,hp⟩]
      rfl
     have q2:(V.setRow (s+1) (lkL (xa:Int) (oH xa) xx xd xA xm xc).toArray).cell? ⟨s+2,0,none⟩=some (.int .i64 0):=(World.cell?_of_block (a:=⟨s+2,0,none⟩) (setRow_other V (s+1) (s+2) _ (by omega))).trans (HG.out.r1.cell (i:=0) rfl)
     have f2:(V.setRow (s+1) (lkL (xa:Int) (oH xa) xx xd xA xm xc).toArray).frozen? ⟨s+2,0,none⟩=false:=(show Blk (V.setRow (s+1) (lkL (xa:Int) (oH xa) xx xd xA xm xc).toArray) (s+2) [.int .i64 0] 3 from(setRow_other V (s+1) (s+2) _ (by omega)).trans HG.out.r1).frozen 0
     have HOut:=Lib.hid (fnd_out HG.out.r0 HG.out.r1 HG.out.bel (by omega) (lkL (xa:Int) (oH xa) xx xd xA xm xc) 0 W0.heap.size (by omega))
     clear hh hp
     generalize oH xa=xh at*
     gi_wp2_with (first
      |(refine⟨trivial,?_⟩;gi_at_call 139;refine(CallsIn.inRound q (callsIn_wide.2 HEq.out)).mono ?_;rintro e w1 ⟨rfl,rfl⟩)
      |(refine wpListIn_store_row rfl 156 (.tmp 6) (.tmp 57) rfl (s+1) (lkL (xa:Int) xh xx xd xA xm xc).toArray rfl rfl 156 zK.toArray HG.out.r0 (linkInfo _ _ _ _ _) rfl (by simp[Value.oneCell']) ?_)
      |fail)
     obtain⟨r2,r3,r4,r6⟩:=HOut.out
     exact⟨r2,rfl,((xa:Int),0),xh,xx,xd,xA,xm,xc,HR1.out,r3,r4,(fun _=>by rw[HD.out];rfl),r6⟩
    ·have e3:decide (oP xa=pl)=false:=by simpa using hp
     rw[e3]at HEq
     have HNo:=Lib.hid (show fdN oH oP (hn0:Int) pl ((pre++ [(⟨xa,oH xa,xx,xd,xA,xm,xc,0⟩:LkE)]).map LkE.pl)from fun y hy=>by
      rw[List.map_append]at hy
      rcases List.mem_append.1 hy with h2|h2
      ·exact H1.out y h2
      ·rw[List.map_singleton,List.mem_singleton]at h2
       subst h2
       exact⟨rfl,fun h3=>hp h3.2⟩)
     clear hh hp
     generalize oH xa=xh at*
     gi_wp2_with (first
      |(refine⟨trivial,?_⟩;gi_at_call 139;refine(CallsIn.inRound q (callsIn_wide.2 HEq.out)).mono ?_;rintro e w1 ⟨rfl,rfl⟩)
      |fail)
     exact⟨⟨Nat.le_refl _,fun k o _ h _=>h⟩,⟨Below.refl _ _,fun _ _ h _ _ _=>h,fun _ h=> .inl h⟩,HNo.out,HG.out⟩
   ·have e1:(oH xa==(hn0:Int))=false:=by simpa using hh
    have e2:decide (oH xa=(hn0:Int))=false:=by simpa using hh
    have HNo:=Lib.hid (show fdN oH oP (hn0:Int) pl ((pre++ [(⟨xa,oH xa,xx,xd,xA,xm,xc,0⟩:LkE)]).map LkE.pl)from fun y hy=>by
     rw[List.map_append]at hy
     rcases List.mem_append.1 hy with h2|h2
     ·exact H1.out y h2
     ·rw[List.map_singleton,List.mem_singleton]at h2
      subst h2
      exact⟨rfl,fun h3=>hh h3.1⟩)
    clear hh
    generalize oH xa=xh at*
    gi_wp2_with (first
     |(refine⟨trivial,?_⟩)
     |fail)
    gi_wp2
    exact⟨⟨Nat.le_refl _,fun k o _ h _=>h⟩,⟨Below.refl _ _,fun _ _ h _ _ _=>h,fun _ h=> .inl h⟩,HNo.out,HG.out⟩
 case done=>
  rintro D xs V hD hxs ⟨h1,hG⟩ hK
  have hRR:=HFin.out xs hxs h1
  have q2:(V.setRow (s+1) zK.toArray).cell? ⟨s+2,0,none⟩=some (.int .i64 0):=(World.cell?_of_block (a:=⟨s+2,0,none⟩) (setRow_other V (s+1) (s+2) zK.toArray (by omega))).trans (hG.r1.cell (i:=0) rfl)
  have f2:(V.setRow (s+1) zK.toArray).frozen? ⟨s+2,0,none⟩=false:=(show Blk (V.setRow (s+1) zK.toArray) (s+2) [.int .i64 0] 3 from(setRow_other V (s+1) (s+2) zK.toArray (by omega)).trans hG.r1).frozen 0
  have HOut:=Lib.hid (fnd_out hG.r0 hG.r1 hG.bel (by omega) zK 16 W0.heap.size (by omega))
  have HRR:=Lib.hid hRR
  have HKK:=Lib.hid hK
  have HG:=Lib.hid hG
  have HDD:=Lib.hid hD
  clear hK hRR h1 hxs hG HG0 HM0 HB0
  go_wp2_with(first
   |((with_reducible apply at_store (.tmp 6) (.tmp 58));refine wpList_store_row rfl 156 (.tmp 6) (.tmp 58) rfl (s+1) zK.toArray rfl rfl 156 zK.toArray HG.out.r0 (linkInfo _ _ _ _ _) rfl (by simp[Value.oneCell']) ?_)
   |fail)
  obtain⟨r2,r3,r4,r6⟩:=HOut.out
  have hKD:=r2.same D _ HDD.out HKK.out rfl
  generalize (V.setRow (s+1) zK.toArray).setCell ⟨s+2,0,none⟩ (.int .i64 16)=V9 at*
  have r3':Blk (V9.putObj D (.deferred none)) (s+1) zK 156:=(World.putObj_heap_other (show s+1≠D by have:=HDD.out;omega)).trans r3
  have r4':Blk (V9.putObj D (.deferred none)) (s+2) [.int .i64 16] 3:=(World.putObj_heap_other (show s+2≠D by have:=HDD.out;omega)).trans r4
  have r6':Below w.heap.size w (V9.putObj D (.deferred none)):=by
   have kk:=KeptF.grow _ (grownBy_putObj' V9 D (.deferred none))
   exact r6.trans ⟨kk.os,kk.tape,kk.output,kk.size,fun j hj=>kk.block j (by have:=r6.size;omega) (fun e=>by injection e with e;have:=HDD.out;omega)⟩
  refine⟨by simp,.inl ⟨_,_,rfl,run_takeDeferred hKD,?_⟩⟩
  refine⟨.tuple #[.agg zK.toArray,.int .i64 16],res_row_cell Tryz.results79 _ _ (s+1) (s+2) 156 _ (0,0) _ _ rfl rfl r3' Tryz.underlying156 rfl (linkInfo _ _ _ _ _) (load_code _ _ _ r4'),?_⟩
  rw[HRR.out]
  exact⟨r6',0,0,0,none,0,0,rfl,fun h=>by cases h⟩
 case stop=>
  rintro D cd pre V hD ⟨rest,hpre⟩ ⟨rfl,R2,hh,xx,dd,A3,m3,c3,h1,b4,b5,h2,hbel⟩ hK
  have HRR:=Lib.hid (HStop.out pre rest R2 hpre h1)
  have r3':Blk (V.putObj D (.deferred none)) (s+1) (lkL R2.1 hh xx dd A3 m3 c3) 156:=(World.putObj_heap_other (show s+1≠D by omega)).trans b4
  have r4':Blk (V.putObj D (.deferred none)) (s+2) [.int .i64 R2.2] 3:=(World.putObj_heap_other (show s+2≠D by omega)).trans b5
  have r6':Below w.heap.size w (V.putObj D (.deferred none)):=by
   have kk:=KeptF.grow _ (grownBy_putObj' V D (.deferred none))
   exact hbel.trans ⟨kk.os,kk.tape,kk.output,kk.size,fun j hj=>kk.block j (by have:=hbel.size;omega) (fun e=>by injection e with e;omega)⟩
  clear hpre h1
  gi_wp2
  refine⟨by simp,.inl ⟨_,_,rfl,run_takeDeferred hK,?_⟩⟩
  refine⟨.tuple #[.agg (lkL R2.1 hh xx dd A3 m3 c3).toArray,.int .i64 R2.2],res_row_cell Tryz.results79 _ _ (s+1) (s+2) 156 _ (0,0) _ _ rfl rfl r3' Tryz.underlying156 rfl (linkInfo _ _ _ _ _) (load_code _ _ _ r4'),?_⟩
  rw[HRR.out]
  exact⟨r6',hh,xx,dd,A3,m3,c3,rfl,h2⟩
end Xg
namespace Xh
open Go.ChangeShapes Go.WideShapes Go.ChangeAt Go.RowKit Go.Shelf
open Bytes8 Blk8 Kf Own8 OwnE Rows2 Ga Gb Ok7 Rc Va Vf Dc Wa Wg Xb Xc Xd Xe Xf Xg Np Yg Fa Fb
open Ye Yh
open Rd (dcode)
open Rf (fcode)
theorem wpList_textc {w:World}{ops:Array Oper}{rest:List Oper}{o:Oper}{a:Act}{Q:Exit→Act→World→Prop}(hgd:o.guard=none)(x:Operand)(hop:o.op= .convert 9 23 x)(l:List Int)(hA:AllB l)(n:Nat)(hn:l.length=n)(hm:n≤maxLen)(g:Nat)(hg:w.heap.size=g)(hx:a.eval x= .string (T l))
 (h: ∀c w',n≤c→c≤maxLen→Bytes w' (some ⟨g,0,none⟩) l→Below w.heap.size w w'→wpList Tryz.prog ops Q rest (a.put o.dst (.slice (some ⟨g,0,none⟩) n c)) w'):wpList Tryz.prog ops Q (o::rest) a w:=
 wpList_plain hgd fun K hK=>by
  have hs:=T_size l
  unfold Oper.wp execOp
  simp only[hop,resolve,Sem.run_bind,Sem.run_pure,Result.andThen_ok,hx]
  rw[run_bytes_of_string w 9 23 5 (T l) Tryz.underlying9 Tryz.underlying23 Tryz.underlying5,T_size,hn]
  subst hg
  refine hK _ _ (h (grownCap w n 0 5) _ (grownCap_ge ..) (grownCap_le_maxLen _ _ _ _ hm) ?_ ?_)
  ·refine⟨hA,fun i hi=>⟨w.heap.size,0,rfl,by simp,?_⟩⟩
   rw[Nat.zero_add]
   show(w.drew.alloc (.cells _ _ _)).cell? ⟨w.drew.heap.size,i,none⟩=_
   rw[World.cell?_alloc_mark]
   have hd:i<(T l).data.size:=by
    show i<(T l).size
    omega
   refine(bytesRow_at (T l) _ i hd).trans ?_
   have e1:(T l).data[i]=(T l).toList[i]'(by rw[ByteArray.toList_eq];simpa using hd):=by simp only[ByteArray.toList_eq];rfl
   rw[e1]
   simp only[T_toList,List.getElem_map]
   have hv:=hA l[i] (List.getElem_mem hi)
   have e3:l.getD i 0=l[i]:=by simp[List.getElem?_eq_getElem hi]
   rw[e3]
   have e4:(((l[i]).toNat.toUInt8.toNat:Nat):Int)=l[i]:=by simp;omega
   rw[e4]
  ·exact((Below.refl w.heap.size w).drew).alloc (by simp) _
theorem findG4 (h:HD)(l:List Int)(n:Nat)(pl:List Int):findG h l n 4 (dcode h l n) (fun a=>dN h l n a 0) (fun a=>(dN h l n a 1).toNat) (dP h l n) pl=find4 h l n pl:=by
 unfold findG find4
 rw[yk_start,fdR_seek]
theorem findG5 (h:HD)(l:List Int)(n:Nat)(pl:List Int):findG h l n 5 (fcode h l n) (fun a=>fN h l n a 0) (fun a=>(fN h l n a 1).toNat) (fP h l n) pl=find5 h l n pl:=by
 unfold findG find5
 rw[yk_start,fdR_seek]
theorem find4_told {gv:Nat}{h:HD}{A:Option Addr}{n c:Nat}{l:List Int}(A0:Option Addr)(pl:List Int)(m0 c0:Nat)(w:World)(v:ViewAt w gv h A n c l)(hcm:c≤maxLen)(hb0:Bytes w A0 pl)(hL0:pl.length=m0)(hm0:m0≤800000)(hc0:m0≤c0)(hcm0:c0≤maxLen)(htn:tCode h l 4=0→0<tNum h l 4∧tNum h l 4≤1000000):
 Calls Tryz.prog 79 #[.pointer (some ⟨gv,0,none⟩),.int .i64 4,.slice A0 m0 c0] w (Xg.Found (fun _=>0) (find4 h l n pl) w):=by
 rw[←findG4]
 exact find_any 4 A0 pl m0 c0 w v hcm hb0 hL0 hm0 hc0 hcm0 htn (dcode h l n) (fun a=>dN h l n a 0) (fun _=>0) (fun a=>dN h l n a 1) (fun a=>(dN h l n a 1).toNat) (dP h l n) 133
  (fun a V hV=>dbh_any a V (v.below hV) hcm) (enters_of Tryz.func133 (by kernel_rfl) rfl) (fun a=>dN_nn2 v.by_.1) byhash4
theorem find5_told {gv:Nat}{h:HD}{A:Option Addr}{n c:Nat}{l:List Int}(A0:Option Addr)(pl:List Int)(m0 c0:Nat)(w:World)(v:ViewAt w gv h A n c l)(hcm:c≤maxLen)(hb0:Bytes w A0 pl)(hL0:pl.length=m0)(hm0:m0≤800000)(hc0:m0≤c0)(hcm0:c0≤maxLen)(htn:tCode h l 5=0→0<tNum h l 5∧tNum h l 5≤1000000):
 Calls Tryz.prog 79 #[.pointer (some ⟨gv,0,none⟩),.int .i64 5,.slice A0 m0 c0] w (Xg.Found (fun a=>fN h l n a 2) (find5 h l n pl) w):=by
 rw[←findG5]
 exact find_any 5 A0 pl m0 c0 w v hcm hb0 hL0 hm0 hc0 hcm0 htn (fcode h l n) (fun a=>fN h l n a 0) (fun a=>fN h l n a 2) (fun a=>fN h l n a 1) (fun a=>(fN h l n a 1).toNat) (fP h l n) 132
  (fun a V hV=>fbh_any a V (v.below hV) hcm) (enters_of Tryz.func132 (by kernel_rfl) rfl) (fun a=>fN_nn v.by_.1) byhash5
attribute [local irreducible] HD.cells wpList Code.wp
theorem finddata_any {gv:Nat}{h:HD}{A:Option Addr}{n c:Nat}{l:List Int}(A0:Option Addr)(pl:List Int)(m0 c0:Nat)(w:World)(v:ViewAt w gv h A n c l)(hcm:c≤maxLen)(hb0:Bytes w A0 pl)(hL0:pl.length=m0)(hm0:m0≤800000)(hc0:m0≤c0)(hcm0:c0≤maxLen)(htn:tCode h l 4=0→0<tNum h l 4∧tNum h l 4≤1000000):
 Calls Tryz.prog 26 #[.pointer (some ⟨gv,0,none⟩),.slice A0 m0 c0] w fun e w'=>e= .returned (.tuple #[.int .u64 (find4 h l n pl).1,.int .i64 (find4 h l n pl).2])∧Below w.heap.size w w':=by
 have HF:=Lib.hid (find4_told A0 pl m0 c0 w v hcm hb0 hL0 hm0 hc0 hcm0 htn)
 unfold Xg.Found at HF
 clear v hb0 htn
 generalize find4 h l n pl=R at*
 go_enter Tryz.func26,Tryz.ntmps26
 go_wp2_with(first
  |(go_at_call 79;(refine HF.out.mono ?_);rintro e w1 ⟨hb1,hh,xx,dd,A1,m1,c1,rfl,_⟩;have B1:=Lib.hid hb1;clear hb1)
  |fail)
 go_ret2
 exact⟨rfl,B1.out.alloc B1.out.size _⟩
def datasG (h:HD)(l:List Int)(n:Nat)(nm:List Int):List Int×Int:=if(find5 h l n nm).2≠0 then([],(find5 h l n nm).2)else plR (yk n false (dcode h l n) (fun a=>(dN h l n a 2).toNat) (n+2) (fN h l n (find5 h l n nm).1.toNat 2).toNat none) []
theorem datas_any {gv:Nat}{h:HD}{A:Option Addr}{n c:Nat}{l:List Int}(nm:List Int)(w:World)(v:ViewAt w gv h A n c l)(hcm:c≤maxLen)(hA:AllB nm)(hl:nm.length≤800000)(htn:tCode h l 5=0→0<tNum h l 5∧tNum h l 5≤1000000):
 Calls Tryz.prog 24 #[.pointer (some ⟨gv,0,none⟩),.string (T nm)] w (TellL (datasG h l n nm) w):=by
 have hn:=v.big
 have HF:=Lib.hid fun(A0:Option Addr) (c0:Nat) (W:World) (hW:Below w.heap.size w W) (hb0:Bytes W A0 nm) (hc0:nm.length≤c0) (hcm0:c0≤maxLen)=>find5_told A0 nm nm.length c0 W (v.below hW) hcm hb0 rfl hl hc0 hcm0 htn
 unfold Xg.Found at HF
 have hfn:=fN_nn (h:=h) (E:=n) (a:=(find5 h l n nm).1.toNat) (i:=2) v.by_.1
 have HPl:=Lib.hid fun(a0:Nat) (W:World) (hW:Below w.heap.size w W) (ha0:a0≤18446744073709551615)=>by
  obtain⟨q1,q2,q3,_⟩:=linked_clo hW gv 81 a0 (-1)
  exact places_any w v false (dcode h l n) (fun _=>0) (fun _=>0) (fun a=>dN h l n a 2) (fun a=>(dN h l n a 2).toNat) (fun _=>[]) 81 (fun a V hV=>dbf_any a V (v.below hV) hcm) (enters_of Tryz.func81 (by kernel_rfl) rfl) (fun a=>dN_nn2 v.by_.1) (by omega) _ _ _ _ a0 _ q1 ha0
 unfold Placed at HPl
 clear v htn
 have hml:nm.length≤maxLen:=by unfold maxLen;omega
 obtain⟨R,hRR⟩: ∃R,R=datasG h l n nm:=⟨_,rfl⟩
 rw[←hRR]
 unfold datasG at hRR
 unfold TellL
 generalize find5 h l n nm=F at*
 obtain⟨a0,ha0,ha1⟩: ∃q:Nat,fN h l n F.1.toNat 2=(q:Int)∧q≤18446744073709551615:=⟨_,hfn⟩
 have HDd:=Lib.hid ha0
 rw[ha0,Int.toNat_natCast]at hRR
 obtain⟨f1,f2⟩:=F
 dsimp only at*
 go_enter Tryz.func24,Tryz.ntmps24
 go_upto_region 2 with(first
  |((with_reducible apply at_slot 11);refine wpList_textc rfl (.tmp 10) rfl nm hA nm.length rfl hml w.heap.size rfl rfl ?_;intro c2 w2 hc2 hc3 hb2 hbl2;have B2:=Lib.hid hbl2;have HF2:=Lib.hid (HF.out _ c2 w2 hbl2 hb2 hc2 hc3);clear hb2 hbl2)
  |(go_at_call 79;(refine HF2.out.mono ?_);rintro e w1 ⟨hb1,hh,xx,dd,A1,m1,c1,rfl,hdd⟩;have B1:=Lib.hid (B2.out.trans (hb1.mono B2.out.size));clear hb1)
  |fail)
 have HdD:=Lib.hid hdd
 have B3:=Lib.hid (B1.out.alloc B1.out.size (.cells #[.int .u64 f1,.int .u64 hh,.int .u64 xx,.int .u64 dd,.slice A1 m1 c1] 156))
 have R3:=Lib.hid (Blk.new w1 [.int .u64 f1,.int .u64 hh,.int .u64 xx,.int .u64 dd,.slice A1 m1 c1] 156)
 clear HF HF2 hdd
 generalize (w1.alloc (.cells #[.int .u64 f1,.int .u64 hh,.int .u64 xx,.int .u64 dd,.slice A1 m1 c1] 156))=w3 at*
 generalize w1.heap.size=g3 at*
 by_cases hf:f2≠0
 ·rw[if_pos hf]at hRR
  have HRf:=Lib.hid hRR
  have d1:(f2 !=0)=true:=by simpa using hf
  clear hRR hf
  go_wp2_with fail
  go_ret2
  rw[HRf.out]
  exact⟨B3.out,none,0,0,rfl,OwnE.nil _ _ B3.out.size,rfl⟩
 ·rw[if_neg hf]at hRR
  have hf0:f2=0:=by simpa using hf
  subst hf0
  have hdv:dd=(a0:Int):=(HdD.out rfl).trans HDd.out
  subst hdv
  have k3:=R3.out.cell (i:=3) rfl
  have HLk:=Lib.hid (links_any gv 81 (a0:Int) (-1) w3)
  have HP3:=Lib.hid (HPl.out a0 w3 B3.out ha1)
  rw[←hRR]at HP3
  clear hRR hf HPl
  go_wp2_with(first
   |(go_at_call 73;(refine HLk.out.mono ?_);rintro e w4 ⟨rfl,rfl⟩)
   |(go_at_call 72;(refine HP3.out.mono ?_);rintro e w5 ⟨hb5,A5,m5,c5,rfl,ho5,hl5⟩;have B5:=Lib.hid hb5;have O5:=Lib.hid ho5;have L5:=Lib.hid hl5;clear hb5 ho5 hl5)
   |fail)
  go_ret2
  exact⟨B5.out,A5,m5,c5,rfl,O5.out,L5.out⟩
end Xh
end Go.Proofs.YtjecmgkmcfkcjaaGreat
