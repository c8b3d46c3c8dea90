/-
  Texts beneath the proof.
-/
import Derived.Test.YtiddkgcafpaekaaGreatQs34
set_option linter.unusedVariables false
set_option linter.unusedSimpArgs false
set_option maxRecDepth 100000
set_option maxHeartbeats 4000000
open Go.ChangeShapes Go.WideShapes Go.ChangeAt Go.RowKit
namespace Go.Proofs.YtiddkgcafpaekaaGreat
namespace Ro
open Bytes8 Blk8 Own8 OwnE Rows2 Ob Ga Gb Gi Ok7 Np Nr Pr8 Rc Rm Rn
open Yp Ye Yg Yh
open Ri (new_ne new_mono)
open Re (res_row_cell load_code)
theorem prs_row {w:World}{a:Option Addr}{l:List PR}(h:Prs w a l){s:Nat}(hs: ∀b off,a=some ⟨b,off,none⟩→b≠s)(cs:Array Value):Prs (w.setRow s cs) a l:=h.keptB (by simp) (fun b off e _=>setRow_other w s b cs (hs b off e))
theorem prs_off {w:World}{a:Option Addr}{l:List PR}(h:Prs w a l){g:Nat}(hg: ∀b off,a=some ⟨b,off,none⟩→b≠g)(k:Nat)(v:Value):Prs (w.setCell ⟨g,k,none⟩ v) a l:=h.keptB (by simp) (fun b off e _=>Below.heap_setCell w ⟨g,k,none⟩ v b (hg b off e))
def ReadR2 (B:Nat)(l:List Int)(a:Nat)(cd:Int)(e:Ending)(w':World):Prop:=
 (cd≠0∧e= .panicked [haltE cd])∨(cd=0∧ ∃A' c',e= .returned (.agg (recL (eNum l a 0) (eNum l a 8) (eNum l a 16) (eK l a) (.slice A' (eN l a) c')).toArray)∧Prs w' A' (prsL (payP l (itA (bodyL l a))) (eN l a))∧NewIn B A')
theorem caught_idle (g3:Nat)(w:World):CallsD Tryz.prog 221 #[.pointer (some ⟨g3,0,none⟩)] .returning w fun e u' w'=>e= .returned (.tuple #[])∧u'= .returning∧w'=w:=by
 refine callsD_of_wpS Tryz.func221 rfl fun c₀ cs hu=>?_
 apply wpS_seq
 apply wpS_region
 simp[wpOpsS,go_sem,recoverD,hu,Tryz.ntmps221,Exit.thenS]
 refine wpS_of_wp ?_
 go_wp2
 cases c₀
 simp_all[bodyPostS,results,Tryz.results221]
theorem caught_halt (g3:Nat)(c y:Int)(older:List PanicEntry)(w:World)(h:Blk w g3 [.int .i64 y] 3):CallsD Tryz.prog 221 #[.pointer (some ⟨g3,0,none⟩)] (.panicking ({v:= .iface 337 (.int .i64 c),recovered:=false}::older)) w fun e u' w'=>e= .returned (.tuple #[])∧u'= .panicking ({v:= .iface 337 (.int .i64 c),recovered:=true}::older)∧w'=w.setCell ⟨g3,0,none⟩ (.int .i64 c):=by
 have c0:=h.cell (i:=0) rfl
 have z0:=h.frozen 0
 have hta: ∀w:World,(Instr.typeAssert (.iface 337 (.int .i64 c)) 20 337 true).run Tryz.prog w= .ok (.tuple #[.int .i64 c,.bool true]) w:=fun _=>by kernel_rfl
 refine callsD_of_wpS Tryz.func221 rfl fun c₀ cs hu=>?_
 apply wpS_seq
 apply wpS_region
 simp[wpOpsS,go_sem,recoverD,hu,Tryz.ntmps221,Exit.thenS]
 refine wpS_of_wp ?_
 go_wp2
 cases c₀
 simp_all[bodyPostS,results,Tryz.results221]
attribute [local irreducible] wpList Code.wp
theorem vrec_cl {gv:Nat}{h:HD}{A:Option Addr}{n c:Nat}{l:List Int}(a:Nat)(g2 g3:Nat)(w:World)(v:ViewAt w gv h A n c l)(hcm:c≤maxLen)(h8:n≤800000)(H2:Blk w g2 [.pointer (some ⟨gv,0,none⟩)] 51)(H3:Blk w g3 [.int .u64 (a:Int)] 27):
 Calls Tryz.prog 182 #[.pointer (some ⟨g2,0,none⟩),.pointer (some ⟨g3,0,none⟩)] w fun e w'=>Below w.heap.size w w'∧ReadR2 w.heap.size l a (rcode h l n a) e w':=by
 have b1:=yH ((Below.refl w.heap.size w).alloc (yR _) (.cells zR 74))
 have v1:=v.below b1.out
 have c2:=(H2.alloc (.cells zR 74)).cell (i:=0) rfl
 have c3:=(H3.alloc (.cells zR 74)).cell (i:=0) rfl
 have HV:=yH (vrec_any a _ v1 hcm h8)
 have Z1:=yH (heap_alloc_new w (.cells zR 74))
 have s1:=yH (show w.heap.size<(w.alloc (.cells zR 74)).heap.size by simp)
 unfold ReadR at HV
 unfold ReadR2
 generalize eNum l a 0=s0 at*
 generalize eNum l a 8=s8 at*
 generalize eNum l a 16=s16 at*
 generalize eK l a=kk at*
 generalize eN l a=mm at*
 generalize rcode h l n a=cd at*
 generalize prsL (payP l (itA (bodyL l a))) mm=pr at*
 clear v v1 H2 H3
 by_cases hz:cd=0
 ·subst hz
  go_enter Tryz.func182,Tryz.ntmps182
  go_wp2_with(first
   |(go_at_call 183;(refine HV.out.mono ?_);rintro e w3 ⟨hb3,⟨hne,_⟩|⟨_,A2,c2',rfl,hy2,hw2⟩⟩;(exact absurd rfl hne);have B3:=yH (b1.out.trans (hb3.mono b1.out.size));have HY3:=yH hy2;have HW3:=yH hw2;have Z3:=yH ((hb3.block _ s1.out).trans Z1.out);clear hb3 hy2 hw2)
   |((with_reducible apply at_store (.tmp 2) (.tmp 5));refine wpList_store_row rfl 74 (.tmp 2) (.tmp 5) rfl w.heap.size (recL s0 s8 s16 kk (.slice A2 mm c2')).toArray rfl rfl 74 zR Z3.out (by kernel_rfl) rfl (by first|exact recL_all _ _ _ _ _ _ _|exact recL_all 0 0 0 (fun _=>0) none 0 0) ?_)
   |fail)
  refine bodyPost_ret (v:= .agg (recL s0 s8 s16 kk (.slice A2 mm c2')).toArray) (by exact results_cell_row Tryz.results182 _ _ w.heap.size 74 _ (0,0) _ rfl (setRow_heap _ w.heap.size _ _ _ (0,0) Z3.out) Tryz.underlying74 rfl (by kernel_rfl)) rfl ?_
  have b4:=below_setRow (B:=w.heap.size) B3.out (yR _) (recL s0 s8 s16 kk (.slice A2 mm c2')).toArray
  exact⟨b4,.inr ⟨trivial,A2,c2',rfl,prs_row HY3.out (new_ne HW3.out s1.out) _,new_mono HW3.out (Nat.le_of_lt s1.out)⟩⟩
 ·go_enter Tryz.func182,Tryz.ntmps182
  go_wp2_with(first
   |(go_at_call 183;(refine HV.out.mono ?_);rintro e w3 ⟨hb3,⟨_,rfl⟩|⟨he,_⟩⟩;rotate_left;(exact absurd he hz);have B3:=yH (b1.out.trans (hb3.mono b1.out.size));clear hb3)
   |fail)
  exact⟨rfl,B3.out,.inl ⟨hz,rfl⟩⟩
def AskR (B:Nat)(l:List Int)(a:Nat)(cd:Int)(e:Ending)(w':World):Prop:=
 (cd≠0∧e= .returned (.tuple #[.agg zR,.int .i64 cd]))∨(cd=0∧ ∃A' c',e= .returned (.tuple #[.agg (recL (eNum l a 0) (eNum l a 8) (eNum l a 16) (eK l a) (.slice A' (eN l a) c')).toArray,.int .i64 0])∧Prs w' A' (prsL (payP l (itA (bodyL l a))) (eN l a))∧NewIn B A')
theorem asked_any {gv:Nat}{h:HD}{A:Option Addr}{n c:Nat}{l:List Int}(a:Nat)(g2 g3:Nat)(w:World)(v:ViewAt w gv h A n c l)(hcm:c≤maxLen)(h8:n≤800000)(H2:Blk w g2 [.pointer (some ⟨gv,0,none⟩)] 51)(H3:Blk w g3 [.int .u64 (a:Int)] 27):
 Calls Tryz.prog 181 #[.func (.func 182) #[] #[.pointer (some ⟨g2,0,none⟩),.pointer (some ⟨g3,0,none⟩)]] w fun e w'=>Below w.heap.size w w'∧AskR w.heap.size l a (rcode h l n a) e w':=by
 have b1:=yH ((Below.refl w.heap.size w).alloc (yR _) (.cells zR 74))
 have b2:=yH (b1.out.alloc b1.out.size (.cells #[.int .i64 0] 3))
 have v2:=v.below b2.out
 have HV:=yH (vrec_cl a g2 g3 _ v2 hcm h8 (H2.below b2.out H2.lt) (H3.below b2.out H3.lt))
 have S1:(w.alloc (.cells zR 74)).heap.size=w.heap.size+1:=by simp only[World.alloc,Array.size_push]
 have S2:((w.alloc (.cells zR 74)).alloc (.cells #[.int .i64 0] 3)).heap.size=w.heap.size+1+1:=by simp only[World.alloc,Array.size_push]
 have Z2:=yH ((Below.heap_alloc (w.alloc (.cells zR 74)) (.cells #[.int .i64 0] 3) w.heap.size (by rw[S1];omega)).trans (heap_alloc_new w (.cells zR 74)))
 have R2:=yH (Blk.new_at (w.alloc (.cells zR 74)) [.int .i64 0] 3 _ S1)
 have hfn: ∀(fn:Fn) (first cap:Array Value) (w:World),(Instr.makeFunc fn first cap).run Tryz.prog w= .ok (.func fn first cap) w:=fun _ _ _ _=>rfl
 unfold ReadR2 at HV
 unfold AskR
 generalize eNum l a 0=s0 at*
 generalize eNum l a 8=s8 at*
 generalize eNum l a 16=s16 at*
 generalize eK l a=kk at*
 generalize eN l a=mm at*
 generalize rcode h l n a=cd at*
 generalize prsL (payP l (itA (bodyL l a))) mm=pr at*
 clear v v2 H2 H3
 by_cases hz:cd=0
 ·subst hz
  go_enter_defers Tryz.func181,Tryz.ntmps181
  go_wp2_with(first
   |(go_at_call 182;(refine HV.out.mono ?_);rintro e w3 ⟨hb3,⟨hne,_⟩|⟨_,A2,c2',rfl,hy2,hw2⟩⟩;(exact absurd rfl hne);have B3:=yH (b2.out.trans (hb3.mono b2.out.size));have HY3:=yH hy2;have HW3:=yH (show NewIn (w.heap.size+1+1) A2 from S2▸hw2);have Z3:=yH ((hb3.block _ (by rw[S2];omega)).trans Z2.out);have R3:=yH (R2.out.below hb3 (by rw[S2];omega));clear hb3 hy2 hw2)
   |((with_reducible apply at_store (.tmp 2) (.tmp 6));refine wpList_store_row rfl 74 (.tmp 2) (.tmp 6) rfl w.heap.size (recL s0 s8 s16 kk (.slice A2 mm c2')).toArray rfl rfl 74 zR Z3.out (by kernel_rfl) rfl (by first|exact recL_all _ _ _ _ _ _ _|exact recL_all 0 0 0 (fun _=>0) none 0 0) ?_;have R4:=yH (show Blk (w3.setRow w.heap.size (recL s0 s8 s16 kk (.slice A2 mm c2')).toArray) (w.heap.size+1) [.int .i64 0] 3 from(setRow_other w3 w.heap.size (w.heap.size+1) _ (Nat.succ_ne_self _)).trans R3.out);have c4:=R4.out.cell (i:=0) rfl;have z4:=R4.out.frozen 0)
   |fail)
  refine leaves_cons (f:=221) (args:= #[.pointer (some ⟨w.heap.size+1,0,none⟩)]) (by simp) (by simp[go_sem]) ?_
  refine(caught_idle _ _).mono ?_
  rintro e u' w'' ⟨rfl,rfl,rfl⟩
  have b4:=(below_setRow (B:=w.heap.size) B3.out (yR _) (recL s0 s8 s16 kk (.slice A2 mm c2')).toArray).setCell (p:=⟨w.heap.size+1,0,none⟩) (Nat.le_succ _) (.int .i64 0)
  exact⟨.tuple #[.agg (recL s0 s8 s16 kk (.slice A2 mm c2')).toArray,.int .i64 0],(by exact res_row_cell Tryz.results181 _ _ w.heap.size (w.heap.size+1) 74 _ (0,0) _ _ rfl rfl ((Below.heap_setCell _ _ _ _ (Nat.succ_ne_self _).symm).trans (setRow_heap _ w.heap.size _ _ _ (0,0) Z3.out)) Tryz.underlying74 rfl (by kernel_rfl) (load_code _ _ _ (R4.out.set_ 0 _))),b4,.inr ⟨trivial,A2,c2',rfl,prs_off (prs_row HY3.out (new_ne HW3.out (by omega)) _) (new_ne HW3.out (by omega)) _ _,new_mono HW3.out (by omega)⟩⟩
 ·go_enter_defers Tryz.func181,Tryz.ntmps181
  go_wp2_with(first
   |(go_at_call 182;(refine HV.out.mono ?_);rintro e w3 ⟨hb3,⟨_,rfl⟩|⟨he,_⟩⟩;rotate_left;(exact absurd he hz);have B3:=yH (b2.out.trans (hb3.mono b2.out.size));have Z3:=yH ((hb3.block _ (by rw[S2];omega)).trans Z2.out);have R3:=yH (R2.out.below hb3 (by rw[S2];omega));clear hb3)
   |fail)
  refine leaves_cons (f:=221) (args:= #[.pointer (some ⟨w.heap.size+1,0,none⟩)]) (by simp) (by simp[go_sem]) ?_
  refine(caught_halt _ cd 0 [] _ R3.out).mono ?_
  rintro e u' w'' ⟨rfl,rfl,rfl⟩
  have b4:=B3.out.setCell (p:=⟨w.heap.size+1,0,none⟩) (Nat.le_succ _) (.int .i64 cd)
  exact⟨.tuple #[.agg zR,.int .i64 cd],(by exact res_row_cell Tryz.results181 _ _ w.heap.size (w.heap.size+1) 74 _ (0,0) _ _ rfl rfl ((Below.heap_setCell _ _ _ _ (Nat.succ_ne_self _).symm).trans Z3.out) Tryz.underlying74 rfl (by kernel_rfl) (load_code _ _ _ (R3.out.set_ 0 _))),b4,.inl ⟨hz,rfl⟩⟩
theorem recAsk {gv:Nat}{h:HD}{A:Option Addr}{n c:Nat}{l:List Int}(a:Nat)(w:World)(v:ViewAt w gv h A n c l)(hcm:c≤maxLen)(h8:n≤800000):
 Calls Tryz.prog 142 #[.pointer (some ⟨gv,0,none⟩),.int .u64 (a:Int)] w fun e w'=>Below w.heap.size w w'∧AskR w.heap.size l a (rcode h l n a) e w':=by
 have b1:=yH ((Below.refl w.heap.size w).alloc (yR _) (.cells #[.pointer (some ⟨gv,0,none⟩)] 51))
 have b2:=yH (b1.out.alloc b1.out.size (.cells #[.int .u64 (a:Int)] 27))
 have b3:=yH (b2.out.alloc b2.out.size (.cells zR 74))
 have v3:=v.below b3.out
 have S1:(w.alloc (.cells #[.pointer (some ⟨gv,0,none⟩)] 51)).heap.size=w.heap.size+1:=by simp only[World.alloc,Array.size_push]
 have S2:((w.alloc (.cells #[.pointer (some ⟨gv,0,none⟩)] 51)).alloc (.cells #[.int .u64 (a:Int)] 27)).heap.size=w.heap.size+1+1:=by simp only[World.alloc,Array.size_push]
 have S3:(((w.alloc (.cells #[.pointer (some ⟨gv,0,none⟩)] 51)).alloc (.cells #[.int .u64 (a:Int)] 27)).alloc (.cells zR 74)).heap.size=w.heap.size+1+1+1:=by simp only[World.alloc,Array.size_push]
 have K1:=((Blk.new w [.pointer (some ⟨gv,0,none⟩)] 51).alloc (.cells #[.int .u64 (a:Int)] 27)).alloc (.cells zR 74)
 have K2:=(Blk.new_at (w.alloc (.cells #[.pointer (some ⟨gv,0,none⟩)] 51)) [.int .u64 (a:Int)] 27 _ S1).alloc (.cells zR 74)
 have HV:=yH (asked_any a w.heap.size (w.heap.size+1) _ v3 hcm h8 K1 K2)
 have Z3:=yH (show(((w.alloc (.cells #[.pointer (some ⟨gv,0,none⟩)] 51)).alloc (.cells #[.int .u64 (a:Int)] 27)).alloc (.cells zR 74)).heap[w.heap.size+1+1]? =some (.cells zR 74 (0,0))from S2▸heap_alloc_new _ (.cells zR 74))
 have hfn: ∀(fn:Fn) (first cap:Array Value) (w:World),(Instr.makeFunc fn first cap).run Tryz.prog w= .ok (.func fn first cap) w:=fun _ _ _ _=>rfl
 unfold AskR at HV⊢
 generalize eNum l a 0=s0 at*
 generalize eNum l a 8=s8 at*
 generalize eNum l a 16=s16 at*
 generalize eK l a=kk at*
 generalize eN l a=mm at*
 generalize rcode h l n a=cd at*
 generalize prsL (payP l (itA (bodyL l a))) mm=pr at*
 clear v v3 K1 K2
 by_cases hz:cd=0
 ·subst hz
  go_enter Tryz.func142,Tryz.ntmps142
  go_wp2_with(first
   |(go_at_call 181;(refine HV.out.mono ?_);rintro e w4 ⟨hb4,⟨hne,_⟩|⟨_,A2,c2',rfl,hy2,hw2⟩⟩;(exact absurd rfl hne);have B4:=yH (b3.out.trans (hb4.mono b3.out.size));have HY4:=yH hy2;have HW4:=yH (show NewIn (w.heap.size+1+1+1) A2 from S3▸hw2);have Z4:=yH ((hb4.block _ (by rw[S3];omega)).trans Z3.out);clear hb4 hy2 hw2)
   |((with_reducible apply at_store (.tmp 4) (.tmp 8));refine wpList_store_row rfl 74 (.tmp 4) (.tmp 8) rfl (w.heap.size+1+1) (recL s0 s8 s16 kk (.slice A2 mm c2')).toArray rfl rfl 74 zR Z4.out (by kernel_rfl) rfl (by first|exact recL_all _ _ _ _ _ _ _|exact recL_all 0 0 0 (fun _=>0) none 0 0) ?_)
   |fail)
  refine bodyPost_ret (v:= .tuple #[.agg (recL s0 s8 s16 kk (.slice A2 mm c2')).toArray,.int .i64 0]) (by exact res_rowG Tryz.results142 _ _ (w.heap.size+1+1) 74 _ (0,0) _ _ rfl rfl (setRow_heap _ (w.heap.size+1+1) _ _ _ (0,0) Z4.out) Tryz.underlying74 rfl (by kernel_rfl)) rfl ?_
  have b5:=below_setRow (B:=w.heap.size) (g:=w.heap.size+1+1) B4.out (by omega) (recL s0 s8 s16 kk (.slice A2 mm c2')).toArray
  exact⟨b5,.inr ⟨trivial,A2,c2',rfl,prs_row HY4.out (new_ne HW4.out (by omega)) _,new_mono HW4.out (by omega)⟩⟩
 ·go_enter Tryz.func142,Tryz.ntmps142
  go_wp2_with(first
   |(go_at_call 181;(refine HV.out.mono ?_);rintro e w4 ⟨hb4,⟨_,rfl⟩|⟨he,_⟩⟩;rotate_left;(exact absurd he hz);have B4:=yH (b3.out.trans (hb4.mono b3.out.size));have Z4:=yH ((hb4.block _ (by rw[S3];omega)).trans Z3.out);clear hb4)
   |((with_reducible apply at_store (.tmp 4) (.tmp 8));refine wpList_store_row rfl 74 (.tmp 4) (.tmp 8) rfl (w.heap.size+1+1) zR rfl rfl 74 zR Z4.out (by kernel_rfl) rfl (by first|exact recL_all _ _ _ _ _ _ _|exact recL_all 0 0 0 (fun _=>0) none 0 0) ?_)
   |fail)
  refine bodyPost_ret (v:= .tuple #[.agg zR,.int .i64 cd]) (by exact res_rowG Tryz.results142 _ _ (w.heap.size+1+1) 74 _ (0,0) _ _ rfl rfl (setRow_heap _ (w.heap.size+1+1) _ _ _ (0,0) Z4.out) Tryz.underlying74 rfl (by kernel_rfl)) rfl ?_
  have b5:=below_setRow (B:=w.heap.size) (g:=w.heap.size+1+1) B4.out (by omega) zR
  exact⟨b5,.inl ⟨hz,rfl⟩⟩
end Ro
namespace Rq
attribute [local irreducible] wpList Code.wp
end Rq
namespace Zs
attribute [local irreducible] wpList Code.wp
end Zs
namespace Rr
open Bytes8 Blk8 OwnE Ob Ga Gb Ma Na Np Nr Pr8 Nt Nu Rc Rk Rm Rn
open Yp Ye Yg Yh Ri
open Rd (dcode dz)
open Go1 (hcode rhd hread_any HTold magicB)
theorem eK_ok {l:List Int}{a:Nat}(h:AllB l):IdOk (eK l a):=by
 unfold eK
 split
 ·exact itK_ok (by
   unfold bodyL
   exact(h.drop _).take _)
 ·exact fun _=>⟨Int.le_refl _,by show(0:Int)<256;decide⟩
structure RecP where
 s:Int
 r:Int
 m:Int
 K:Nat→Int
 n:Nat
 pl:List PR
def recP (h:HD)(l:List Int)(n a:Nat):RecP:=if rcode h l n a=0 then⟨eNum l a 0,eNum l a 8,eNum l a 16,eK l a,eN l a,prsL (payP l (itA (bodyL l a))) (eN l a)⟩else⟨0,0,0,fun _=>0,0,[]⟩
structure RecP.Ok (p:RecP):Prop where
 K:IdOk p.K
 len:p.pl.length=p.n
 n:p.n≤1000000
theorem rcode_short {h:HD}{l:List Int}{n a:Nat}(hz:rcode h l n a=0):eN l a≤16:=by
 rcases Nat.lt_or_ge 16 (eN l a)with h1|h1
 ·have k:=rc_of h l n (ecode9 h l n a) (eN l a) (itA (bodyL l a)) (itH (bodyL l a)) (eNum l a 40)
  by_cases h2:ecode9 h l n a=0
  ·have:=k.b h2 h1
   have e:rcode h l n a=21:=this
   rw[hz]at e;cases e
  ·have e:rcode h l n a=ecode9 h l n a:=k.a h2
   rw[hz]at e
   exact absurd e.symm h2
 ·exact h1
theorem recP_ok (h:HD){l:List Int}(n a:Nat)(hl:AllB l):(recP h l n a).Ok:=by
 unfold recP
 by_cases hz:rcode h l n a=0
 ·rw[if_pos hz]
  exact⟨eK_ok hl,prsL_len _ _,by have:=rcode_short hz;show eN l a≤_;omega⟩
 ·rw[if_neg hz]
  exact⟨fun _=>⟨Int.le_refl _,by show(0:Int)<256;decide⟩,rfl,Nat.zero_le _⟩
abbrev RecP.v (p:RecP)(F:Option Addr)(c:Nat):Value:= .agg (recL p.s p.r p.m p.K (.slice F p.n c)).toArray
def TellR (p:RecP)(cd:Int)(w:World)(e:Ending)(w':World):Prop:= ∃F c,e= .returned (.tuple #[p.v F c,.int .i64 cd])∧Prs w' F p.pl∧Below w.heap.size w w'
def payT (h:HD)(l:List Int)(n a:Nat):List Int:=if hcode9 h l n a=0 then bpay l a 1 6 else []
attribute [local irreducible] HD.cells wpList Code.wp
end Rr
namespace Va
open Bytes8 Blk8 Own8 OwnE Rows2 Ob Ga Gb Gi Oj Ok7 Ol7 Np Pr8 Rc Rm Rr
open Yc Yp Yd Ye Yg Yh Yn Ym
open Rd (dcode dz)
open Rg (arcode az AskA arrAsk)
open Ri (ecode9 ez)
structure ViewR (w:World)(gv:Nat)(h:HD)(d:Int)(A:Option Addr)(n c:Nat)(l:List Int):Prop where
 blk:Blk w gv (h.cells 20++ [.int .u64 d,.slice A n c]) 121
 by_:Bytes w A l
 len:l.length=n
 cap:n≤c
 capm:c≤maxLen
 big:n≤800000
 ok:h.Ok 21
theorem ViewR.below {w w':World}{gv:Nat}{h:HD}{d:Int}{A:Option Addr}{n c:Nat}{l:List Int}(v:ViewR w gv h d A n c l)(hb:Below w.heap.size w w'):ViewR w' gv h d A n c l:=
 ⟨v.blk.below hb v.blk.lt,v.by_.below hb (yR _),v.len,v.cap,v.capm,v.big,v.ok⟩
theorem rview_N (h:HD)(d:Int)(b:Value)(i:Nat)(hi:i<20):(h.cells 20++ [.int .u64 d,b])[67+i]? =some (.int .u64 (h.N i)):=by
 rw[List.getElem?_append_left (by rw[HD.len];omega)]
 exact h.get_N 20 i hi
theorem rview_b (h:HD)(d:Int)(b:Value):(h.cells 20++ [.int .u64 d,b])[91]? =some b:=by
 rw[List.getElem?_append_right (by rw[HD.len];omega),HD.len]
 rfl
abbrev rng (h:HD)(n a:Nat):Prop:=h.N 0≤(a:Int)∧a<n
def dN (h:HD)(l:List Int)(n a i:Nat):Int:=if rng h n a then bnum l a 1 6 i else 0
def dP (h:HD)(l:List Int)(n a:Nat):List Int:=if rng h n a then bpay l a 1 6 else []
def TellD (B:Nat)(h:HD)(l:List Int)(n a:Nat)(w:World)(e:Ending)(w':World):Prop:=Below w.heap.size w w'∧ ∃A' m c,e= .returned (.tuple #[dataV (dN h l n a 0) (dN h l n a 1) (dN h l n a 2) (dN h l n a 3) (dN h l n a 4) (dN h l n a 5) A' m c,.int .i64 (dcode h l n a)])∧Bytes w' A' (dP h l n a)∧(dP h l n a).length=m∧Cap B A' m c
def eN9 (h:HD)(l:List Int)(n a i:Nat):Int:=if rng h n a then eNum l a i else 0
def eK9 (h:HD)(l:List Int)(n a:Nat):Nat→Int:=if rng h n a then eK l a else fun _=>0
def eC9 (h:HD)(l:List Int)(n a:Nat):Nat:=if rng h n a then eN l a else 0
def TellE (B:Nat)(h:HD)(l:List Int)(n a:Nat)(w:World)(e:Ending)(w':World):Prop:=Below w.heap.size w w'∧ ∃A' c,e= .returned (.tuple #[entV (eN9 h l n a 0) (eN9 h l n a 8) (eN9 h l n a 16) (eK9 h l n a) (eN9 h l n a 40) A' (eC9 h l n a) c,.int .i64 (ecode9 h l n a)])∧In2 w' A' (eC9 h l n a) (itA (bodyL l a)) (itH (bodyL l a))∧NewIn B A'
def aX9 (h:HD)(l:List Int)(n a:Nat):Int:=if rng h n a then arX l a else 0
def aC9 (h:HD)(l:List Int)(n a:Nat):Nat:=if rng h n a then arM l a else 0
def TellA (B:Nat)(h:HD)(l:List Int)(n a:Nat)(w:World)(e:Ending)(w':World):Prop:=Below w.heap.size w w'∧ ∃A' c,e= .returned (.tuple #[arrV (aX9 h l n a) A' (aC9 h l n a) c,.int .i64 (arcode h l n a)])∧InInts .u64 w' A' (aC9 h l n a) (arF (bodyL l a))∧NewIn B A'
theorem none_new (B:Nat):NewIn B none:=fun b off e=>by cases e
theorem cap_none (B:Nat):Cap B none 0 0:=⟨by decide,by decide,by decide,fun b off e=>by cases e⟩
theorem arrTell {gv:Nat}{h:HD}{A:Option Addr}{n c:Nat}{l:List Int}(a:Nat)(w:World)(v:ViewAt w gv h A n c l)(hcm:c≤maxLen):
 Calls Tryz.prog 158 #[.pointer (some ⟨gv,0,none⟩),.int .u64 (a:Int)] w (TellA w.heap.size h l n a w):=by
 refine(arrAsk a w v hcm).mono ?_
 rintro e w' ⟨hb,hh⟩
 refine⟨hb,?_⟩
 unfold aX9 aC9 arcode
 by_cases hr:rng h n a
 ·rcases hh with⟨hz,rfl⟩|⟨hz,A',c',rfl,h1,h2⟩
  ·have e0:arcode h l n a=ecode l a 6 8 8:=if_pos hr
   rw[e0]at hz
   have t1:arX l a=0:=if_neg hz
   have t2:arM l a=0:=if_neg hz
   simp only[if_pos hr,t1,t2]
   rw[e0]
   exact⟨none,0,rfl,fun i hi=>absurd hi (Nat.not_lt_zero i),none_new _⟩
  ·have e0:arcode h l n a=ecode l a 6 8 8:=if_pos hr
   rw[e0]at hz
   simp only[if_pos hr]
   rw[hz]
   exact⟨A',c',rfl,h1,h2⟩
 ·rcases hh with⟨hz,rfl⟩|⟨hz,_⟩
  ·simp only[if_neg hr]
   rw[show arcode h l n a=2 from if_neg hr]
   exact⟨none,0,rfl,fun i hi=>absurd hi (Nat.not_lt_zero i),none_new _⟩
  ·rw[show arcode h l n a=2 from if_neg hr]at hz;cases hz
theorem bytes_row {w:World}{A:Option Addr}{l:List Int}(h:Bytes w A l){s:Nat}(hs: ∀b off,A=some ⟨b,off,none⟩→b≠s)(cs:Array Value):Bytes (w.setRow s cs) A l:=bytes_keptB h (by simp) (fun b off e _=>setRow_other w s b cs (hs b off e))
attribute [local irreducible] HD.cells wpList Code.wp
theorem rvend_any {gv:Nat}{h:HD}{d:Int}{A:Option Addr}{n c:Nat}{l:List Int}(w:World)(v:ViewR w gv h d A n c l):Calls Tryz.prog 112 #[.pointer (some ⟨gv,0,none⟩)] w fun e w'=>e= .returned (.int .u64 (n:Int))∧w=w':=by
 have c91:=v.blk.cell (rview_b _ _ _)
 have hn:=v.big
 have hw:IntKind.u64.wrap (n:Int)=(n:Int):=by rw[IntKind.wrap_u64];omega
 clear v
 go_enter Tryz.func112,Tryz.ntmps112
 go_wp2
 go_ret
 exact⟨rfl,rfl⟩
theorem in_yes {gv:Nat}{h:HD}{d:Int}{A:Option Addr}{n c:Nat}{l:List Int}(a:Nat)(w:World)(v:ViewR w gv h d A n c l)(hr:rng h n a):Calls Tryz.prog 122 #[.pointer (some ⟨gv,0,none⟩),.int .u64 (a:Int)] w fun e w'=>e= .returned (.int .i64 0)∧w=w':=by
 have c67:w.cell? ⟨gv,67,none⟩=some (.int .u64 (h.N 0)):=v.blk.cell (rview_N _ _ _ 0 (by decide))
 have HE:=yH (rvend_any w v)
 have d1:decide ((a:Int)<h.N 0)=false:=by have:=hr.1;simp;omega
 have d2:decide ((a:Int)≥(n:Int))=false:=by have:=hr.2;simp;omega
 have d3:decide (n≤a)=false:=by have:=hr.2;simp;omega
 clear v hr
 go_enter Tryz.func122,Tryz.ntmps122
 go_wp2_with(first
  |(go_at_call 112;(refine HE.out.mono ?_);rintro e w1 ⟨rfl,rfl⟩)
  |fail)
 go_ret
 exact⟨rfl,rfl⟩
theorem in_no {gv:Nat}{h:HD}{d:Int}{A:Option Addr}{n c:Nat}{l:List Int}(a:Nat)(w:World)(v:ViewR w gv h d A n c l)(hr: ¬rng h n a):Calls Tryz.prog 122 #[.pointer (some ⟨gv,0,none⟩),.int .u64 (a:Int)] w fun e w'=>e= .returned (.int .i64 2)∧w=w':=by
 have c67:w.cell? ⟨gv,67,none⟩=some (.int .u64 (h.N 0)):=v.blk.cell (rview_N _ _ _ 0 (by decide))
 have HE:=yH (rvend_any w v)
 clear v
 by_cases h3:h.N 0≤(a:Int)
 ·have d1:decide ((a:Int)<h.N 0)=false:=by simp;omega
  have d2:decide ((a:Int)≥(n:Int))=true:=by
   have: ¬a<n:=fun h4=>hr ⟨h3,h4⟩
   simp;omega
  have d3:decide (n≤a)=true:=by
   have: ¬a<n:=fun h4=>hr ⟨h3,h4⟩
   simp;omega
  clear hr h3
  go_enter Tryz.func122,Tryz.ntmps122
  go_wp2_with(first
   |(go_at_call 112;(refine HE.out.mono ?_);rintro e w1 ⟨rfl,rfl⟩)
   |fail)
  go_ret
  exact⟨rfl,rfl⟩
 ·have d1:decide ((a:Int)<h.N 0)=true:=by simp;omega
  clear hr h3
  go_enter Tryz.func122,Tryz.ntmps122
  go_wp2_with fail
  go_ret
  exact⟨rfl,rfl⟩
theorem rdataTell {gv:Nat}{h:HD}{d:Int}{A:Option Addr}{n c:Nat}{l:List Int}(a:Nat)(w:World)(v:ViewR w gv h d A n c l):
 Calls Tryz.prog 60 #[.pointer (some ⟨gv,0,none⟩),.int .u64 (a:Int)] w (TellD w.heap.size h l n a w):=by
 have b1:=yH ((Below.refl w.heap.size w).alloc (yR _) (.cells dz 129))
 have v1:=v.below b1.out
 have c91:=v1.blk.cell (rview_b _ _ _)
 have Z1:=yH (heap_alloc_new w (.cells dz 129))
 have s1:=yH (show w.heap.size<(w.alloc (.cells dz 129)).heap.size by simp)
 unfold TellD
 by_cases hr:rng h n a
 ·have HI:=yH (in_yes a _ v1 hr)
  have HR:=yH (rreadData_n A l n c a _ v1.by_ v1.len (by have:=v1.big;omega) v1.cap v1.capm (by have:=v1.big;have:=hr.2;omega))
  unfold DataTold2 at HR
  unfold dN dP dcode
  simp only[if_pos hr]
  clear v v1 hr
  generalize bnum l a 1 6 0=x0 at*
  generalize bnum l a 1 6 1=x1 at*
  generalize bnum l a 1 6 2=x2 at*
  generalize bnum l a 1 6 3=x3 at*
  generalize bnum l a 1 6 4=x4 at*
  generalize bnum l a 1 6 5=x5 at*
  generalize bcode l a 1 6=cd at*
  generalize bpay l a 1 6=pl at*
  go_enter Tryz.func60,Tryz.ntmps60
  go_wp2_with(first
   |(go_at_call 122;(refine HI.out.mono ?_);rintro e w1 ⟨rfl,rfl⟩)
   |(go_at_call 123;(refine HR.out.mono ?_);rintro e w2 ⟨A2,m2,c2,rfl,hb2,hy2,hl2,hm2⟩;have B2:=yH (b1.out.trans (hb2.mono b1.out.size));have Z2:=yH ((hb2.block _ s1.out).trans Z1.out);have HY2:=yH hy2;have HC2:=yH hm2;clear hy2 hm2;clear hb2)
   |((with_reducible apply at_store (.tmp 4) (.tmp 20));refine wpList_store_row rfl 129 (.tmp 4) (.tmp 20) rfl w.heap.size #[.int .u64 x0,.int .u64 x1,.int .u64 x2,.int .u64 x3,.int .u64 x4,.int .u64 x5,.slice A2 m2 c2] rfl rfl 129 dz Z2.out (by kernel_rfl) rfl (by simp[Value.oneCell']) ?_)
   |fail)
  refine bodyPost_ret (v:= .tuple #[dataV x0 x1 x2 x3 x4 x5 A2 m2 c2,.int .i64 cd]) (by exact res_rowG Tryz.results60 _ _ w.heap.size 129 _ (0,0) _ _ rfl rfl (setRow_heap _ w.heap.size _ _ _ (0,0) Z2.out) Tryz.underlying129 rfl (by kernel_rfl)) rfl ?_
  exact⟨below_setRow B2.out (yR _) _,A2,m2,c2,rfl,bytes_row HY2.out (fun b off e=>Nat.ne_of_gt (yL s1.out (HC2.out.2.2.2 b off e))) _,hl2,HC2.out.mono (Nat.le_of_lt s1.out)⟩
 ·have HI:=yH (in_no a _ v1 hr)
  unfold dN dP dcode
  simp only[if_neg hr]
  clear v v1 hr
  go_enter Tryz.func60,Tryz.ntmps60
  go_wp2_with(first
   |(go_at_call 122;(refine HI.out.mono ?_);rintro e w1 ⟨rfl,rfl⟩)
   |((with_reducible apply at_slot 12);refine Yz.wpList_build_as rfl 129 _ rfl dz (by kernel_rfl) ?_)
   |((with_reducible apply at_store (.tmp 4) (.tmp 12));refine wpList_store_row rfl 129 (.tmp 4) (.tmp 12) rfl w.heap.size dz rfl rfl 129 dz Z1.out (by kernel_rfl) rfl (by simp[Value.oneCell']) ?_)
   |fail)
  refine bodyPost_ret (v:= .tuple #[.agg dz,.int .i64 2]) (by exact res_rowG Tryz.results60 _ _ w.heap.size 129 _ (0,0) _ _ rfl rfl (setRow_heap _ w.heap.size _ _ _ (0,0) Z1.out) Tryz.underlying129 rfl (by kernel_rfl)) rfl ?_
  exact⟨below_setRow b1.out (yR _) _,none,0,0,rfl,Bytes.nil _ _,rfl,cap_none _⟩
theorem rentTell {gv:Nat}{h:HD}{d:Int}{A:Option Addr}{n c:Nat}{l:List Int}(a:Nat)(w:World)(v:ViewR w gv h d A n c l):
 Calls Tryz.prog 118 #[.pointer (some ⟨gv,0,none⟩),.int .u64 (a:Int)] w (TellE w.heap.size h l n a w):=by
 have b1:=yH ((Below.refl w.heap.size w).alloc (yR _) (.cells ez 203))
 have v1:=v.below b1.out
 have c91:=v1.blk.cell (rview_b _ _ _)
 have Z1:=yH (heap_alloc_new w (.cells ez 203))
 have s1:=yH (show w.heap.size<(w.alloc (.cells ez 203)).heap.size by simp)
 unfold TellE
 by_cases hr:rng h n a
 ·have HI:=yH (in_yes a _ v1 hr)
  have HR:=yH (rreadEntry_n A l n c a _ v1.by_ v1.len (by have:=v1.big;omega) v1.cap v1.capm (by have:=v1.big;have:=hr.2;omega))
  unfold EntTold2 at HR
  unfold eN9 eK9 eC9 ecode9
  simp only[if_pos hr]
  clear v v1 hr
  generalize eNum l a 0=s0 at*
  generalize eNum l a 8=s8 at*
  generalize eNum l a 16=s16 at*
  generalize eNum l a 40=s40 at*
  generalize eK l a=kk at*
  generalize eN l a=mm at*
  generalize itA (bodyL l a)=fa at*
  generalize itH (bodyL l a)=fh at*
  generalize entC0 l a=cd at*
  go_enter Tryz.func118,Tryz.ntmps118
  go_wp2_with(first
   |(go_at_call 122;(refine HI.out.mono ?_);rintro e w1 ⟨rfl,rfl⟩)
   |(go_at_call 167;(refine HR.out.mono ?_);rintro e w2 ⟨A2,c2,rfl,hb2,hy2,hw2⟩;have B2:=yH (b1.out.trans (hb2.mono b1.out.size));have Z2:=yH ((hb2.block _ s1.out).trans Z1.out);have HY2:=yH hy2;have HW2:=yH hw2;clear hy2 hw2;clear hb2)
   |((with_reducible apply at_store (.tmp 4) (.tmp 20));refine wpList_store_row rfl 203 (.tmp 4) (.tmp 20) rfl w.heap.size (entL s0 s8 s16 kk s40 A2 mm c2).toArray rfl rfl 203 ez Z2.out (by kernel_rfl) rfl (by first|exact ent_one _ _ _ _ _ _ _ _|exact z_one) ?_)
   |fail)
  refine bodyPost_ret (v:= .tuple #[entV s0 s8 s16 kk s40 A2 mm c2,.int .i64 cd]) (by exact res_rowG Tryz.results118 _ _ w.heap.size 203 _ (0,0) _ _ rfl rfl (setRow_heap _ w.heap.size _ _ _ (0,0) Z2.out) Tryz.underlying203 rfl (by kernel_rfl)) rfl ?_
  exact⟨below_setRow B2.out (yR _) _,A2,c2,rfl,In2.setRow HY2.out (Ri.new_ne HW2.out s1.out) _,Ri.new_mono HW2.out (Nat.le_of_lt s1.out)⟩
 ·have HI:=yH (in_no a _ v1 hr)
  unfold eN9 eK9 eC9 ecode9
  simp only[if_neg hr]
  clear v v1 hr
  go_enter Tryz.func118,Tryz.ntmps118
  go_wp2_with(first
   |(go_at_call 122;(refine HI.out.mono ?_);rintro e w1 ⟨rfl,rfl⟩)
   |((with_reducible apply at_slot 12);refine Yz.wpList_build_as rfl 203 _ rfl ez (by kernel_rfl) ?_)
   |((with_reducible apply at_store (.tmp 4) (.tmp 12));refine wpList_store_row rfl 203 (.tmp 4) (.tmp 12) rfl w.heap.size ez rfl rfl 203 ez Z1.out (by kernel_rfl) rfl (by first|exact z_one|exact ent_one _ _ _ _ _ _ _ _) ?_)
   |fail)
  refine bodyPost_ret (v:= .tuple #[.agg ez,.int .i64 2]) (by exact res_rowG Tryz.results118 _ _ w.heap.size 203 _ (0,0) _ _ rfl rfl (setRow_heap _ w.heap.size _ _ _ (0,0) Z1.out) Tryz.underlying203 rfl (by kernel_rfl)) rfl ?_
  exact⟨below_setRow b1.out (yR _) _,none,0,rfl,fun i hi=>absurd hi (Nat.not_lt_zero i),none_new _⟩
theorem rarrTell {gv:Nat}{h:HD}{d:Int}{A:Option Addr}{n c:Nat}{l:List Int}(a:Nat)(w:World)(v:ViewR w gv h d A n c l):
 Calls Tryz.prog 119 #[.pointer (some ⟨gv,0,none⟩),.int .u64 (a:Int)] w (TellA w.heap.size h l n a w):=by
 have b1:=yH ((Below.refl w.heap.size w).alloc (yR _) (.cells az 221))
 have v1:=v.below b1.out
 have c91:=v1.blk.cell (rview_b _ _ _)
 have Z1:=yH (heap_alloc_new w (.cells az 221))
 have s1:=yH (show w.heap.size<(w.alloc (.cells az 221)).heap.size by simp)
 unfold TellA
 by_cases hr:rng h n a
 ·have HI:=yH (in_yes a _ v1 hr)
  have HR:=yH (rreadArray_n A l n c a _ v1.by_ v1.len (by have:=v1.big;omega) v1.cap v1.capm (by have:=v1.big;have:=hr.2;omega))
  unfold ArrTold2 at HR
  unfold aX9 aC9 arcode
  simp only[if_pos hr]
  clear v v1 hr
  generalize arX l a=x0 at*
  generalize arM l a=mm at*
  generalize arF (bodyL l a)=fa at*
  generalize ecode l a 6 8 8=cd at*
  go_enter Tryz.func119,Tryz.ntmps119
  go_wp2_with(first
   |(go_at_call 122;(refine HI.out.mono ?_);rintro e w1 ⟨rfl,rfl⟩)
   |(go_at_call 168;(refine HR.out.mono ?_);rintro e w2 ⟨A2,c2,rfl,hb2,hy2,hw2⟩;have B2:=yH (b1.out.trans (hb2.mono b1.out.size));have Z2:=yH ((hb2.block _ s1.out).trans Z1.out);have HY2:=yH hy2;have HW2:=yH hw2;clear hy2 hw2;clear hb2)
   |((with_reducible apply at_store (.tmp 4) (.tmp 20));refine wpList_store_row rfl 221 (.tmp 4) (.tmp 20) rfl w.heap.size #[.int .u64 x0,.slice A2 mm c2] rfl rfl 221 az Z2.out (by kernel_rfl) rfl (by simp[Value.oneCell']) ?_)
   |fail)
  refine bodyPost_ret (v:= .tuple #[arrV x0 A2 mm c2,.int .i64 cd]) (by exact res_rowG Tryz.results119 _ _ w.heap.size 221 _ (0,0) _ _ rfl rfl (setRow_heap _ w.heap.size _ _ _ (0,0) Z2.out) Tryz.underlying221 rfl (by kernel_rfl)) rfl ?_
  exact⟨below_setRow B2.out (yR _) _,A2,c2,rfl,InInts.setRow HY2.out (Ri.new_ne HW2.out s1.out) _,Ri.new_mono HW2.out (Nat.le_of_lt s1.out)⟩
 ·have HI:=yH (in_no a _ v1 hr)
  unfold aX9 aC9 arcode
  simp only[if_neg hr]
  clear v v1 hr
  go_enter Tryz.func119,Tryz.ntmps119
  go_wp2_with(first
   |(go_at_call 122;(refine HI.out.mono ?_);rintro e w1 ⟨rfl,rfl⟩)
   |((with_reducible apply at_slot 12);refine Yz.wpList_build_as rfl 221 _ rfl az (by kernel_rfl) ?_)
   |((with_reducible apply at_store (.tmp 4) (.tmp 12));refine wpList_store_row rfl 221 (.tmp 4) (.tmp 12) rfl w.heap.size az rfl rfl 221 az Z1.out (by kernel_rfl) rfl (by simp[Value.oneCell']) ?_)
   |fail)
  refine bodyPost_ret (v:= .tuple #[.agg az,.int .i64 2]) (by exact res_rowG Tryz.results119 _ _ w.heap.size 221 _ (0,0) _ _ rfl rfl (setRow_heap _ w.heap.size _ _ _ (0,0) Z1.out) Tryz.underlying221 rfl (by kernel_rfl)) rfl ?_
  exact⟨below_setRow b1.out (yR _) _,none,0,rfl,fun i hi=>absurd hi (Nat.not_lt_zero i),none_new _⟩
end Va
end Go.Proofs.YtiddkgcafpaekaaGreat
