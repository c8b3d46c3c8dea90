/-
  Texts beneath the proof.
-/
import Derived.Test.YtiddkgcafpaekaaGreatJq33
set_option linter.unusedVariables false
set_option linter.unusedSimpArgs false
set_option maxRecDepth 100000
set_option maxHeartbeats 16000000
open Go.ChangeShapes Go.WideShapes Go.ChangeAt Go.RowKit
namespace Go.Proofs.YtiddkgcafpaekaaGreat
namespace Rm
open Bytes8 Blk8 Own8 OwnE OwnA Rows2 Ob Od Ga Gb Ok7 Np Nr Pr8 Fa Dc Rc Rk
open Rd (dcode dz)
def lcode (c:Nat→Int):Nat→Int
 |0=>0
 |k+1=>if lcode c k≠0 then lcode c k else c k
theorem lcode_zero {c:Nat→Int}: ∀ {k:Nat},(∀i,i<k→c i=0)→lcode c k=0
 |0,_=>rfl
 |k+1,h=>by
  unfold lcode
  rw[lcode_zero (fun i hi=>h i (by omega)),if_neg (by decide)]
  exact h k (by omega)
theorem lcode_first {c:Nat→Int}{k:Nat}(h: ∀i,i<k→c i=0)(hk:c k≠0): ∀ {n:Nat},k<n→lcode c n=c k
 |0,hn=>absurd hn (Nat.not_lt_zero k)
 |n+1,hn=>by
  unfold lcode
  rcases Nat.lt_or_ge k n with h1|h1
  ·rw[lcode_first h hk h1,if_pos hk]
  ·have e:n=k:=by omega
   subst e
   rw[lcode_zero h,if_neg (by decide)]
theorem bpay_pos {l:List Int}{a:Nat}(h:bcode l a 1 6=0):0<(bpay l a 1 6).length:=by
 unfold bpay
 rw[if_pos h,List.length_drop]
 unfold bcode at h
 by_cases h1:code l a≠0
 ·rw[if_pos h1]at h;exact absurd h h1
 ·rw[if_neg h1]at h
  by_cases h2:kindL l a≠1
  ·rw[if_pos h2]at h;cases h
  ·rw[if_neg h2]at h
   by_cases h3:(bodyL l a).length≤8*6
   ·rw[if_pos h3]at h;cases h
   ·omega
theorem hcode_fine {h:HD}{l:List Int}{n a:Nat}(hz:hcode9 h l n a=0):bcode l a 1 6=0:=by
 unfold hcode9 at hz
 by_cases h1:dcode h l n a≠0
 ·rw[if_pos h1]at hz;exact absurd hz h1
 ·have h2:dcode h l n a=0:=by omega
  unfold dcode at h2
  by_cases h3:h.N 0≤(a:Int)∧a<n
  ·rw[if_pos h3]at h2;exact h2
  ·rw[if_neg h3]at h2;cases h2
def prsL (P:Nat→List Int)(k:Nat):List PR:=(List.range k).map fun i=>(splitN (P i),splitV (P i))
theorem prsL_succ (P:Nat→List Int)(k:Nat):prsL P (k+1)=prsL P k++ [(splitN (P k),splitV (P k))]:=by simp[prsL,List.range_succ]
theorem prsL_len (P:Nat→List Int)(k:Nat):(prsL P k).length=k:=by simp[prsL]
def icode (h:HD)(l:List Int)(n:Nat)(f g:Nat→Int)(i:Nat):Int:=
 if hcode9 h l n (f i).toNat≠0 then hcode9 h l n (f i).toNat else if bnum l (f i).toNat 1 6 0=g i then splitE (bpay l (f i).toNat 1 6)else 9
theorem OwnE.farE {E:TypeId}{size:Nat}{w:World}{base:Nat}{A:Option Addr}{n c:Nat}{xs:List Value}(h:OwnE E size w base A n c xs){a:Addr}(ha:a.block<base)(u:Value):OwnE E size (w.setCell a u) base A n c xs:=
 ⟨by simpa using h.1,ownsRow_setCell_below h.2 ha u⟩
structure Row4 where
 b:Nat
 off:Nat
 m:Nat
 c:Nat
def Row4.v (x:Row4):Value:= .slice (some ⟨x.b,x.off,none⟩) x.m x.c
structure PayAt (w:World)(rows:List Row4)(P:Nat→List Int):Prop where
 at_: ∀r (h:r<rows.length),Bytes w (some ⟨rows[r].b,rows[r].off,none⟩) (P r)∧(P r).length=rows[r].m∧rows[r].m≤rows[r].c∧rows[r].c≤maxLen∧rows[r].m≤800000
theorem bytes_keptB {w w':World}{A:Option Addr}{l:List Int}(h:Bytes w A l)(hs:w.heap.size≤w'.heap.size)(hk: ∀b off,A=some ⟨b,off,none⟩→b<w.heap.size→w'.heap[b]? =w.heap[b]?):Bytes w' A l:=⟨h.1,fun i hi=>by
 obtain⟨b,off,e,hb,hc⟩:=h.2 i hi
 exact⟨b,off,e,yL hb hs,(World.cell?_of_block (a:=⟨b,off+i,none⟩) (hk b off e hb)).trans hc⟩⟩
structure LR (w4 wr:World)(s6:Nat)(s r m:Int)(K:Nat→Int)(P:Nat→List Int)(F:Option Addr)(cF:Nat)(PA:Option Addr)(cP:Nat)(rows:List Row4)(kf kp:Nat):Prop where
 old:Below s6 w4 wr
 rc:Blk wr s6 (recL s r m K (.slice F kf cF)) 74
 fld:OwnP wr (s6+1) F kf cF (prsL P kf)
 own:OwnE 24 1 wr (s6+1) PA kp cP (rows.map Row4.v)
 pay:PayAt wr rows P
 far: ∀x∈rows,s6<x.b∧x.b<wr.heap.size∧ownB F≠some x.b∧ownB PA≠some x.b
 apart: ∀g,ownB F=some g→ownB PA≠some g
section
variable {w4 wr : World} {s6 : Nat} {s r m : Int} {K : Nat → Int} {P : Nat → List Int} {F : Option Addr} {cF : Nat} {PA : Option Addr} {cP : Nat} {rows : List Row4} {kf kp : Nat}
theorem LR.lt (h:LR w4 wr s6 s r m K P F cF PA cP rows kf kp):s6<wr.heap.size:=h.rc.lt
theorem LR.below {w':World}(h:LR w4 wr s6 s r m K P F cF PA cP rows kf kp)(hb:Below wr.heap.size wr w'):LR w4 w' s6 s r m K P F cF PA cP rows kf kp:=
 {old:=h.old.trans (hb.mono (Nat.le_of_lt h.lt))
  rc:=h.rc.below hb h.lt
  fld:=h.fld.kept hb (yR _)
  own:=h.own.kept hb (yR _)
  pay:=⟨fun r hr=>⟨(h.pay.at_ r hr).1.below hb (yR _),(h.pay.at_ r hr).2⟩⟩
  far:=fun x hx=>⟨(h.far x hx).1,yL (h.far x hx).2.1 hb.size,(h.far x hx).2.2⟩
  apart:=h.apart}
theorem LR.field {w':World}{F':Option Addr}{cF':Nat}(h:LR w4 wr s6 s r m K P F cF PA cP rows kf kp)(hok:okP (splitN (P kf),splitV (P kf)))
 (ho:OwnE 77 2 w' (s6+1) F' (kf+1) cF' (cellsP (prsL P kf)++ [.string (T (splitN (P kf))),.string (T (splitV (P kf)))]))(hg:wr.grownBy w' (ownB F))(hat:ownB F'=ownB F∨ownB F'=some wr.heap.size):
 LR w4 (w'.setCell ⟨s6,19,none⟩ (.slice F' (kf+1) cF')) s6 s r m K P F' cF' PA cP rows (kf+1) kp:=by
 have hlt:=h.lt
 have hbF: ∀g,ownB F=some g→s6+1≤g∧g<wr.heap.size:=OwnE.ltB h.fld.2.2
 have hne:ownB F≠some s6:=fun e=>by have:=(hbF s6 e).1;omega
 have hb1:Below s6 wr w':=below_grown hg (Nat.le_of_lt hlt) (fun k hk=>by have:=(hbF k hk).1;omega)
 have hr1:Blk w' s6 (recL s r m K (.slice F kf cF)) 74:=(hg.block s6 hlt (fun e=>hne e.symm)).trans h.rc
 have hkp: ∀b,b<wr.heap.size→ownB F≠some b→b≠s6→(w'.setCell ⟨s6,19,none⟩ (.slice F' (kf+1) cF')).heap[b]? =wr.heap[b]? :=fun b hb h1 h2=>(Below.heap_setCell w' ⟨s6,19,none⟩ _ b h2).trans (hg.block b hb (fun e=>h1 e.symm))
 have hsz:wr.heap.size≤(w'.setCell ⟨s6,19,none⟩ (.slice F' (kf+1) cF')).heap.size:=by simpa using hg.size
 have hF': ∀b,b<wr.heap.size→ownB F≠some b→ownB F'≠some b:=fun b hb h1 h2=>by
  rcases hat with e|e
  ·exact h1 (e▸h2)
  ·rw[e]at h2;injection h2 with h2;omega
 refine {old:=(h.old.trans hb1).setCell (p:=⟨s6,19,none⟩) (yR _) _,rc:=hr1.set_ 19 _,fld:=?_,own:=?_,pay:=?_,far:=?_,apart:=?_}
 ·refine⟨?_,by rw[prsL_len],?_⟩
  ·rw[prsL_succ]
   intro p hp
   rcases List.mem_append.1 hp with h1|h1
   ·exact h.fld.1 p h1
   ·rw[List.mem_singleton.1 h1];exact hok
  ·rw[prsL_succ,cellsP_app]
   exact OwnE.farE ho (show(⟨s6,19,none⟩:Addr).block<s6+1 from Nat.lt_succ_self _) _
 ·exact OwnE.farE (OwnE.keptG h.own hg (fun g hg2 e=>h.apart g e hg2)) (show(⟨s6,19,none⟩:Addr).block<s6+1 from Nat.lt_succ_self _) _
 ·refine⟨fun r hr=>⟨bytes_keptB (h.pay.at_ r hr).1 hsz (fun b off e hb=>?_),(h.pay.at_ r hr).2⟩⟩
  have hf:=h.far _ (List.getElem_mem hr)
  injection e with e
  injection e with e1 e2
  subst e1
  exact hkp _ hb hf.2.2.1 (by omega)
 ·exact fun x hx=>⟨(h.far x hx).1,yL (h.far x hx).2.1 hsz,hF' _ (h.far x hx).2.1 (h.far x hx).2.2.1,(h.far x hx).2.2.2⟩
 ·intro g hg2 hp
  have hb:=(OwnE.ltB h.own g hp).2
  exact hF' g hb (fun e=>h.apart g e hp) hg2
theorem LR.payload {w':World}{PA':Option Addr}{cP':Nat}(h:LR w4 wr s6 s r m K P F cF PA cP rows kf kp)(x:Row4)(hlen:rows.length=kp)
 (hx:Bytes wr (some ⟨x.b,x.off,none⟩) (P kp)∧(P kp).length=x.m∧x.m≤x.c∧x.c≤maxLen∧x.m≤800000)(hfar:s6<x.b∧x.b<wr.heap.size∧ownB F≠some x.b∧ownB PA≠some x.b)
 (ho:OwnE 24 1 w' (s6+1) PA' (kp+1) cP' (rows.map Row4.v++ [x.v]))(hg:wr.grownBy w' (ownB PA))(hat:ownB PA'=ownB PA∨ownB PA'=some wr.heap.size):
 LR w4 w' s6 s r m K P F cF PA' cP' (rows++ [x]) kf (kp+1):=by
 have hlt:=h.lt
 have hbP: ∀g,ownB PA=some g→s6+1≤g∧g<wr.heap.size:=OwnE.ltB h.own
 have hne:ownB PA≠some s6:=fun e=>by have:=(hbP s6 e).1;omega
 have hb1:Below s6 wr w':=below_grown hg (Nat.le_of_lt hlt) (fun k hk=>by have:=(hbP k hk).1;omega)
 have hP': ∀b,b<wr.heap.size→ownB PA≠some b→ownB PA'≠some b:=fun b hb h1 h2=>by
  rcases hat with e|e
  ·exact h1 (e▸h2)
  ·rw[e]at h2;injection h2 with h2;omega
 refine {old:=h.old.trans hb1,rc:=(hg.block s6 hlt (fun e=>hne e.symm)).trans h.rc,fld:=⟨h.fld.1,h.fld.2.1,OwnE.keptG h.fld.2.2 hg (fun g hg2 e=>h.apart g hg2 e)⟩,own:=by rw[List.map_append];exact ho,pay:=?_,far:=?_,apart:=?_}
 ·refine⟨fun r hr=>?_⟩
  rcases Nat.lt_or_ge r rows.length with h1|h1
  ·rw[List.getElem_append_left h1]
   have hf:=h.far _ (List.getElem_mem h1)
   refine⟨bytes_keptB (h.pay.at_ r h1).1 hg.size (fun b off e hb=>?_),(h.pay.at_ r h1).2⟩
   injection e with e
   injection e with e1 e2
   subst e1
   exact hg.block _ hb (fun e=>hf.2.2.2 e.symm)
  ·have e1:r=kp:=by rw[List.length_append,List.length_singleton]at hr;omega
   subst e1
   have e2:(rows++ [x])[r]=x:=by rw[List.getElem_append_right h1];simp
   rw[e2]
   refine⟨bytes_keptB hx.1 hg.size (fun b off e hb=>?_),hx.2⟩
   injection e with e
   injection e with e1 e2
   subst e1
   exact hg.block _ hb (fun e=>hfar.2.2.2 e.symm)
 ·intro y hy
  rcases List.mem_append.1 hy with h1|h1
  ·have hf:=h.far y h1
   exact⟨hf.1,yL hf.2.1 hg.size,hf.2.2.1,hP' _ hf.2.1 hf.2.2.2⟩
  ·rw[List.mem_singleton.1 h1]
   exact⟨hfar.1,yL hfar.2.1 hg.size,hfar.2.2.1,hP' _ hfar.2.1 hfar.2.2.2⟩
 ·intro g hg2 hp
  have hb:=(OwnE.ltB h.fld.2.2 g hg2).2
  exact hP' g hb (h.apart g hg2) hp
theorem LR.inRows (h:LR w4 wr s6 s r m K P F cF PA cP rows kf kp)(hlen:rows.length=kp): ∃(A:Nat→Option Addr) (L C:Nat→Nat),InRows wr PA kp A L C P∧ ∀r,r<kp→L r≤800000:=by
 refine⟨fun r=>(rows[r]?).bind fun x=>some ⟨x.b,x.off,none⟩,fun r=>((rows[r]?).map Row4.m).getD 0,fun r=>((rows[r]?).map Row4.c).getD 0,fun r hr=>?_,fun r hr=>?_⟩
 ·have hr':r<rows.length:=by omega
  obtain⟨p1,p2,p3,p4,p5⟩:=h.pay.at_ r hr'
  have hx:(rows.map Row4.v)[r]? =some rows[r].v:=by rw[List.getElem?_map,List.getElem?_eq_getElem hr'];rfl
  obtain⟨g,e,hb,hlt,hc⟩:=h.own.cell (i:=r) (by rw[List.length_map];exact hr')
  refine⟨g,0,e,hlt,?_,?_,?_,?_,?_⟩
  ·rw[Nat.zero_add,hc,hx]
   simp only[List.getElem?_eq_getElem hr',Option.bind_some,Option.map_some,Option.getD_some]
   rfl
  all_goals (simp only[List.getElem?_eq_getElem hr',Option.bind_some,Option.map_some,Option.getD_some];assumption)
 ·have hr':r<rows.length:=by omega
  simp only[List.getElem?_eq_getElem hr',Option.map_some,Option.getD_some]
  exact(h.pay.at_ r hr').2.2.2.2
end
attribute [local irreducible] wpList Code.wp
theorem gotp_no (x y:ByteArray)(cd:Int)(h0:cd≠0)(w:World):Calls Tryz.prog 224 #[.agg #[.string x,.string y],.int .i64 cd] w fun e w'=>e= .panicked [haltE cd]∧Below w.heap.size w w':=by
 have HN:=yH (need_no cd)
 have d0:(cd==0)=false:=by simpa using h0
 go_enter Tryz.func224,Tryz.ntmps224
 go_wp2_with(first
  |(go_at_call 222;(refine(HN.out _).mono ?_);rintro e w1 ⟨rfl,rfl⟩)
  |fail)
 exact⟨rfl,rfl,((Below.refl w.heap.size w).alloc (yR _) _).alloc (by simp) _⟩
theorem gotp_yes (x y:ByteArray)(w:World):Calls Tryz.prog 224 #[.agg #[.string x,.string y],.int .i64 0] w fun e w'=>e= .returned (.agg #[.string x,.string y])∧Below w.heap.size w w':=by
 have HN:=yH (need_yes 0)
 go_enter Tryz.func224,Tryz.ntmps224
 go_wp2_with(first
  |(go_at_call 222;(refine(HN.out _).mono ?_);rintro e w1 ⟨rfl,rfl⟩)
  |fail)
 refine bodyPost_ret (v:= .agg #[.string x,.string y]) (by exact results_cell_row Tryz.results224 _ _ (w.heap.size+1) 77 _ (0,0) _ rfl (heap_alloc2_new w _ _) Tryz.underlying77 rfl (by kernel_rfl)) rfl ?_
 exact⟨rfl,((Below.refl w.heap.size w).alloc (yR _) _).alloc (by simp) _⟩
end Rm
namespace Rn
open Bytes8 Blk8 Own8 OwnE OwnA Rows2 Ob Ga Gb Ok7 Np Nr Sg Pr8 Fa Fsp Dc Ya Rc Rk Rm
open Kf Yc Yp Yd Ye Yg Yh Ri
open Rd (dcode dz)
open Re (ReadD)
abbrev payP (l:List Int)(f:Nat→Int)(i:Nat):List Int:=bpay l (f i).toNat 1 6
def rcodeF (h:HD)(l:List Int)(n:Nat)(ec:Int)(mm:Nat)(fa fh:Nat→Int)(x40:Int):Int:=
 if ec≠0 then ec else if 16<mm then 21 else if lcode (icode h l n fa fh) mm≠0 then lcode (icode h l n fa fh) mm else if x40=((xr (rowsL (payP l fa) mm):Nat):Int)then 0 else 10
def rcode (h:HD)(l:List Int)(n a:Nat):Int:=rcodeF h l n (ecode9 h l n a) (eN l a) (itA (bodyL l a)) (itH (bodyL l a)) (eNum l a 40)
structure RC (rc:Int)(h:HD)(l:List Int)(n:Nat)(ec:Int)(mm:Nat)(fa fh:Nat→Int)(x40:Int):Prop where
 a:ec≠0→rc=ec
 b:ec=0→16<mm→rc=21
 c:ec=0→mm≤16→ ∀k,k<mm→(∀i,i<k→icode h l n fa fh i=0)→icode h l n fa fh k≠0→rc=icode h l n fa fh k
 d:ec=0→mm≤16→(∀i,i<mm→icode h l n fa fh i=0)→x40≠((xr (rowsL (payP l fa) mm):Nat):Int)→rc=10
 e:ec=0→mm≤16→(∀i,i<mm→icode h l n fa fh i=0)→x40=((xr (rowsL (payP l fa) mm):Nat):Int)→rc=0
theorem rc_of (h:HD)(l:List Int)(n:Nat)(ec:Int)(mm:Nat)(fa fh:Nat→Int)(x40:Int):RC (rcodeF h l n ec mm fa fh x40) h l n ec mm fa fh x40:=by
 refine⟨fun h1=>?_,fun h1 h2=>?_,fun h1 h2 k hk h3 h4=>?_,fun h1 h2 h3 h4=>?_,fun h1 h2 h3 h4=>?_⟩<;>unfold rcodeF
 ·rw[if_pos h1]
 ·rw[if_neg (by omega),if_pos h2]
 ·rw[if_neg (by omega),if_neg (by omega),lcode_first h3 h4 hk,if_pos h4]
 ·rw[if_neg (by omega),if_neg (by omega),lcode_zero h3,if_neg (by decide),if_neg h4]
 ·rw[if_neg (by omega),if_neg (by omega),lcode_zero h3,if_neg (by decide),if_pos h4]
theorem icode_hash {h:HD}{l:List Int}{n:Nat}{fa fh:Nat→Int}{k ak:Nat}(e:fa k=(ak:Int))(h1:hcode9 h l n ak≠0):icode h l n fa fh k=hcode9 h l n ak:=by
 unfold icode
 rw[e,Int.toNat_natCast,if_pos h1]
theorem icode_other {h:HD}{l:List Int}{n:Nat}{fa fh:Nat→Int}{k ak:Nat}(e:fa k=(ak:Int))(h1:hcode9 h l n ak=0)(h2:bnum l ak 1 6 0≠fh k):icode h l n fa fh k=9:=by
 unfold icode
 rw[e,Int.toNat_natCast,if_neg (by omega),if_neg h2]
theorem icode_split {h:HD}{l:List Int}{n:Nat}{fa fh:Nat→Int}{k ak:Nat}(e:fa k=(ak:Int))(h1:hcode9 h l n ak=0)(h2:bnum l ak 1 6 0=fh k):icode h l n fa fh k=splitE (bpay l ak 1 6):=by
 unfold icode
 rw[e,Int.toNat_natCast,if_neg (by omega),if_pos h2]
theorem In2.older {w w':World}{a:Option Addr}{n:Nat}{f g:Nat→Int}(h:In2 w a n f g)(hb:Below w.heap.size w w'):In2 w' a n f g:=fun i hi=>by
 obtain⟨b,off,e,h1,h2,h3,h4⟩:=h i hi
 exact⟨b,off,e,yL h1 hb.size,(hb.cell (p:=⟨b,off+i*2,none⟩) h1).trans h2,(hb.cell (p:=⟨b,off+i*2+1,none⟩) h1).trans h3,h4⟩
theorem splitN_len (l:List Int):(splitN l).length≤l.length:=by
 unfold splitN;split
 ·rw[List.length_take];omega
 ·exact Nat.zero_le _
theorem splitV_len (l:List Int):(splitV l).length≤l.length:=by
 unfold splitV;split
 ·rw[List.length_drop];omega
 ·exact Nat.zero_le _
theorem split_okP {l:List Int}(h:AllB l)(hl:l.length≤1000000):okP (splitN l,splitV l):=by
 have h1:=splitN_len l
 have h2:=splitV_len l
 exact⟨splitN_all h,splitV_all h,by unfold maxLen;show(splitN l).length≤_;omega,by unfold maxLen;show(splitV l).length≤_;omega⟩
theorem LR.start {w4 wr:World}{s6:Nat}{s r m:Int}{K:Nat→Int}{P:Nat→List Int}(ho:Below s6 w4 wr)(hr:Blk wr s6 (recL s r m K (.slice none 0 0)) 74):LR w4 wr s6 s r m K P none 0 none 0 [] 0 0:=
 {old:=ho,rc:=hr,fld:=OwnP.nil _ _ hr.lt,own:=OwnE.nil _ _ hr.lt,pay:=⟨fun r hr=>absurd hr (Nat.not_lt_zero r)⟩,far:=(fun x hx=>by cases hx),apart:=(fun g hg=>by cases hg)}
theorem ent_range {w:World}{g:Nat}{T:TypeId}{s r m x:Int}{K:Nat→Int}{A:Option Addr}{n c:Nat}(h:Blk w g (entL s r m K x A n c) T):w.rangeAt g 3 (idJ K):=fun j v hj=>by
 have hl:j<16:=(List.getElem?_eq_some_iff.1 hj).1
 refine h.cell (i:=3+j) ?_
 rw[idJ_get K j hl]at hj
 unfold entL
 rcases j with _|_|_|_|_|_|_|_|_|_|_|_|_|_|_|_|j
 all_goals first|exact hj|omega
theorem recL_all (s r m:Int)(K:Nat→Int)(A:Option Addr)(n c:Nat):(recL s r m K (.slice A n c)).toArray.all (·.oneCell')=true:=by simp[Value.oneCell']
theorem ent_cell {w:World}{g:Nat}{T:TypeId}{s r m x:Int}{K:Nat→Int}{A:Option Addr}{n c:Nat}(h:Blk w g (entL s r m K x A n c) T):w.cell? ⟨g,0,none⟩=some (.int .u64 s)∧w.cell? ⟨g,1,none⟩=some (.int .u64 r)∧w.cell? ⟨g,2,none⟩=some (.int .u64 m)∧w.cell? ⟨g,19,none⟩=some (.int .u64 x)∧w.cell? ⟨g,20,none⟩=some (.slice A n c):=
 ⟨h.cell (i:=0) rfl,h.cell (i:=1) rfl,h.cell (i:=2) rfl,h.cell (i:=19) rfl,h.cell (i:=20) rfl⟩
def natOf:Value→Nat
 | .int _ z=>z.toNat
 |_=>0
def ReadR (B:Nat)(h:HD)(l:List Int)(n a:Nat)(e:Ending)(w':World):Prop:=
 (rcode h l n a≠0∧e= .panicked [haltE (rcode h l n a)])∨(rcode h l n a=0∧ ∃F cF,e= .returned (.agg (recL (eNum l a 0) (eNum l a 8) (eNum l a 16) (eK l a) (.slice F (eN l a) cF)).toArray)∧Prs w' F (prsL (payP l (itA (bodyL l a))) (eN l a))∧NewIn B F)
attribute [local irreducible] wpList Code.wp ofS bnum bpay bcode hcode9 icode splitE splitN splitV xr rowsL prsL lcode
theorem vrec_any {gv:Nat}{h:HD}{A:Option Addr}{n c:Nat}{l:List Int}(a:Nat)(w:World)(v:ViewAt w gv h A n c l)(hcm:c≤maxLen)(h8:n≤800000):
 Calls Tryz.prog 183 #[.pointer (some ⟨gv,0,none⟩),.int .u64 (a:Int)] w fun e w'=>Below w.heap.size w w'∧ReadR w.heap.size h l n a e w':=by
 have b1:=yH ((Below.refl w.heap.size w).alloc (yR _) (.cells zR 74))
 have v1:=v.below b1.out
 have HV:=yH (vent_any a _ v1 hcm)
 have Vw:=yH fun(W:World) (hW:Below w.heap.size w W)=>v.below hW
 have Z1:=yH (heap_alloc_new w (.cells zR 74))
 have s1:=yH (show w.heap.size<(w.alloc (.cells zR 74)).heap.size by simp)
 have hll:l.length≤800000:=by have:=v.len;omega
 unfold ReadR
 have HRC:=yH (rc_of h l n (ecode9 h l n a) (eN l a) (itA (bodyL l a)) (itH (bodyL l a)) (eNum l a 40))
 have hrd:rcode h l n a=rcodeF h l n (ecode9 h l n a) (eN l a) (itA (bodyL l a)) (itH (bodyL l a)) (eNum l a 40):=rfl
 rw[hrd]
 clear hrd
 generalize rcodeF h l n (ecode9 h l n a) (eN l a) (itA (bodyL l a)) (itH (bodyL l a)) (eNum l a 40)=rc at*
 unfold ReadE at HV
 generalize eNum l a 0=x0 at*
 generalize eNum l a 8=x8 at*
 generalize eNum l a 16=x16 at*
 generalize eNum l a 40=x40 at*
 generalize eK l a=kk at*
 generalize eN l a=mm at*
 generalize itA (bodyL l a)=fa at*
 generalize ecode9 h l n a=cd at*
 generalize itH (bodyL l a)=fh at*
 clear v v1
 by_cases hz:cd≠0
 ·have hrc:=HRC.out.a hz
  subst hrc
  go_enter Tryz.func183,Tryz.ntmps183
  go_wp2_with(first
   |(go_at_call 195;(refine HV.out.mono ?_);rintro e w3 ⟨hb3,⟨_,rfl⟩|⟨he,_⟩⟩;rotate_left;(exact absurd he hz);have B3:=yH (b1.out.trans (hb3.mono b1.out.size));clear hb3)
   |fail)
  exact⟨rfl,B3.out,.inl ⟨hz,rfl⟩⟩
 have hz:cd=0:=by omega
 subst hz
 go_enter Tryz.func183,Tryz.ntmps183
 go_upto_region 2 with(first
  |(go_at_call 195;(refine HV.out.mono ?_);rintro e w2 ⟨hb2,⟨hne,_⟩|⟨_,A2,c2,rfl,hy2,hw2⟩⟩;(exact absurd rfl hne);have B2:=yH (b1.out.trans (hb2.mono b1.out.size));have IT2:=yH hy2;have Z2:=yH ((hb2.block _ s1.out).trans Z1.out);have SZ2:=yH (show w.heap.size<w2.heap.size from yL s1.out hb2.size);clear hb2 hy2 hw2)
  |((with_reducible apply at_store (.tmp 5) (.tmp 13));refine wpList_store_row rfl 256 (.tmp 5) (.tmp 13) rfl w2.heap.size (entL x0 x8 x16 kk x40 A2 mm c2).toArray rfl rfl 256 ez (heap_alloc_new w2 _) (by kernel_rfl) rfl (by first|exact ent_one _ _ _ _ _ _ _ _|exact z_one) ?_)
  |fail)
 have R3:=yH (show Blk ((w2.alloc (.cells ez 256)).setRow w2.heap.size (entL x0 x8 x16 kk x40 A2 mm c2).toArray) w2.heap.size (entL x0 x8 x16 kk x40 A2 mm c2) 256 from setRow_heap _ _ _ _ _ (0,0) (heap_alloc_new w2 _))
 have B23:=yH (show Below w2.heap.size w2 ((w2.alloc (.cells ez 256)).setRow w2.heap.size (entL x0 x8 x16 kk x40 A2 mm c2).toArray)from below_setRow ((Below.refl _ _).alloc (yR _) _) (yR _) _)
 generalize (w2.alloc (.cells ez 256)).setRow w2.heap.size (entL x0 x8 x16 kk x40 A2 mm c2).toArray=w3 at*
 have B3:=yH (B2.out.trans (B23.out.mono B2.out.size))
 have IT3:=yH (In2.older IT2.out B23.out)
 have Z3:=yH ((B23.out.block _ SZ2.out).trans Z2.out)
 have hsz3:w.heap.size<w3.heap.size:=yL SZ2.out B23.out.size
 have hs5:w2.heap.size<w3.heap.size:=R3.out.lt
 generalize w2.heap.size=s5 at*
 obtain⟨c0,c1,c2',c19,c20⟩:=ent_cell R3.out
 clear HV B2 IT2 Z2 SZ2 B23 Z1 s1
 by_cases h16:16<mm
 ·have hrc:=HRC.out.b rfl h16
  subst hrc
  have d:decide ((mm:Int)≤16)=false:=by simp;omega
  have d': ¬((mm:Int)≤16):=by omega
  clear c0 c1 c2' c19
  go_wp2_with(first
   |(go_at_call 222;(refine(need_no 21 _).mono ?_);rintro e w5 ⟨rfl,rfl⟩)
   |fail)
  exact⟨rfl,B3.out,.inl ⟨by decide,rfl⟩⟩
 have d:decide ((mm:Int)≤16)=true:=by simp;omega
 have HRg:=yH (ent_range R3.out)
 go_upto_region 5 with(first
  |(go_at_call 222;(refine(need_yes 21 _).mono ?_);rintro e w5 ⟨rfl,rfl⟩)
  |((with_reducible apply at_slot 26);refine wpList_load_mid rfl 37 (.tmp 25) rfl s5 3 rfl (idJ kk) _ HRg.out Tryz.underlying37 rfl (idJ_info _) ?_)
  |((with_reducible apply at_slot 27);refine Yz.wpList_build_as rfl 74 _ rfl (recL x0 x8 x16 kk (.slice none 0 0)).toArray (by kernel_rfl) ?_)
  |((with_reducible apply at_store (.tmp 6) (.tmp 27));refine wpList_store_row rfl 74 (.tmp 6) (.tmp 27) rfl w3.heap.size (recL x0 x8 x16 kk (.slice none 0 0)).toArray rfl rfl 74 zR (heap_alloc_new w3 _) (recInfo _ _ _ _ _) rfl (recL_all _ _ _ _ _ _ _) ?_)
  |fail)
 have R5:=yH (show Blk ((w3.alloc (.cells zR 74)).setRow w3.heap.size (recL x0 x8 x16 kk (.slice none 0 0)).toArray) w3.heap.size (recL x0 x8 x16 kk (.slice none 0 0)) 74 from setRow_heap _ _ _ _ _ (0,0) (heap_alloc_new w3 _))
 have B35:=yH (show Below w3.heap.size w3 ((w3.alloc (.cells zR 74)).setRow w3.heap.size (recL x0 x8 x16 kk (.slice none 0 0)).toArray)from below_setRow ((Below.refl _ _).alloc (yR _) _) (yR _) _)
 generalize (w3.alloc (.cells zR 74)).setRow w3.heap.size (recL x0 x8 x16 kk (.slice none 0 0)).toArray=w5 at*
 generalize hs6:w3.heap.size=s6 at*
 have L0:=yH (LR.start (P:=payP l fa) B35.out R5.out)
 have E5:=yH (R3.out.below B35.out (by omega))
 have c20':=(ent_cell E5.out).2.2.2.2
 have HS6:=yH hs6.symm
 clear c0 c1 c2' c19 c20 HRg R5 B35 hs6
 go_upto_region 6 with fail
 clear c20' E5
 go_loopw [7,31] (fun p i wr=> ∃(k:Nat) (F:Option Addr) (cF:Nat) (PA:Option Addr) (cP:Nat) (rows:List Row4),p= .slice PA k cP∧i= .int .i64 (k:Int)∧k≤mm∧Hid (LR w3 wr s6 x0 x8 x16 kk (payP l fa) F cF PA cP rows k k)∧Hid (rows.length=k)∧Hid (∀i,i<k→icode h l n fa fh i=0)) (fun _ i _=>mm-natOf i)
 case atStart=>exact⟨0,none,0,none,0,[],rfl,rfl,Nat.zero_le _,L0,yH rfl,yH (fun i hi=>absurd hi (Nat.not_lt_zero i))⟩
 case round=>
  obtain⟨k,F,cF,PA,cP,rows,rfl,rfl,hk,HL,HLen,HFine⟩:=hrel
  have BW:=yH (show Below w.heap.size w wr from B3.out.trans (HL.out.old.mono (by omega)))
  have B3r:=yH (show Below w3.heap.size w3 wr from HS6.out▸HL.out.old)
  by_cases hlt:k<mm
  ·have d1:decide ((k:Int)<(mm:Int))=true:=by simp;omega
   obtain⟨bI,oI,rfl,hbI,ci1,ci2,hf1,hf2⟩:=(In2.older IT3.out B3r.out) k hlt
   obtain⟨ak,hak⟩: ∃ak:Nat,fa k=(ak:Int):=⟨(fa k).toNat,by omega⟩
   rw[hak]at ci1
   have HAK:=yH hak
   have HPk:=yH (show payP l fa k=bpay l ak 1 6 by unfold payP;rw[hak,Int.toNat_natCast])
   clear hak hf1
   generalize hg2:fh k=g2 at*
   have HG2:=yH hg2
   clear hg2
   go_upto_region 8 with fail
   have R6:=yH (show Blk (wr.alloc (.cells #[.int .u64 (ak:Int),.int .u64 g2] 268)) wr.heap.size [.int .u64 (ak:Int),.int .u64 g2] 268 from Blk.new wr _ _)
   have B6:=yH (show Below wr.heap.size wr (wr.alloc (.cells #[.int .u64 (ak:Int),.int .u64 g2] 268))from(Below.refl _ _).alloc (yR _) _)
   generalize wr.alloc (.cells #[.int .u64 (ak:Int),.int .u64 g2] 268)=w6 at*
   have BW6:=yH (BW.out.trans (B6.out.mono BW.out.size))
   have HL6:=yH (HL.out.below B6.out)
   have hs9:wr.heap.size<w6.heap.size:=R6.out.lt
   generalize wr.heap.size=s9 at*
   have k0:=R6.out.cell (i:=0) rfl
   have HH:=yH (hashed_any ak w6 (Vw.out w6 BW6.out) hcm h8)
   unfold ReadD at HH
   clear ci1 ci2 BW B3r B6
   by_cases hc:hcode9 h l n ak=0
   ·rw[hc]at HH
    have HBp:=yH (bpay_pos (hcode_fine hc))
    have HI1:=yH fun(e:bnum l ak 1 6 0≠fh k)=>icode_other (fh:=fh) HAK.out hc e
    have HI2:=yH fun(e:bnum l ak 1 6 0=fh k)=>icode_split (fh:=fh) HAK.out hc e
    have HPl:=yH (show(bpay l ak 1 6).length≤800000 from Nat.le_trans (bpay_le l ak 1 6) hll)
    rw[HG2.out]at HI1 HI2
    generalize bnum l ak 1 6 0=y0 at*
    generalize bnum l ak 1 6 1=y1 at*
    generalize bnum l ak 1 6 2=y2 at*
    generalize bnum l ak 1 6 3=y3 at*
    generalize bnum l ak 1 6 4=y4 at*
    generalize bnum l ak 1 6 5=y5 at*
    generalize bpay l ak 1 6=pl at*
    go_upto_region 9 with(first
     |(go_at_call 223;(refine HH.out.mono ?_);rintro e w7 ⟨hb7,⟨hne,_⟩|⟨_,A3,m3,c3,rfl,hy7,hl7,hm7⟩⟩;(exact absurd rfl hne);have B7:=yH hb7;have HY7:=yH hy7;have HC7:=yH hm7;clear hb7 hy7 hm7)
     |((with_reducible apply at_store (.tmp 10) (.tmp 38));refine wpList_store_row rfl 65 (.tmp 10) (.tmp 38) rfl w7.heap.size #[.int .u64 y0,.int .u64 y1,.int .u64 y2,.int .u64 y3,.int .u64 y4,.int .u64 y5,.slice A3 m3 c3] rfl rfl 65 dz (heap_alloc_new w7 _) (by kernel_rfl) rfl (by simp[Value.oneCell']) ?_)
     |fail)
    obtain⟨b3,o3,rfl,hb3,_⟩:=HY7.out.2 0 (by rw[←hl7]at*;exact HBp.out)
    have R8:=yH (show Blk ((w7.alloc (.cells dz 65)).setRow w7.heap.size #[.int .u64 y0,.int .u64 y1,.int .u64 y2,.int .u64 y3,.int .u64 y4,.int .u64 y5,.slice (some ⟨b3,o3,none⟩) m3 c3]) w7.heap.size [.int .u64 y0,.int .u64 y1,.int .u64 y2,.int .u64 y3,.int .u64 y4,.int .u64 y5,.slice (some ⟨b3,o3,none⟩) m3 c3] 65 from setRow_heap _ _ _ _ _ (0,0) (heap_alloc_new w7 _))
    have B78:=yH (show Below w7.heap.size w7 ((w7.alloc (.cells dz 65)).setRow w7.heap.size #[.int .u64 y0,.int .u64 y1,.int .u64 y2,.int .u64 y3,.int .u64 y4,.int .u64 y5,.slice (some ⟨b3,o3,none⟩) m3 c3])from below_setRow ((Below.refl _ _).alloc (yR _) _) (yR _) _)
    generalize (w7.alloc (.cells dz 65)).setRow w7.heap.size #[.int .u64 y0,.int .u64 y1,.int .u64 y2,.int .u64 y3,.int .u64 y4,.int .u64 y5,.slice (some ⟨b3,o3,none⟩) m3 c3]=w8 at*
    have B68:=yH (show Below w6.heap.size w6 w8 from B7.out.trans (B78.out.mono B7.out.size))
    have BW8:=yH (BW6.out.trans (B68.out.mono BW6.out.size))
    have HL8:=yH (HL6.out.below B68.out)
    have HY8:=yH (HY7.out.below B78.out (yR _))
    have k1:=(R6.out.below B68.out hs9).cell (i:=1) rfl
    have j0:=R8.out.cell (i:=0) rfl
    have hb38:b3<w8.heap.size:=yL hb3 B78.out.size
    have HFr:=yH (show s6<b3∧ownB F≠some b3∧ownB PA≠some b3 from by
     have h1:=HC7.out.2.2.2 b3 o3 rfl
     have h2:=HL6.out.lt
     refine⟨by omega,fun e=>?_,fun e=>?_⟩
     ·have:=(OwnE.ltB HL6.out.fld.2.2 b3 e).2;omega
     ·have:=(OwnE.ltB HL6.out.own b3 e).2;omega)
    have HS10:=yH (show ownB F≠some w7.heap.size∧ownB PA≠some w7.heap.size from⟨fun e=>by have:=(OwnE.ltB (HL6.out.below B7.out).fld.2.2 _ e).2;omega,fun e=>by have:=(OwnE.ltB (HL6.out.below B7.out).own _ e).2;omega⟩)
    have HCc:=yH (show m3≤c3∧c3≤maxLen from⟨HC7.out.2.1,HC7.out.2.2.1⟩)
    have hs10:s6≠w7.heap.size:=by have h1:=HL6.out.lt;have h2:=B7.out.size;omega
    generalize w7.heap.size=s10 at*
    clear HH k0 B7 HY7 HC7 B78 R6 HL6 HL BW6 B68
    by_cases he:y0=g2
    ·have d2:(y0==g2)=true:=by simpa using he
     have HI:=yH (HI2.out he)
     clear HI1 HI2
     go_upto_region 10 with(first
      |(go_at_call 222;(refine(need_yes 9 _).mono ?_);rintro e wn ⟨rfl,rfl⟩)
      |fail)
     clear d1 d2 k1 j0
     by_cases hsp:splitE pl=0
     ·have hI0:icode h l n fa fh k=0:=HI.out.trans hsp
      have HSp:=yH fun(W:World) (hW:Bytes W (some ⟨b3,o3,none⟩) pl)=>split_any (some ⟨b3,o3,none⟩) pl m3 c3 W hW hl7 (by have:=HPl.out;omega)
      unfold Splitted at HSp
      rw[hsp]at HSp
      have HI00:=yH hI0
      have HOk:=yH (show okP (splitN pl,splitV pl)from split_okP HY8.out.1 (by have:=HPl.out;omega))
      clear HI hsp hI0
      have HL8d:=yH (HL8.out.below (Below.refl w8.heap.size w8).drew)
      have R8d:=yH (R8.out.drew)
      have k19:=HL8d.out.rc.cell (i:=19) rfl
      have j6:=R8d.out.cell (i:=6) rfl
      have hs10l:=R8.out.lt
      have hs6l:=HL8.out.lt
      have hbuild:=yH fun(W:World)=>Blk.new W [.string (T (splitN pl)),.string (T (splitV pl))] 77
      go_cut []from 45 to 56 (fun wx=> ∃(F2:Option Addr) (cF2:Nat),Hid (LR w3 wx s6 x0 x8 x16 kk (payP l fa) F2 cF2 PA cP rows (k+1) k)∧Hid (Bytes wx (some ⟨b3,o3,none⟩) pl)∧Hid (Blk wx s10 [.int .u64 y0,.int .u64 y1,.int .u64 y2,.int .u64 y3,.int .u64 y4,.int .u64 y5,.slice (some ⟨b3,o3,none⟩) m3 c3] 65)∧Hid (s6<b3∧b3<wx.heap.size∧ownB F2≠some b3∧ownB PA≠some b3))
      case first=>
       go_region_law (first
        |(refine step_append_elt_at pairElt (o:=⟨some 54,_,_,_,_,_⟩) rfl (.tmp 46) (.tmp 53) rfl (s6+1) F k cF (cellsP (prsL (payP l fa) k)) rfl (HL12.out.fld.2.2) ⟨w11.heap.size,0,none⟩ 1 1 [.string (T (splitN pl)),.string (T (splitV pl))] rfl rfl (Blk.news (hbuild.out w11)) (by intro u hu;simp at hu;rcases hu with rfl|rfl<;>rfl) (by omega) (by omega) (by unfold maxLen;omega) ?_;intro F2 cF2 w13 ho13 hg13 hat13;have HLF:=yH (LR.field HL12.out (by rw[HPk.out];exact HOk.out) (by rw[HPk.out];exact ho13) hg13 hat13);have hsz13:=hg13.size;have HF2:=yH (show ownB F2≠some b3 from fun e=>by rcases hat13 with e1|e1;(exact HFr.out.2.1 (e1▸e));rw[e1]at e;injection e with e;have:=HB12.out.size;omega);have HYF:=yH (show Bytes (w13.setCell ⟨s6,19,none⟩ (.slice F2 (k+1) cF2)) (some ⟨b3,o3,none⟩) pl from bytes_keptB HY12.out (by simpa using hsz13) (fun b off e hb=>by injection e with e;injection e with e1 e2;subst e1;exact(Below.heap_setCell w13 ⟨s6,19,none⟩ _ _ (Nat.ne_of_gt HFr.out.1)).trans (hg13.block _ hb (fun e=>HFr.out.2.1 e.symm))));have RF:=yH (show Blk (w13.setCell ⟨s6,19,none⟩ (.slice F2 (k+1) cF2)) s10 [.int .u64 y0,.int .u64 y1,.int .u64 y2,.int .u64 y3,.int .u64 y4,.int .u64 y5,.slice (some ⟨b3,o3,none⟩) m3 c3] 65 from((Below.heap_setCell w13 ⟨s6,19,none⟩ _ _ hs10.symm).trans (hg13.block _ R12.out.lt (fun e=>HS10.out.1 e.symm))).trans R12.out);have n19:=(show Blk w13 s6 _ _ from(hg13.block s6 HL12.out.lt (fun e=>by have:=(OwnE.ltB HL12.out.fld.2.2 s6 e.symm).1;omega)).trans HL12.out.rc).cell (i:=19) rfl;have z19:=(show Blk w13 s6 _ _ from(hg13.block s6 HL12.out.lt (fun e=>by have:=(OwnE.ltB HL12.out.fld.2.2 s6 e.symm).1;omega)).trans HL12.out.rc).frozen 19;clear ho13 hg13 hat13)
        |(go_simp;go_at_call 190;(refine(HSp.out _ HY8.out.drew).mono ?_);rintro e w9 ⟨rfl,hb9⟩;have HB9:=yH ((Below.refl w8.heap.size w8).drew.trans hb9);have HL9:=yH (HL8d.out.below hb9);have p19:=HL9.out.rc.cell (i:=19) rfl;have HY9:=yH (HY8.out.below HB9.out (yR _));have R9:=yH (R8.out.below HB9.out hs10l);clear hb9)
        |(go_simp;go_at_call 224;(refine(gotp_yes _ _ w9).mono ?_);rintro e w11 ⟨rfl,hb11⟩;have HB11:=yH (HB9.out.trans (hb11.mono HB9.out.size));have HL11:=yH (HL9.out.below hb11);have q19:=HL11.out.rc.cell (i:=19) rfl;have HB12:=yH (HB11.out.alloc HB11.out.size (.cells #[.string (T (splitN pl)),.string (T (splitV pl))] 77));have HL12:=yH (HL11.out.below ((Below.refl _ _).alloc (yR _) (.cells #[.string (T (splitN pl)),.string (T (splitV pl))] 77)));have r19:=HL12.out.rc.cell (i:=19) rfl;have HY12:=yH (HY8.out.below HB12.out (yR _));have R12:=yH (R8.out.below HB12.out hs10l);clear hb11))
       all_goals
        go_wp2_with fail
        go_meet
        case rel=>exact⟨F2,cF2,HLF,HYF,RF,yH ⟨HFr.out.1,by have h1:=HYF.out.2 0 HBp.out;obtain⟨b9,o9,e9,h9,_⟩:=h1;injection e9 with e9;injection e9 with e9 _;rw[e9];exact h9,HF2.out,HFr.out.2.2⟩⟩
      case rest=>
       rename World=>w14
       obtain⟨F2,cF2,HL14,HY14,R14,HFr14⟩:=hcut
       have j6':=R14.out.cell (i:=6) rfl
       have hwk:IntKind.i64.wrap ((k:Int)+1)=((k+1:Nat):Int):=by rw[IntKind.wrap_i64];omega
       have HL15:=yH (HL14.out.below ((Below.refl _ _).alloc (yR _) (.cells #[.slice (some ⟨b3,o3,none⟩) m3 c3] 24)))
       have HY15:=yH (HY14.out.below ((Below.refl _ _).alloc (yR _) (.cells #[.slice (some ⟨b3,o3,none⟩) m3 c3] 24)) (yR _))
       have hsz15:w14.heap.size<(w14.alloc (.cells #[.slice (some ⟨b3,o3,none⟩) m3 c3] 24)).heap.size:=by simp
       go_wp2_with(first
        |(at_builtin;refine wpList_append_elt_at Yb.rowElt rfl (.tmp 56) (.tmp 59) rfl (s6+1) PA k cP (rows.map Row4.v) rfl HL15.out.own ⟨w14.heap.size,0,none⟩ 1 1 [.slice (some ⟨b3,o3,none⟩) m3 c3] rfl rfl (Blk.news (Blk.new w14 _ _)) (by intro u hu;simp at hu;rw[hu];rfl) (by omega) (by omega) (by unfold maxLen;omega) ?_;intro PA2 cP2 w16 ho16 hg16 hat16;have HL16:=yH (LR.payload HL15.out ⟨b3,o3,m3,c3⟩ HLen.out (by rw[HPk.out];exact⟨HY15.out,hl7,HCc.out.1,HCc.out.2,show m3≤800000 from by have:=HPl.out;omega⟩) ⟨HFr14.out.1,Nat.lt_trans HFr14.out.2.1 hsz15,HFr14.out.2.2⟩ ho16 hg16 hat16);clear ho16 hg16 hat16)
        |fail)
       go_roundw
       case rel=>exact⟨k+1,F2,cF2,PA2,cP2,rows++ [⟨b3,o3,m3,c3⟩],rfl,rfl,by omega,HL16,yH (by rw[List.length_append,HLen.out];rfl),yH (fun i hi=>by rcases Nat.lt_or_ge i k with h1|h1;(exact HFine.out i h1);have e:i=k:=by {omega};subst e;exact HI00.out)⟩
       case measure=>simp[natOf];omega
     ·have hrc:=HRC.out.c rfl (by omega) k hlt HFine.out (by rw[HI.out];exact hsp)
      rw[HI.out]at hrc
      have HRc:=yH hrc
      clear hrc
      have HSp:=yH (split_any (some ⟨b3,o3,none⟩) pl m3 c3 w8.drew HY8.out.drew hl7 (by have:=HPl.out;omega))
      unfold Splitted at HSp
      have HL8d:=yH (HL8.out.below (Below.refl w8.heap.size w8).drew)
      have R8d:=yH (R8.out.drew)
      have hs10l:=R8.out.lt
      have Sd:=yH (show w8.drew.cell? ⟨s6,19,none⟩=some (.slice F k cF)∧w8.drew.cell? ⟨s10,6,none⟩=some (.slice (some ⟨b3,o3,none⟩) m3 c3)from⟨HL8d.out.rc.cell (i:=19) rfl,R8d.out.cell (i:=6) rfl⟩)
      generalize splitE pl=sc at*
      refine wp_region_held_drew (S:=fun W:World=>W.cell? ⟨s6,19,none⟩=some (.slice F k cF)∧W.cell? ⟨s10,6,none⟩=some (.slice (some ⟨b3,o3,none⟩) m3 c3)) (by kernel_rfl) (by exact Sd.out) (fun hHeld=>?_)
      refine tk (i:=0) (oi:=⟨some 45,_,_,_,_,_⟩) (v:=?_) rfl (Or.inl ⟨by rfl,?_⟩) ?_
      rotate_left
      ·intro W hSw;obtain⟨x19,x6⟩:=hSw;go_simp;try (with_reducible rfl)
      try simp only[Act.put,sA,sZ,sS]
      refine tk (i:=1) (oi:=⟨some 46,_,_,_,_,_⟩) (v:=?_) rfl (Or.inl ⟨by rfl,?_⟩) ?_
      rotate_left
      ·intro W hSw;obtain⟨x19,x6⟩:=hSw;go_simp;try (with_reducible rfl)
      try simp only[Act.put,sA,sZ,sS]
      refine tk (i:=2) (oi:=⟨some 47,_,_,_,_,_⟩) (v:=?_) rfl (Or.inl ⟨by rfl,?_⟩) ?_
      rotate_left
      ·intro W hSw;obtain⟨x19,x6⟩:=hSw;go_simp;try (with_reducible rfl)
      try simp only[Act.put,sA,sZ,sS]
      refine tk (i:=3) (oi:=⟨some 48,_,_,_,_,_⟩) (v:=?_) rfl (Or.inl ⟨by rfl,?_⟩) ?_
      rotate_left
      ·intro W hSw;obtain⟨x19,x6⟩:=hSw;go_simp;try (with_reducible rfl)
      try simp only[Act.put,sA,sZ,sS]
      refine wpAnyH_ready (rs:=[4]) (by kernel_rfl) (by simp) ?_
      refine AllReadyH.cons (o:=⟨some 49,_,_,_,_,_⟩) rfl (fun K hK=>?_) AllReadyH.nil
      go_simp
      ((refine HSp.out.mono ?_);rintro e w9 ⟨rfl,hb9⟩;have HB9:=yH ((Below.refl w8.heap.size w8).drew.trans hb9);have S9:=yH (show w9.cell? ⟨s6,19,none⟩=some (.slice F k cF)∧w9.cell? ⟨s10,6,none⟩=some (.slice (some ⟨b3,o3,none⟩) m3 c3)from⟨(HL8d.out.below hb9).rc.cell (i:=19) rfl,(R8.out.below HB9.out hs10l).cell (i:=6) rfl⟩);clear hb9)
      try go_wp2_with fail
      refine hK.out _ _ (by exact S9.out) (fun hHeld=>?_)
      clear hK K
      try simp only[Act.put,sA,sZ,sS]
      refine tk (i:=5) (oi:=⟨some 50,_,_,_,_,_⟩) (v:=?_) rfl (Or.inl ⟨by rfl,?_⟩) ?_
      rotate_left
      ·intro W hSw;obtain⟨x19,x6⟩:=hSw;go_simp;try (with_reducible rfl)
      try simp only[Act.put,sA,sZ,sS]
      refine tk (i:=6) (oi:=⟨some 51,_,_,_,_,_⟩) (v:=?_) rfl (Or.inl ⟨by rfl,?_⟩) ?_
      rotate_left
      ·intro W hSw;obtain⟨x19,x6⟩:=hSw;go_simp;try (with_reducible rfl)
      try simp only[Act.put,sA,sZ,sS]
      refine wpAnyH_ready (rs:=[7]) (by kernel_rfl) (by simp) ?_
      refine AllReadyH.cons (o:=⟨some 52,_,_,_,_,_⟩) rfl (fun K hK=>?_) AllReadyH.nil
      go_simp
      ((refine(gotp_no _ _ _ hsp w9).mono ?_);rintro e w11 ⟨rfl,hb11⟩;exact⟨rfl,BW8.out.trans ((HB9.out.trans (hb11.mono HB9.out.size)).mono BW8.out.size),.inl ⟨by rw[HRc.out];exact hsp,by rw[HRc.out]⟩⟩)
    ·have d2:(y0==g2)=false:=by simpa using he
     have HI:=yH (HI1.out he)
     have hrc:=HRC.out.c rfl (by omega) k hlt HFine.out (by rw[HI.out];decide)
     rw[HI.out]at hrc
     have HRc:=yH hrc
     clear hrc HI1 HI2
     go_wp2_with(first
      |(go_at_call 222;(refine(need_no 9 _).mono ?_);rintro e wn ⟨rfl,rfl⟩)
      |fail)
     exact⟨rfl,BW8.out,.inl ⟨by rw[HRc.out];decide,by rw[HRc.out]⟩⟩
   ·have HI:=yH (icode_hash (fh:=fh) HAK.out hc)
    have hrc:=HRC.out.c rfl (by omega) k hlt HFine.out (by rw[HI.out];exact hc)
    rw[HI.out]at hrc
    have HRc:=yH hrc
    clear hrc
    generalize hcode9 h l n ak=hcd at*
    go_wp2_with(first
     |(go_at_call 223;(refine HH.out.mono ?_);rintro e w7 ⟨hb7,⟨_,rfl⟩|⟨hne,_⟩⟩;rotate_left;(exact absurd hne hc);have B7:=yH hb7;clear hb7)
     |fail)
    exact⟨rfl,BW6.out.trans (B7.out.mono BW6.out.size),.inl ⟨by rw[HRc.out];exact hc,by rw[HRc.out]⟩⟩
  ·have hkm:k=mm:=by omega
   subst hkm
   have d1:decide ((k:Int)<(k:Int))=false:=by simp
   have Er:=yH (R3.out.below B3r.out (by have:=HS6.out;omega))
   have HX:=yH (show True∧Calls Tryz.prog 225 #[.slice PA k cP] wr.drew fun e w'=>e= .returned (.int .u64 ((xr (rowsL (payP l fa) k):Nat):Int))∧Below wr.drew.heap.size wr.drew w' from by
    obtain⟨Ax,Lx,Cx,hx1,hx2⟩:=LR.inRows (HL.out.below (Below.refl wr.heap.size wr).drew) HLen.out
    exact⟨trivial,xor_any PA k cP Ax Lx Cx _ _ hx1 (by omega) hx2⟩)
   have Sd:=yH (show wr.drew.cell? ⟨s5,19,none⟩=some (.int .u64 x40)from(ent_cell Er.out.drew).2.2.2.1)
   have HXD:=yH fun(e:x40≠((xr (rowsL (payP l fa) k):Nat):Int))=>HRC.out.d rfl (by omega) HFine.out e
   have HXE:=yH fun(e:x40=((xr (rowsL (payP l fa) k):Nat):Int))=>HRC.out.e rfl (by omega) HFine.out e
   have Z0:=yH ((BW.out.trans (Below.refl _ _)).size)
   have Zr:=yH ((B3r.out.block w.heap.size (by have:=HS6.out;omega)).trans Z3.out)
   generalize ((xr (rowsL (payP l fa) k):Nat):Int)=xx at*
   go_upto_region 13 with fail
   by_cases he:x40=xx
   ·have d2:(x40==xx)=true:=by simpa using he
    have HRc:=yH (HXE.out he)
    refine wp_region_held_drew (S:=fun W:World=>W.cell? ⟨s5,19,none⟩=some (.int .u64 x40)) (by kernel_rfl) (by exact Sd.out) (fun hHeld=>?_)
    refine tk (i:=0) (oi:=⟨some 62,_,_,_,_,_⟩) (v:=?_) rfl (Or.inl ⟨by rfl,?_⟩) ?_
    rotate_left
    ·intro W hSw;have x19:=hSw;go_simp;try (with_reducible rfl)
    try simp only[Act.put,sA,sZ,sS]
    refine tk (i:=1) (oi:=⟨some 63,_,_,_,_,_⟩) (v:=?_) rfl (Or.inl ⟨by rfl,?_⟩) ?_
    rotate_left
    ·intro W hSw;have x19:=hSw;go_simp;try (with_reducible rfl)
    try simp only[Act.put,sA,sZ,sS]
    refine tk (i:=2) (oi:=⟨some 64,_,_,_,_,_⟩) (v:=?_) rfl (Or.inl ⟨by rfl,?_⟩) ?_
    rotate_left
    ·intro W hSw;have x19:=hSw;go_simp;try (with_reducible rfl)
    try simp only[Act.put,sA,sZ,sS]
    refine wpAnyH_ready (rs:=[3]) (by kernel_rfl) (by simp) ?_
    refine AllReadyH.cons (o:=⟨some 65,_,_,_,_,_⟩) rfl (fun K hK=>?_) AllReadyH.nil
    go_simp
    ((refine(HX.out.2).mono ?_);rintro e w7 ⟨rfl,hb7⟩;have HB7:=yH ((Below.refl wr.heap.size wr).drew.trans hb7);have S7:=yH (show w7.cell? ⟨s5,19,none⟩=some (.int .u64 x40)from(ent_cell (Er.out.below HB7.out Er.out.lt)).2.2.2.1);clear hb7)
    try go_wp2_with fail
    refine hK.out _ _ (by exact S7.out) (fun hHeld=>?_)
    clear hK K
    try simp only[Act.put,sA,sZ,sS]
    refine tk (i:=4) (oi:=⟨some 66,_,_,_,_,_⟩) (v:=?_) rfl (Or.inl ⟨by rfl,?_⟩) ?_
    rotate_left
    ·intro W hSw;have x19:=hSw;go_simp;try (with_reducible rfl)
    try simp only[Act.put,sA,sZ,sS]
    refine wpAnyH_ready (rs:=[5]) (by kernel_rfl) (by simp) ?_
    refine AllReadyH.cons (o:=⟨some 67,_,_,_,_,_⟩) rfl (fun K hK=>?_) AllReadyH.nil
    go_simp
    ((refine(need_yes 10 _).mono ?_);rintro e wn ⟨rfl,rfl⟩)
    try go_wp2_with fail
    refine hK.out _ _ (by exact S7.out) (fun hHeld=>?_)
    clear hK K
    try simp only[Act.put,sA,sZ,sS]
    refine wpAnyH_done (by kernel_rfl) ?_ _
    have HL7:=yH (HL.out.below HB7.out)
    have Z7:=yH ((HB7.out.block _ (yL (by have:=HS6.out;omega) B3r.out.size)).trans Zr.out)
    go_wp2_with(first
     |((with_reducible apply at_slot 68);refine wpList_load_row rfl 74 (.tmp 6) rfl s6 rfl 74 (recL x0 x8 x16 kk (.slice F k cF)).toArray (0,0) _ HL7.out.rc Tryz.underlying74 rfl (recInfo _ _ _ _ _) ?_)
     |((with_reducible apply at_store (.tmp 4) (.tmp 68));refine wpList_store_row rfl 74 (.tmp 4) (.tmp 68) rfl w.heap.size (recL x0 x8 x16 kk (.slice F k cF)).toArray rfl rfl 74 zR Z7.out (recInfo _ _ _ _ _) rfl (recL_all _ _ _ _ _ _ _) ?_)
     |fail)
    refine bodyPost_ret (v:= .agg (recL x0 x8 x16 kk (.slice F k cF)).toArray) (by exact results_cell_row Tryz.results183 _ _ w.heap.size 74 _ (0,0) _ rfl (setRow_heap _ w.heap.size _ _ _ (0,0) Z7.out) Tryz.underlying74 rfl (recInfo _ _ _ _ _)) rfl ?_
    have b5:=below_setRow (B:=w.heap.size) (BW.out.trans (HB7.out.mono BW.out.size)) (yR _) (recL x0 x8 x16 kk (.slice F k cF)).toArray
    have hFb:NewIn (w.heap.size+1) F:=fun b off e=>by have h1:=(OwnE.ltB HL7.out.fld.2.2 b (by rw[e];rfl)).1;have:=HS6.out;omega
    exact⟨b5,.inr ⟨HRc.out,F,cF,rfl,Prs.keptB (HL7.out.fld.prs) (by simp) (fun b off e hb=>setRow_other _ w.heap.size b _ (by have h1:=hFb b off e;omega)),fun b off e=>by have h1:=hFb b off e;omega⟩⟩
   ·have d2:(x40==xx)=false:=by simpa using he
    have HRc:=yH (HXD.out he)
    refine wp_region_held_drew (S:=fun W:World=>W.cell? ⟨s5,19,none⟩=some (.int .u64 x40)) (by kernel_rfl) (by exact Sd.out) (fun hHeld=>?_)
    refine tk (i:=0) (oi:=⟨some 62,_,_,_,_,_⟩) (v:=?_) rfl (Or.inl ⟨by rfl,?_⟩) ?_
    rotate_left
    ·intro W hSw;have x19:=hSw;go_simp;try (with_reducible rfl)
    try simp only[Act.put,sA,sZ,sS]
    refine tk (i:=1) (oi:=⟨some 63,_,_,_,_,_⟩) (v:=?_) rfl (Or.inl ⟨by rfl,?_⟩) ?_
    rotate_left
    ·intro W hSw;have x19:=hSw;go_simp;try (with_reducible rfl)
    try simp only[Act.put,sA,sZ,sS]
    refine tk (i:=2) (oi:=⟨some 64,_,_,_,_,_⟩) (v:=?_) rfl (Or.inl ⟨by rfl,?_⟩) ?_
    rotate_left
    ·intro W hSw;have x19:=hSw;go_simp;try (with_reducible rfl)
    try simp only[Act.put,sA,sZ,sS]
    refine wpAnyH_ready (rs:=[3]) (by kernel_rfl) (by simp) ?_
    refine AllReadyH.cons (o:=⟨some 65,_,_,_,_,_⟩) rfl (fun K hK=>?_) AllReadyH.nil
    go_simp
    ((refine(HX.out.2).mono ?_);rintro e w7 ⟨rfl,hb7⟩;have HB7:=yH ((Below.refl wr.heap.size wr).drew.trans hb7);have S7:=yH (show w7.cell? ⟨s5,19,none⟩=some (.int .u64 x40)from(ent_cell (Er.out.below HB7.out Er.out.lt)).2.2.2.1);clear hb7)
    try go_wp2_with fail
    refine hK.out _ _ (by exact S7.out) (fun hHeld=>?_)
    clear hK K
    try simp only[Act.put,sA,sZ,sS]
    refine tk (i:=4) (oi:=⟨some 66,_,_,_,_,_⟩) (v:=?_) rfl (Or.inl ⟨by rfl,?_⟩) ?_
    rotate_left
    ·intro W hSw;have x19:=hSw;go_simp;try (with_reducible rfl)
    try simp only[Act.put,sA,sZ,sS]
    refine wpAnyH_ready (rs:=[5]) (by kernel_rfl) (by simp) ?_
    refine AllReadyH.cons (o:=⟨some 67,_,_,_,_,_⟩) rfl (fun K hK=>?_) AllReadyH.nil
    go_simp
    ((refine(need_no 10 _).mono ?_);rintro e wn ⟨rfl,rfl⟩;exact⟨rfl,BW.out.trans (HB7.out.mono BW.out.size),.inl ⟨by rw[HRc.out];decide,by rw[HRc.out]⟩⟩)
end Rn
end Go.Proofs.YtiddkgcafpaekaaGreat
