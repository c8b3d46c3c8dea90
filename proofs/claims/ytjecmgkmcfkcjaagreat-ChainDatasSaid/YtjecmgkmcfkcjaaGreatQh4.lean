/-
  Texts beneath the proof.
-/
import Derived.Lib.SliceRun
import Derived.Maps.AppendAt
import Derived.Deep.DeepMust
import Derived.Deep.Cut
import Derived.Test.YtjecmgkmcfkcjaaGreatQh3
set_option linter.unusedVariables false
set_option linter.unusedSimpArgs false
set_option maxRecDepth 100000
set_option maxHeartbeats 2000000
open Go.ChangeShapes Go.WideShapes Go.ChangeAt Go.RowKit
namespace Go.Proofs.YtjecmgkmcfkcjaaGreat
namespace Gn
open Bytes8 Blk8 Own8 LeNum RefB Ob Od Rows2
def ints (f:Nat→Int)(k:Nat):List Int:=(List.range k).map f
theorem ints_succ (f:Nat→Int)(k:Nat):ints f (k+1)=ints f k++ [f k]:=by simp[ints,List.range_succ]
theorem ints_len (f:Nat→Int)(k:Nat):(ints f k).length=k:=by simp[ints]
theorem ints_nums (f:Nat→Int)(k:Nat):nums (ints f (k+1))=nums (ints f k)++lowB (f k) 8:=by rw[ints_succ,nums_snoc]
theorem rnums_in (Ai:Option Addr)(n cap:Nat)(f:Nat→Int)(w:World)(hi:InInts .u64 w Ai n f)(hmax:n≤100000):
 Calls Tryz.prog 144 #[.slice Ai n cap] w fun e w'=> ∃A c,e= .returned (.slice A (8*n) c)∧Own w' w.heap.size A (8*n) c (nums (ints f n))∧Below w.heap.size w w':=by
 have HI:=Lib.hid hi
 clear hi
 go_enter Tryz.func144,Tryz.ntmps144
 go_wp2
 go_loopw [3,4] (fun s i wr=> ∃(k:Nat) (A:Option Addr) (c:Nat),k≤n∧i= .int .i64 (k:Int)∧s= .slice A (8*k) c∧Hid (Own wr w.heap.size A (8*k) c (nums (ints f k)))∧Hid (Below w.heap.size w wr)) (fun _ i _=>n-(intOf i).toNat)
 case atStart=>exact⟨0,none,0,Nat.zero_le _,rfl,rfl,Own.nil w _ (Nat.le_refl _),Below.refl _ _⟩
 case round=>
  obtain⟨k,A,c,hk,rfl,rfl,ho,hbel⟩:=hrel
  by_cases hlt2:k<n
  ·obtain⟨b,off,rfl,hb,hc,hw⟩:=(HI.out.below hbel.out) k hlt2
   obtain⟨x0,x1⟩:=bounds_u64 hw
   have HN:=Lib.hid (ints_nums f k)
   have hsz:=hbel.out.size
   generalize f k=x at*
   have HLo:=Lib.hid fun(W:World)=>rlow_at x 8 8 W x0 x1 (by decide) rfl
   go_wp2_with(first|(go_at_call 143;(with_reducible refine(HLo.out _).mono ?_);rintro e w2 ⟨A2,c2,rfl,ho2,hbel2⟩;have HO2:=Lib.hid ho2;have HB2:=Lib.hid hbel2;clear ho2 hbel2)|(at_builtin;refine wpList_append_bytes rfl (.tmp 11) (.tmp 16) rfl w.heap.size A (8*k) c (nums (ints f k)) rfl (ho.out.kept HB2.out (Nat.le_refl _)) A2 8 c2 _ rfl HO2.out.bytes (lowB_len _ _) (by omega) ?_;intro A3 c3 w3 ho3 hbel3;have HO3:=Lib.hid ho3;have HB3:=Lib.hid hbel3;clear ho3 hbel3))
   go_roundw
   case rel=>
    refine⟨k+1,A3,c3,by omega,by go_num,rfl,?_,Lib.hid ((hbel.out.trans (HB2.out.mono hsz)).trans HB3.out)⟩
    rw[HN.out]
    exact HO3
   case measure=>simp[intOf];omega
  ·obtain rfl:k=n:=by omega
   go_wp2
   go_ret
   exact⟨A,c,rfl,ho.out,hbel.out⟩
end Gn
namespace Cl8
end Cl8
namespace OwnA
open Bytes8 Own8
def ownB (A:Option Addr):Option Nat:=A.map (·.block)
theorem ownB_eq (A:Option Addr)(n c:Nat):(Value.slice A n c).ownBlock=ownB A:=by cases A<;>rfl
theorem own_kept {w w':World}{base n c:Nat}{row:Option Nat}{A:Option Addr}{l:List Int}(h:Own w base A n c l)(hg:w.grownBy w' row)(hne: ∀g,ownB A=some g→row≠some g):Own w' base A n c l:=by
 refine⟨h.1,h.2.1,Nat.le_trans h.2.2.1 hg.size,h.2.2.2.1,?_⟩
 rcases h.2.2.2.2 with h1|⟨k,cap,cur,h1,h2,h3,h4⟩
 ·exact .inl h1
 ·refine .inr ⟨k,cap,cur,h1,h2,?_,h4⟩
  have hk:k<w.heap.size:=by
   rcases Nat.lt_or_ge k w.heap.size with h|h
   ·exact h
   ·rw[Array.getElem?_eq_none h]at h3;cases h3
  injection h1 with e1 e2 e3
  subst e1
  rw[hg.block k hk (fun e=>hne k rfl e.symm)];exact h3
theorem run_append_at (w:World)(ty:TypeId)(base:Nat)(A:Option Addr)(n c:Nat)(l:List Int)(ho:Own w base A n c l)(A2:Option Addr)(m c2:Nat)(ys:List Int)(hb:Bytes w A2 ys)(hm:ys.length=m)(hsz:n+m≤70368744177664):
 ∃A' c' w',(Builtin.append_ #[23,23] ty #[.slice A n c,.slice A2 m c2]).run Tryz.prog w= .ok (.slice A' (n+m) c') w'∧Own w' base A' (n+m) c' (l++ys)∧w.grownBy w' (ownB A)∧(ownB A'=ownB A∨ownB A'=some w.heap.size):=by
 obtain⟨i,hi,hzz⟩:=Option.map_eq_some_iff.1 info8
 simp only[Prod.mk.injEq]at hzz
 obtain⟨hz,hs,hby⟩:=hzz
 have hown:=ho.2.2.2
 have done: ∀(v':Value) (w':World),w'.ownsRow base 5 1 v' (n+m) (l.map (Value.int .u8)++ys.map (Value.int .u8))→w.grownBy w' (Value.slice A n c).ownBlock→(v'.ownBlock=(Value.slice A n c).ownBlock∨v'.ownBlock=some w.heap.size)→
  ∃A' c',v'= .slice A' (n+m) c'∧Own w' base A' (n+m) c' (l++ys)∧w.grownBy w' (ownB A)∧(ownB A'=ownB A∨ownB A'=some w.heap.size):=by
  intro v' w' h2 h3 h4
  have hsize:=h3.size
  rw[ownB_eq]at h3 h4
  have hL:(l++ys).length=n+m:=by rw[List.length_append,ho.2.1,hm]
  rw[←List.map_append]at h2
  rcases h2.2 with⟨rfl,h0⟩|⟨g,cap,cur,rfl,_⟩
  ·rw[h0]at h2 hL⊢
   rw[ownB_eq]at h4
   exact⟨none,0,rfl,⟨ho.1.app hb.1,hL,Nat.le_trans ho.2.2.1 hsize,h2⟩,h3,h4⟩
  ·rw[ownB_eq]at h4
   exact⟨_,_,rfl,⟨ho.1.app hb.1,hL,Nat.le_trans ho.2.2.1 hsize,h2⟩,h3,h4⟩
 have hlen:(ys.map (Value.int .u8)).length=m*1:=by simp[hm]
 by_cases h0:0<ys.length
 ·obtain⟨ad,rfl,hsrc⟩:=hb.source w (Below.refl _ _) h0
  obtain⟨v',w',hr,h2,h3,_,h4⟩:=run_append_own_at (P:=Tryz.prog) w base 23 ty 5 i (.int .u8 0) 1 1 Tryz.underlying23 hi hz hs hby rfl (by decide) _ n _ hown ad m c2 (ys.map (Value.int .u8)) hlen
   (fun j u hu=>by
     rw[List.getElem?_map]at hu
     obtain⟨x,hx,rfl⟩:=Option.map_eq_some_iff.1 hu
     exact hsrc j x hx) (ones ys) (by unfold maxLen;omega) (by omega) ho.2.2.1
  obtain⟨A',c',rfl,h5⟩:=done v' w' h2 h3 h4
  exact⟨A',c',w',hr,h5⟩
 ·obtain rfl:ys=[]:=List.eq_nil_of_length_eq_zero (by omega)
  obtain rfl:m=0:=by simpa using hm.symm
  cases A2 with
  |some ad=>
   obtain⟨v',w',hr,h2,h3,_,h4⟩:=run_append_own_at (P:=Tryz.prog) w base 23 ty 5 i (.int .u8 0) 1 1 Tryz.underlying23 hi hz hs hby rfl (by decide) _ n _ hown ad 0 c2 [] rfl
    (fun j u hu=>by simp at hu) (fun u hu=>by cases hu) (by unfold maxLen;omega) (by omega) ho.2.2.1
   obtain⟨A',c',rfl,h5⟩:=done v' w' h2 h3 h4
   exact⟨A',c',w',hr,h5⟩
  |none=>
   refine⟨A,c,w,?_,?_,World.grownBy.refl _ _,.inl rfl⟩
   ·rcases hown.2 with⟨he,h0'⟩|⟨g,cap,cur,he,_,_,hnc,_⟩
    ·injection he with e1 e2 e3
     subst e1;subst e2;subst e3
     simp[Builtin.append_,run_underlying Tryz.underlying23,sizeOf,typeInfo,hi,Builtin.lenOf,Builtin.firstCells]
    ·injection he with e1 e2 e3
     subst e1;subst e3
     simp[Builtin.append_,run_underlying Tryz.underlying23,sizeOf,typeInfo,hi,Builtin.lenOf,Builtin.firstCells,hnc,storeCells]
   ·rw[Nat.add_zero,List.append_nil];exact ho
end OwnA
namespace Dc
open Bytes8 Blk8 Own8 OwnA OwnE
theorem run_append_elt_at {E S:TypeId}{size bytes:Nat}{z:Value}(he:Elt E S size bytes z)(w:World)(ty:TypeId)(base:Nat)(A:Option Addr)(n c:Nat)(xs:List Value)(ho:OwnE E size w base A n c xs)(ad:Addr)(m c2:Nat)(news:List Value)(hl:news.length=m*size)
 (hnews: ∀j u,news[j]? =some u→w.cell? (ad.add j)=some u)(h1: ∀u∈news,u.oneCell'=true)(h63:n+m≤4611686018427387904)(hbytes:(n+m)*bytes≤140737488355328)(hml:n+m≤maxLen):
 ∃A' c' w',(Builtin.append_ #[S,S] ty #[.slice A n c,.slice (some ad) m c2]).run Tryz.prog w= .ok (.slice A' (n+m) c') w'∧OwnE E size w' base A' (n+m) c' (xs++news)∧w.grownBy w' (ownB A)∧(ownB A'=ownB A∨ownB A'=some w.heap.size):=by
 obtain⟨i,hi,hzz⟩:=Option.map_eq_some_iff.1 he.info
 simp only[Prod.mk.injEq]at hzz
 obtain⟨hz,hs,hby⟩:=hzz
 obtain⟨v',w',hr,h2,h3,h4,h5⟩:=run_append_own_at (P:=Tryz.prog) w base S ty E i z size bytes he.under hi hz hs hby he.zero he.pos _ n xs ho.2 ad m c2 news hl hnews h1 hml hbytes ho.1
 rw[ownB_eq]at h3 h5
 rcases h2.2 with⟨rfl,h0⟩|⟨g,cap,cur,rfl,_⟩
 ·rw[h0]at h2⊢
  rw[ownB_eq]at h5
  exact⟨none,0,w',hr,⟨Nat.le_trans ho.1 h3.size,h2⟩,h3,h5⟩
 ·rw[ownB_eq]at h5
  exact⟨_,_,w',hr,⟨Nat.le_trans ho.1 h3.size,h2⟩,h3,h5⟩
theorem wpList_append_elt_at {E S:TypeId}{size bytes:Nat}{z:Value}(he:Elt E S size bytes z){w:World}{ops:Array Oper}{rest:List Oper}{o:Oper}{a:Act}{Q:Exit→Act→World→Prop}(hgd:o.guard=none)(s x:Operand)
 (hop:o.op= .call {callee:= .builtin .append,args:= #[s,x],argTypes:= #[S,S]})
 (base:Nat)(A:Option Addr)(n c:Nat)(xs:List Value)(hs:a.eval s= .slice A n c)(ho:OwnE E size w base A n c xs)(ad:Addr)(m c2:Nat)(news:List Value)(hx:a.eval x= .slice (some ad) m c2)(hl:news.length=m*size)
 (hnews: ∀j u,news[j]? =some u→w.cell? (ad.add j)=some u)(h1: ∀u∈news,u.oneCell'=true)(h63:n+m≤4611686018427387904)(hbytes:(n+m)*bytes≤140737488355328)(hml:n+m≤maxLen)
 (h: ∀A' c' w',OwnE E size w' base A' (n+m) c' (xs++news)→w.grownBy w' (ownB A)→(ownB A'=ownB A∨ownB A'=some w.heap.size)→wpList Tryz.prog ops Q rest (a.put o.dst (.slice A' (n+m) c')) w'):wpList Tryz.prog ops Q (o::rest) a w:=
 wpList_plain hgd fun _ hK=>by
  obtain⟨A',c',w',hr,h2,h3,h4⟩:=run_append_elt_at he w o.type base A n c xs ho ad m c2 news hl hnews h1 h63 hbytes hml
  unfold Oper.wp execOp
  simp only[hop,resolve,invoke,builtin,Sem.run_bind,Sem.run_pure,Result.andThen_ok,List.map_toArray,List.map_cons,List.map_nil,hs,hx,hr]
  exact hK _ _ (h A' c' w' h2 h3 h4)
theorem OwnE.keptG {E:TypeId}{size:Nat}{w w':World}{base n c:Nat}{row:Option Nat}{A:Option Addr}{xs:List Value}(h:OwnE E size w base A n c xs)(hg:w.grownBy w' row)(hne: ∀g,ownB A=some g→row≠some g):OwnE E size w' base A n c xs:=by
 refine⟨Nat.le_trans h.1 hg.size,h.2.1,?_⟩
 rcases h.2.2 with h1|⟨k,cap,cur,h1,h2,h3,h4⟩
 ·exact .inl h1
 ·refine .inr ⟨k,cap,cur,h1,h2,?_,h4⟩
  have hk:k<w.heap.size:=by
   rcases Nat.lt_or_ge k w.heap.size with h|h
   ·exact h
   ·rw[Array.getElem?_eq_none h]at h3;cases h3
  injection h1 with e1 e2 e3
  subst e1
  rw[hg.block k hk (fun e=>hne k rfl e.symm)];exact h3
theorem OwnE.ltB {E:TypeId}{size:Nat}{w:World}{base n c:Nat}{A:Option Addr}{xs:List Value}(h:OwnE E size w base A n c xs): ∀g,ownB A=some g→base≤g∧g<w.heap.size:=fun g hg=>h.lt g (by rw[ownB_eq];exact hg)
end Dc
namespace Sa
open Bytes8 Blk8 Hm Ha
theorem round_any (p q r s:Int)(w:World)(h:(⟨p,q,r,s⟩:Quad).ok):
 Calls Tryz.prog 223 #[.agg #[.int .u64 p,.int .u64 q,.int .u64 r,.int .u64 s]] w fun e w'=>e= .returned (.agg #[.int .u64 (round ⟨p,q,r,s⟩).p,.int .u64 (round ⟨p,q,r,s⟩).q,.int .u64 (round ⟨p,q,r,s⟩).r,.int .u64 (round ⟨p,q,r,s⟩).s])∧Below w.heap.size w w':=by
 obtain⟨⟨p0,p1⟩,⟨q0,q1⟩,⟨r0,r1⟩,⟨s0,s1⟩⟩:=h
 simp only at p0 p1 q0 q1 r0 r1 s0 s1
 go_enter Tryz.func223,Tryz.ntmps223
 go_wp2
 go_quiet (fail)
 go_wp2_with(go_at_call 232;(with_reducible refine(rotl64 _ _ _ (by first|assumption|exact(b64 _ _ _).1|exact(rot64_bd _ _).1|exact(wrap64_bd _).1|omega) (by first|assumption|exact(b64 _ _ _).2|exact(rot64_bd _ _).2|exact(wrap64_bd _).2|omega) (by decide) (by decide)).mono ?_);rintro e w' ⟨rfl,rfl⟩)
 refine bodyPost_ret (v:= .agg #[.int .u64 (round ⟨p,q,r,s⟩).p,.int .u64 (round ⟨p,q,r,s⟩).q,.int .u64 (round ⟨p,q,r,s⟩).r,.int .u64 (round ⟨p,q,r,s⟩).s]) (by simp[results,Tryz.results223,go_sem,round,add64,xor64,IntKind.wrap_u64]) rfl ⟨rfl,?_⟩
 repeat (first|exact Below.refl _ _|refine Below.setCell ?_ (by simp) _|refine Below.alloc ?_ (by simp) _|refine below_drewN ?_ _)
theorem round_q (f:Quad)(w:World)(h:f.ok):
 Calls Tryz.prog 223 #[.agg #[.int .u64 f.p,.int .u64 f.q,.int .u64 f.r,.int .u64 f.s]] w fun e w'=>e= .returned (.agg #[.int .u64 (round f).p,.int .u64 (round f).q,.int .u64 (round f).r,.int .u64 (round f).s])∧Below w.heap.size w w':=round_any f.p f.q f.r f.s w h
theorem qplus_any (p q r s m:Int)(w:World)(h:(⟨p,q,r,s⟩:Quad).ok):
 Calls Tryz.prog 222 #[.agg #[.int .u64 p,.int .u64 q,.int .u64 r,.int .u64 s],.int .u64 m] w fun e w'=>e= .returned (.agg #[.int .u64 (quadPlus ⟨p,q,r,s⟩ m).p,.int .u64 (quadPlus ⟨p,q,r,s⟩ m).q,.int .u64 (quadPlus ⟨p,q,r,s⟩ m).r,.int .u64 (quadPlus ⟨p,q,r,s⟩ m).s])∧Below w.heap.size w w':=by
 have HR:=Lib.hid fun w=>round_any p q r (bits .xor .u64 s m) w ⟨h.1,h.2.1,h.2.2.1,b64 .xor s m⟩
 have HE:=Lib.hid (show quadPlus ⟨p,q,r,s⟩ m=⟨xor64 (round (round ⟨p,q,r,bits .xor .u64 s m⟩)).p m,(round (round ⟨p,q,r,bits .xor .u64 s m⟩)).q,(round (round ⟨p,q,r,bits .xor .u64 s m⟩)).r,(round (round ⟨p,q,r,bits .xor .u64 s m⟩)).s⟩from rfl)
 have HX:=Lib.hid (round_ok ⟨p,q,r,bits .xor .u64 s m⟩)
 generalize quadPlus ⟨p,q,r,s⟩ m=Z at*
 generalize round ⟨p,q,r,bits .xor .u64 s m⟩=X at*
 go_enter Tryz.func222,Tryz.ntmps222
 go_wp2_with(first|(go_at_call 223;(with_reducible refine(HR.out _).mono ?_);rintro e w1 ⟨rfl,hb1⟩;have hz1:=hb1.size;simp at hz1)|(go_at_call 223;(with_reducible refine(round_q X _ HX.out).mono ?_);rintro e w2 ⟨rfl,hb2⟩;have hz2:=hb2.size;have c0:w2.cell? ⟨w.heap.size,0,none⟩=some (.int .u64 p):=(hb2.cell (p:=⟨w.heap.size,0,none⟩) (by simp;omega)).trans ((hb1.cell (p:=⟨w.heap.size,0,none⟩) (by simp;omega)).trans (by go_simp));have f0:w2.frozen? ⟨w.heap.size,0,none⟩=false:=(hb2.frozen (p:=⟨w.heap.size,0,none⟩) (by simp;omega)).trans ((hb1.frozen (p:=⟨w.heap.size,0,none⟩) (by simp;omega)).trans (by go_simp));have d0:w2.cell? ⟨w.heap.size+1,0,none⟩=some (.int .u64 0):=(hb2.cell (p:=⟨w.heap.size+1,0,none⟩) (by simp;omega)).trans ((hb1.cell (p:=⟨w.heap.size+1,0,none⟩) (by simp)).trans (by go_simp));have h0:w2.frozen? ⟨w.heap.size+1,0,none⟩=false:=(hb2.frozen (p:=⟨w.heap.size+1,0,none⟩) (by simp;omega)).trans ((hb1.frozen (p:=⟨w.heap.size+1,0,none⟩) (by simp)).trans (by go_simp));have c1:w2.cell? ⟨w.heap.size,1,none⟩=some (.int .u64 q):=(hb2.cell (p:=⟨w.heap.size,1,none⟩) (by simp;omega)).trans ((hb1.cell (p:=⟨w.heap.size,1,none⟩) (by simp;omega)).trans (by go_simp));have f1:w2.frozen? ⟨w.heap.size,1,none⟩=false:=(hb2.frozen (p:=⟨w.heap.size,1,none⟩) (by simp;omega)).trans ((hb1.frozen (p:=⟨w.heap.size,1,none⟩) (by simp;omega)).trans (by go_simp));have d1:w2.cell? ⟨w.heap.size+1,1,none⟩=some (.int .u64 0):=(hb2.cell (p:=⟨w.heap.size+1,1,none⟩) (by simp;omega)).trans ((hb1.cell (p:=⟨w.heap.size+1,1,none⟩) (by simp)).trans (by go_simp));have h1:w2.frozen? ⟨w.heap.size+1,1,none⟩=false:=(hb2.frozen (p:=⟨w.heap.size+1,1,none⟩) (by simp;omega)).trans ((hb1.frozen (p:=⟨w.heap.size+1,1,none⟩) (by simp)).trans (by go_simp));have c2:w2.cell? ⟨w.heap.size,2,none⟩=some (.int .u64 r):=(hb2.cell (p:=⟨w.heap.size,2,none⟩) (by simp;omega)).trans ((hb1.cell (p:=⟨w.heap.size,2,none⟩) (by simp;omega)).trans (by go_simp));have f2:w2.frozen? ⟨w.heap.size,2,none⟩=false:=(hb2.frozen (p:=⟨w.heap.size,2,none⟩) (by simp;omega)).trans ((hb1.frozen (p:=⟨w.heap.size,2,none⟩) (by simp;omega)).trans (by go_simp));have d2:w2.cell? ⟨w.heap.size+1,2,none⟩=some (.int .u64 0):=(hb2.cell (p:=⟨w.heap.size+1,2,none⟩) (by simp;omega)).trans ((hb1.cell (p:=⟨w.heap.size+1,2,none⟩) (by simp)).trans (by go_simp));have h2:w2.frozen? ⟨w.heap.size+1,2,none⟩=false:=(hb2.frozen (p:=⟨w.heap.size+1,2,none⟩) (by simp;omega)).trans ((hb1.frozen (p:=⟨w.heap.size+1,2,none⟩) (by simp)).trans (by go_simp));have c3:w2.cell? ⟨w.heap.size,3,none⟩=some (.int .u64 (bits .xor .u64 s m)):=(hb2.cell (p:=⟨w.heap.size,3,none⟩) (by simp;omega)).trans ((hb1.cell (p:=⟨w.heap.size,3,none⟩) (by simp;omega)).trans (by go_simp));have f3:w2.frozen? ⟨w.heap.size,3,none⟩=false:=(hb2.frozen (p:=⟨w.heap.size,3,none⟩) (by simp;omega)).trans ((hb1.frozen (p:=⟨w.heap.size,3,none⟩) (by simp;omega)).trans (by go_simp));have d3:w2.cell? ⟨w.heap.size+1,3,none⟩=some (.int .u64 0):=(hb2.cell (p:=⟨w.heap.size+1,3,none⟩) (by simp;omega)).trans ((hb1.cell (p:=⟨w.heap.size+1,3,none⟩) (by simp)).trans (by go_simp));have h3:w2.frozen? ⟨w.heap.size+1,3,none⟩=false:=(hb2.frozen (p:=⟨w.heap.size+1,3,none⟩) (by simp;omega)).trans ((hb1.frozen (p:=⟨w.heap.size+1,3,none⟩) (by simp)).trans (by go_simp))))
 refine bodyPost_ret (v:= .agg #[.int .u64 (bits .xor .u64 (round X).p m),.int .u64 (round X).q,.int .u64 (round X).r,.int .u64 (round X).s]) (by simp[results,Tryz.results222,go_sem,d0,d1,d2,d3]) rfl ⟨by rw[HE.out];rfl,?_⟩
 have hb:Below w.heap.size w w2:=by
  refine Below.trans ?_ ((hb1.mono (B':=w.heap.size) (by simp;omega)).trans (hb2.mono (B':=w.heap.size) (by omega)))
  repeat (first|exact Below.refl _ _|refine Below.setCell ?_ (by simp) _|refine Below.alloc ?_ (by simp) _)
 repeat (first|(with_reducible exact hb)|refine Below.setCell ?_ (by simp) _)
theorem qplus_q (f:Quad)(m:Int)(w:World)(h:f.ok):
 Calls Tryz.prog 222 #[.agg #[.int .u64 f.p,.int .u64 f.q,.int .u64 f.r,.int .u64 f.s],.int .u64 m] w fun e w'=>e= .returned (.agg #[.int .u64 (quadPlus f m).p,.int .u64 (quadPlus f m).q,.int .u64 (quadPlus f m).r,.int .u64 (quadPlus f m).s])∧Below w.heap.size w w':=qplus_any f.p f.q f.r f.s m w h
end Sa
namespace Hd
open Bytes8 Blk8 Hm Ha Hb Hc
theorem look_nil_any (A:Option Addr)(cap:Nat)(w:World):
 Calls Tryz.prog 173 #[.slice A 0 cap] w fun e w'=>e= .returned (.int .u64 (lookS []))∧Below w.heap.size w w':=by
 have h0:(⟨3735928559,3735928559,3735928559⟩:Trio).ok:=by unfold Trio.ok;decide
 go_enter Tryz.func173,Tryz.ntmps173
 go_wp2_with(go_at_call 206;(with_reducible refine(answer_any _ _ _ _ h0).mono ?_);rintro e w1 ⟨rfl,hbel⟩)
 go_ret
 refine⟨ret_int (by decide+kernel),?_⟩
 have h1:=((Below.refl w.heap.size w).alloc (Nat.le_refl _) (.cells #[.int .u32 3735928559,.int .u32 3735928559,.int .u32 3735928559] 300))
 exact h1.trans (hbel.mono h1.size)
def Rest (w0:World)(g:Nat)(t:Trio)(w:World):Prop:=Blk w g [.int .u32 t.x,.int .u32 t.y,.int .u32 t.z] 300∧Below w0.heap.size w0 w
theorem w4_drop (l:List Int)(k o:Nat):w4 (l.drop k) o=w4 l (k+o):=by simp[w4,List.drop_drop]
theorem w4_take (l:List Int)(n o:Nat)(h:o+4≤n):w4 (l.take n) o=w4 l o:=by
 unfold w4
 rw[List.drop_take,List.take_take,Nat.min_eq_left (by omega)]
theorem plus3_drop (t:Trio)(l:List Int)(k:Nat):plus3 t (l.drop k) 0=plus3 t l k:=by
 simp only[plus3,w4_drop,Nat.add_zero]
theorem plus3_take (t:Trio)(l:List Int):plus3 t (l.take 12) 0=plus3 t l 0:=by
 simp only[plus3,w4_take l 12 0 (by omega),w4_take l 12 (0+4) (by omega),w4_take l 12 (0+8) (by omega)]
theorem plus_block (t:Trio)(a:Option Addr)(l:List Int)(cap:Nat)(w:World)(hb:Bytes w a l)(hlen:12≤l.length)(ht:t.ok):
 Calls Tryz.prog 207 #[.agg #[.int .u32 t.x,.int .u32 t.y,.int .u32 t.z],.slice a 12 cap] w fun e w'=>e= .returned (.agg #[.int .u32 (plus3 t l 0).x,.int .u32 (plus3 t l 0).y,.int .u32 (plus3 t l 0).z])∧Below w.heap.size w w':=by
 have hb':Bytes w a (l.take 12):=by
  have h:=hb.part 0 12 a (fun b off e _ _=>by rw[e];rfl)
  rwa[List.drop_zero]at h
 have h:=plus_any t.x t.y t.z a (l.take 12) 12 cap w hb' (by simp;omega) (by decide) ht
 rw[plus3_take]at h
 exact h
theorem mixed_block (t:Trio)(w:World)(ht:t.ok):
 Calls Tryz.prog 208 #[.agg #[.int .u32 t.x,.int .u32 t.y,.int .u32 t.z]] w fun e w'=>e= .returned (.agg #[.int .u32 (mix t).x,.int .u32 (mix t).y,.int .u32 (mix t).z])∧Below w.heap.size w w':=mixed_any t.x t.y t.z w ht
theorem rest_step (w0 w:World)(t t' t2:Trio)(he:t2=t')(h:Blk w w0.heap.size [.int .u32 t.x,.int .u32 t.y,.int .u32 t.z] 300)(hb:Below w0.heap.size w0 w):
 Rest w0 w0.heap.size t2 (((w.setCell ⟨w0.heap.size,0,none⟩ (.int .u32 t'.x)).setCell ⟨w0.heap.size,1,none⟩ (.int .u32 t'.y)).setCell ⟨w0.heap.size,2,none⟩ (.int .u32 t'.z)):=by
 subst he
 exact⟨((h.set_ 0 _).set_ 1 _).set_ 2 _,((hb.setCell (Nat.le_refl _) _).setCell (Nat.le_refl _) _).setCell (Nat.le_refl _) _⟩
theorem trioAt_succ (l:List Int)(k:Nat):trioAt l (k+1)=mix (plus3 (trioAt l k) (l.drop (12*k)) 0):=by
 rw[plus3_drop];rfl
theorem look_any (A:Option Addr)(l:List Int)(len cap:Nat)(w:World)(hb:Bytes w A l)(hL:l.length=len)(hpos:0<len)(hmax:len≤1000000)(hcap:len≤cap)(hcap2:cap≤maxLen):
 Calls Tryz.prog 173 #[.slice A len cap] w fun e w'=>e= .returned (.int .u64 (lookS l))∧Below w.heap.size w w':=by
 unfold maxLen at hcap2
 obtain⟨b,off,rfl,hlt,hc⟩:=hb.spot (by omega)
 clear hlt hc
 have HB:=Lib.hid hb
 have HL:=Lib.hid hL
 clear hb hL
 have HS:=Lib.hid (show lookInit l=⟨3735928559+(len:Int),3735928559+(len:Int),3735928559+(len:Int)⟩by
  have e:add32 3735928559 (l.length:Int)=3735928559+(len:Int):=by have:=HL.out;unfold add32;omega
  unfold lookInit;rw[e])
 have hne:((len:Int)==0)=false:=by simp;omega
 go_enter Tryz.func173,Tryz.ntmps173
 go_wp2
 go_loopw [0] (fun s wr=> ∃k n c:Nat,Hid (len=12*k+n∧cap=12*k+c)∧0<n∧n≤len∧c≤cap∧n≤c∧s= .slice (some ⟨b,off+12*k,none⟩) n c∧Hid (Rest w w.heap.size (trioAt l k) wr)) (fun s _=>match s with| .slice _ n _=>n|_=>0)
 case atStart=>exact⟨0,len,cap,Lib.hid ⟨by omega,by omega⟩,hpos,Nat.le_refl _,Nat.le_refl _,hcap,rfl,by show Hid (Rest _ _ (lookInit l) _);rw[HS.out];exact⟨Blk.new _ _ _,(Below.refl _ _).alloc (Nat.le_refl _) _⟩⟩
 case round=>
  obtain⟨k,n,c,hn,hn0,hn1,hc1,hnc,rfl,hr⟩:=hrel
  have R1:=Lib.hid hr.out.1
  have R2:=Lib.hid hr.out.2
  have g0:=hr.out.1.cell (i:=0) rfl
  have g1:=hr.out.1.cell (i:=1) rfl
  have g2:=hr.out.1.cell (i:=2) rfl
  have hz:=hr.out.2.size
  have hlt:=hr.out.1.lt
  have HK:=Lib.hid (HB.out.part (12*k) n (some ⟨b,off+12*k,none⟩) (fun b' off' e _ _=>by simp at e;obtain⟨rfl,rfl⟩:=e;rfl))
  rw[List.take_of_length_le (by have:=HL.out;have:=hn.out.1;simp;omega)]at HK
  have HKl:=Lib.hid (show(l.drop (12*k)).length=n by have:=HL.out;have:=hn.out.1;simp;omega)
  have HKd:=Lib.hid (HK.out.below R2.out (Nat.le_refl _)).drew
  by_cases h12:12<n
  ·have H12:=Lib.hid (show 12≤(l.drop (12*k)).length by have:=HKl.out;omega)
   have hd:decide ((12:Int)<(n:Int))=true:=by simp;omega
   go_wp2
   go_region_with (first|(go_at_call 207;(with_reducible refine(plus_block (trioAt l k) _ (l.drop (12*k)) _ _ HKd.out H12.out (trioAt_ok l k)).mono ?_);rintro e w2 ⟨rfl,hb2⟩)|(go_at_call 208;(with_reducible refine(mixed_block _ _ (plus3_ok _ _ _)).mono ?_);rintro e w3 ⟨rfl,hb3⟩;have hR3:=Lib.hid ((R1.out.drew.below hb2 hlt).below hb3 (Nat.lt_of_lt_of_le hlt hb2.size));have e0:=hR3.out.cell (i:=0) rfl;have e1:=hR3.out.cell (i:=1) rfl;have e2:=hR3.out.cell (i:=2) rfl;have f0:=hR3.out.frozen 0;have f1:=hR3.out.frozen 1;have f2:=hR3.out.frozen 2))
   all_goals
    go_wp2
    go_roundw
    case rel=>
     have:=hn.out.1
     have:=hn.out.2
     refine⟨k+1,n-12,c-12,Lib.hid ⟨by omega,by omega⟩,by omega,by omega,by omega,by omega,by first|rfl|(congr 3;omega),?_⟩
     exact rest_step w w3 (trioAt l k) _ _ (trioAt_succ l k) hR3.out ((R2.out.drew.trans (hb2.mono hz)).trans (hb3.mono (Nat.le_trans hz hb2.size)))
    case measure=>simp;omega
  ·have hd:decide ((12:Int)<(n:Int))=false:=by simp;omega
   have HE:=Lib.hid (show(l.length-1)/12=k by rw[HL.out,hn.out.1];omega)
   have hS:=Lib.hid (show lookS l=ans (fin (plus3 (trioAt l k) (l.drop (12*k)) 0))by
    unfold lookS
    rw[if_neg (by intro h;have:=HL.out;have:=hn.out.1;rw[h]at*;simp at*;omega),HE.out,plus3_drop])
   go_wp2_with(first|(go_at_call 207;(with_reducible refine(plus_any (trioAt l k).x (trioAt l k).y (trioAt l k).z _ (l.drop (12*k)) _ _ _ (HK.out.below R2.out (Nat.le_refl _)) HKl.out (by omega) (trioAt_ok l k)).mono ?_);rintro e w2 ⟨rfl,hb2⟩)|(go_at_call 209;(with_reducible refine(finished_any _ _ _ _ (plus3_ok _ _ _)).mono ?_);rintro e w3 ⟨rfl,hb3⟩)|(go_at_call 206;(with_reducible refine(answer_any _ _ _ _ (fin_ok _)).mono ?_);rintro e w4 ⟨rfl,hb4⟩))
   go_ret
   refine⟨ret_int hS.out.symm,?_⟩
   have h3:=R2.out.trans (hb2.mono hz)
   have h4:=h3.trans (hb3.mono h3.size)
   exact h4.trans (hb4.mono h4.size)
end Hd
namespace Se
open Bytes8 Hm Hd Hf
theorem look_all (A:Option Addr)(l:List Int)(len cap:Nat)(w:World)(hb:Bytes w A l)(hL:l.length=len)(hmax:len≤800000)(hcap:len≤cap)(hcap2:cap≤maxLen):
 Calls Tryz.prog 173 #[.slice A len cap] w fun e w'=>e= .returned (.int .u64 (lookS l))∧Below w.heap.size w w':=by
 by_cases h0:0<len
 ·exact look_any A l len cap w hb hL h0 (by omega) hcap hcap2
 ·obtain rfl:len=0:=by omega
  obtain rfl:l=[]:=List.eq_nil_of_length_eq_zero hL
  exact look_nil_any A cap w
theorem rlook_all (A:Option Addr)(l:List Int)(len cap:Nat)(w:World)(hb:Bytes w A l)(hL:l.length=len)(hmax:len≤800000):
 Calls Tryz.prog 166 #[.slice A len cap] w fun e w'=>e= .returned (.int .u64 (lookS l))∧w=w':=by
 by_cases h0:0<len
 ·exact rlook_any A l len cap w hb hL h0 (by omega)
 ·obtain rfl:len=0:=by omega
  obtain rfl:l=[]:=List.eq_nil_of_length_eq_zero hL
  exact rlook_nil A cap w
end Se
namespace Sb
open Bytes8 Blk8 Hm Ha He
theorem rrounds_any (p q r s:Int)(n:Nat)(w:World)(h:(⟨p,q,r,s⟩:Quad).ok)(hn:n≤1000):
 Calls Tryz.prog 200 #[.agg #[.int .u64 p,.int .u64 q,.int .u64 r,.int .u64 s],.int .i64 n] w fun e w'=>e= .returned (.agg #[.int .u64 (rounds ⟨p,q,r,s⟩ n).p,.int .u64 (rounds ⟨p,q,r,s⟩ n).q,.int .u64 (rounds ⟨p,q,r,s⟩ n).r,.int .u64 (rounds ⟨p,q,r,s⟩ n).s])∧Below w.heap.size w w':=by
 have HF:=Lib.hid h
 go_enter Tryz.func200,Tryz.ntmps200
 go_wp2
 go_quiet (fail)
 go_wp2
 go_loop [5,6,7,8,9] (fun a b c d i=> ∃k:Nat,k≤n∧i= .int .i64 k∧a= .int .u64 (rounds ⟨p,q,r,s⟩ k).p∧b= .int .u64 (rounds ⟨p,q,r,s⟩ k).q∧c= .int .u64 (rounds ⟨p,q,r,s⟩ k).r∧d= .int .u64 (rounds ⟨p,q,r,s⟩ k).s) (fun _ _ _ _ i=>n-(intOf i).toNat)
 case atStart=>exact⟨0,Nat.zero_le _,rfl,rfl,rfl,rfl,rfl⟩
 case round=>
  obtain⟨k,hk,rfl,rfl,rfl,rfl,rfl⟩:=hrel
  have HO:=Lib.hid (rounds_ok ⟨p,q,r,s⟩ HF.out k)
  by_cases hlt:k<n
  ·have HN:=Lib.hid (show rounds ⟨p,q,r,s⟩ (k+1)=round (rounds ⟨p,q,r,s⟩ k)from rfl)
   generalize rounds ⟨p,q,r,s⟩ k=F at*
   obtain⟨P,Q,R,S⟩:=F
   obtain⟨⟨p0,p1⟩,⟨q0,q1⟩,⟨r0,r1⟩,⟨s0,s1⟩⟩:=HO.out
   simp only at p0 p1 q0 q1 r0 r1 s0 s1
   go_wp2_with(go_at_call 221;(with_reducible refine(up_any _ _ _ (by first|assumption|exact(b64 _ _ _).1|exact(rot64_bd _ _).1|exact(wrap64_bd _).1|omega) (by first|assumption|exact(b64 _ _ _).2|exact(rot64_bd _ _).2|exact(wrap64_bd _).2|omega) (by decide) (by decide)).mono ?_);rintro e w' ⟨rfl,rfl⟩)
   go_round
   case rel=>
    refine⟨k+1,by omega,by go_num,?_,?_,?_,?_⟩<;>rw[HN.out]<;>simp[round,add64,xor64,IntKind.wrap_u64]
   case measure=>simp[intOf];omega
  ·obtain rfl:k=n:=by omega
   go_wp2
   generalize rounds ⟨p,q,r,s⟩ k=F at*
   refine bodyPost_ret (v:= .agg #[.int .u64 F.p,.int .u64 F.q,.int .u64 F.r,.int .u64 F.s]) (by simp[results,Tryz.results200,go_sem]) rfl ⟨rfl,?_⟩
   repeat (first|(with_reducible exact Below.refl _ _)|refine Below.setCell ?_ (by simp) _|refine Below.alloc ?_ (by simp) _|refine below_drewN ?_ _)
theorem eight_key (K:Nat→Int)(A:Option Addr)(o:Nat)(i:Int)(hi:i=o)(ho:o≤8)(w:World)(hb:Bytes w A (idL K)):
 Calls Tryz.prog 199 #[.slice A 16 16,.int .i64 i] w fun e w'=>e= .returned (.int .u64 (w8 (idL K) o))∧w=w':=by
 subst hi;exact eight_any A (idL K) 16 16 o w hb rfl (by decide) (by omega)
def Four (w0:World)(g:Nat)(f:Quad)(w:World):Prop:=Blk w g [.int .u64 f.p,.int .u64 f.q,.int .u64 f.r,.int .u64 f.s] 292∧Below w0.heap.size w0 w
theorem rrounds_q (f:Quad)(n:Nat)(i:Int)(hi:i=n)(hn:n≤1000)(w:World)(h:f.ok):
 Calls Tryz.prog 200 #[.agg #[.int .u64 f.p,.int .u64 f.q,.int .u64 f.r,.int .u64 f.s],.int .i64 i] w fun e w'=>e= .returned (.agg #[.int .u64 (rounds f n).p,.int .u64 (rounds f n).q,.int .u64 (rounds f n).r,.int .u64 (rounds f n).s])∧Below w.heap.size w w':=by
 subst hi;exact rrounds_any f.p f.q f.r f.s n w h hn
theorem four_step (w0 w:World)(g:Nat)(a b c d p q r s e:Value)(f:Quad)(h:Blk w g [p,q,r,s] 292)(hb:Below w0.heap.size w0 w)(hg:w0.heap.size≤g)(e0:e= .int .u64 f.p)(e1:b= .int .u64 f.q)(e2:c= .int .u64 f.r)(e3:d= .int .u64 f.s):
 Four w0 g f (((((w.setCell ⟨g,0,none⟩ a).setCell ⟨g,1,none⟩ b).setCell ⟨g,2,none⟩ c).setCell ⟨g,3,none⟩ d).setCell ⟨g,0,none⟩ e):=by
 subst e0;subst e1;subst e2;subst e3
 exact⟨((((h.set_ 0 _).set_ 1 _).set_ 2 _).set_ 3 _).set_ 0 _,((((hb.setCell hg _).setCell hg _).setCell hg _).setCell hg _).setCell hg _⟩
theorem six_below {w0 w:World}{B g:Nat}(h:Below B w0 w)(hg:B≤g)(a b c d e f:Value):
 Below B w0 ((((((w.setCell ⟨g,0,none⟩ a).setCell ⟨g,1,none⟩ b).setCell ⟨g,2,none⟩ c).setCell ⟨g,3,none⟩ d).setCell ⟨g,0,none⟩ e).setCell ⟨g,2,none⟩ f):=
 (((((h.setCell hg _).setCell hg _).setCell hg _).setCell hg _).setCell hg _).setCell hg _
theorem six_sets {w:World}{g:Nat}{p q r s:Value}{T:TypeId}(h:Blk w g [p,q,r,s] T)(a b c d e f:Value):
 Blk ((((((w.setCell ⟨g,0,none⟩ a).setCell ⟨g,1,none⟩ b).setCell ⟨g,2,none⟩ c).setCell ⟨g,3,none⟩ d).setCell ⟨g,0,none⟩ e).setCell ⟨g,2,none⟩ f) g [e,b,f,d] T:=
 (((((h.set_ 0 _).set_ 1 _).set_ 2 _).set_ 3 _).set_ 0 _).set_ 2 _
theorem quad_next (key l:List Int)(k:Nat)(o:Nat)(ho:o=8*k):quadAt key l (k+1)=quadPlus (quadAt key l k) (w8 l o):=by subst ho;rfl
theorem quadPlus_two (f:Quad)(m:Int):quadPlus f m=⟨bits .xor .u64 (rounds ⟨f.p,f.q,f.r,bits .xor .u64 f.s m⟩ 2).p m,(rounds ⟨f.p,f.q,f.r,bits .xor .u64 f.s m⟩ 2).q,(rounds ⟨f.p,f.q,f.r,bits .xor .u64 f.s m⟩ 2).r,(rounds ⟨f.p,f.q,f.r,bits .xor .u64 f.s m⟩ 2).s⟩:=rfl
theorem sipEnd_two (f:Quad)(m:Int):sipEnd f m=bits .xor .u64 (bits .xor .u64 (bits .xor .u64 (rounds ⟨bits .xor .u64 (rounds ⟨f.p,f.q,f.r,bits .xor .u64 f.s m⟩ 2).p m,(rounds ⟨f.p,f.q,f.r,bits .xor .u64 f.s m⟩ 2).q,bits .xor .u64 (rounds ⟨f.p,f.q,f.r,bits .xor .u64 f.s m⟩ 2).r 255,(rounds ⟨f.p,f.q,f.r,bits .xor .u64 f.s m⟩ 2).s⟩ 4).p (rounds ⟨bits .xor .u64 (rounds ⟨f.p,f.q,f.r,bits .xor .u64 f.s m⟩ 2).p m,(rounds ⟨f.p,f.q,f.r,bits .xor .u64 f.s m⟩ 2).q,bits .xor .u64 (rounds ⟨f.p,f.q,f.r,bits .xor .u64 f.s m⟩ 2).r 255,(rounds ⟨f.p,f.q,f.r,bits .xor .u64 f.s m⟩ 2).s⟩ 4).q) (rounds ⟨bits .xor .u64 (rounds ⟨f.p,f.q,f.r,bits .xor .u64 f.s m⟩ 2).p m,(rounds ⟨f.p,f.q,f.r,bits .xor .u64 f.s m⟩ 2).q,bits .xor .u64 (rounds ⟨f.p,f.q,f.r,bits .xor .u64 f.s m⟩ 2).r 255,(rounds ⟨f.p,f.q,f.r,bits .xor .u64 f.s m⟩ 2).s⟩ 4).r) (rounds ⟨bits .xor .u64 (rounds ⟨f.p,f.q,f.r,bits .xor .u64 f.s m⟩ 2).p m,(rounds ⟨f.p,f.q,f.r,bits .xor .u64 f.s m⟩ 2).q,bits .xor .u64 (rounds ⟨f.p,f.q,f.r,bits .xor .u64 f.s m⟩ 2).r 255,(rounds ⟨f.p,f.q,f.r,bits .xor .u64 f.s m⟩ 2).s⟩ 4).s:=rfl
set_option maxRecDepth 100000 in
theorem rsip_any (K:Nat→Int)(A:Option Addr)(l:List Int)(len cap:Nat)(w:World)(hk:IdOk K)(hb:Bytes w A l)(hL:l.length=len)(hmax:len≤800000):
 Calls Tryz.prog 165 #[idV K,.slice A len cap] w fun e w'=>e= .returned (.int .u64 (sipS (idL K) l))∧Below w.heap.size w w':=by
 have HK:=Lib.hid (id_boxed 62 K hk w)
 have HB:=Lib.hid (And.intro hb hL)
 have HQ:=Lib.hid (quadAt_ok (idL K) l)
 clear hb hL
 have HE0:=Lib.hid fun n=>quiet_kept (n:=n) (eight_key K _ 0 0 rfl (by decide) _ (HK.out.drewN n))
 have HE8:=Lib.hid fun n=>quiet_kept (n:=n) (eight_key K _ 8 8 rfl (by decide) _ (HK.out.drewN n))
 go_enter Tryz.func165,Tryz.ntmps165
 go_wp2
 go_quiet ((go_at_call 199;first|with_reducible exact HE0.out _|with_reducible exact HE8.out _))
 go_wp2
 go_loopw [8] (fun i wr=> ∃k o:Nat,Hid (o=8*k)∧o≤len∧i= .int .i64 o∧Hid (Four w (w.heap.size+1) (quadAt (idL K) l k) wr)) (fun i _=>len-(intOf i).toNat)
 case atStart=>exact⟨0,0,Lib.hid rfl,Nat.zero_le _,rfl,Lib.hid ⟨Blk.new_at _ _ _ _ (by simp),below_drewN ((Below.refl _ _).alloc (Nat.le_refl _) _) _ |>.alloc (by simp) _⟩⟩
 case round=>
  obtain⟨k,o,ho,hlt,rfl,hr⟩:=hrel
  have R1:=Lib.hid hr.out.1
  have R2:=Lib.hid hr.out.2
  have hz:=R1.out.lt
  have HM:=Lib.hid (eight_any A l len cap o wr (HB.out.1.below R2.out (Nat.le_refl _)) HB.out.2 (by omega) (by omega))
  have HO:=Lib.hid (HQ.out k)
  have hn:=quad_next (idL K) l k o ho.out
  rw[quadPlus_two]at hn
  have HN:=Lib.hid hn
  clear hn
  have HR:=Lib.hid fun W=>rrounds_q ⟨(quadAt (idL K) l k).p,(quadAt (idL K) l k).q,(quadAt (idL K) l k).r,bits .xor .u64 (quadAt (idL K) l k).s (w8 l o)⟩ 2 2 rfl (by decide) W ⟨HO.out.1,HO.out.2.1,HO.out.2.2.1,b64 .xor _ _⟩
  simp only at HR
  have g0:=R1.out.cell (i:=0) rfl
  have g1:=R1.out.cell (i:=1) rfl
  have g2:=R1.out.cell (i:=2) rfl
  have g3:=R1.out.cell (i:=3) rfl
  have f0:=R1.out.frozen 0
  have f1:=R1.out.frozen 1
  have f2:=R1.out.frozen 2
  have f3:=R1.out.frozen 3
  by_cases h8:o+8≤len
  ·have hd:decide (o+8≤len)=true:=by simpa using h8
   generalize rounds ⟨(quadAt (idL K) l k).p,(quadAt (idL K) l k).q,(quadAt (idL K) l k).r,bits .xor .u64 (quadAt (idL K) l k).s (w8 l o)⟩ 2=G at*
   generalize quadAt (idL K) l k=F at*
   generalize w8 l o=m at*
   go_wp2_with(first|(go_at_call 199;(with_reducible refine HM.out.mono ?_);rintro e w' ⟨rfl,rfl⟩)|(go_at_call 200;(with_reducible refine(HR.out _).mono ?_);rintro e w2 ⟨rfl,hb2⟩;have R3:=Lib.hid ((R1.out.set_ 3 _).below hb2 (by simpa using hz));have c0:=R3.out.cell (i:=0) rfl;have c1:=R3.out.cell (i:=1) rfl;have c2:=R3.out.cell (i:=2) rfl;have c3:=R3.out.cell (i:=3) rfl;have h0:=R3.out.frozen 0;have h1:=R3.out.frozen 1;have h2:=R3.out.frozen 2;have h3:=R3.out.frozen 3))
   go_roundw
   case rel=>
    have hzw:=R2.out.size
    refine⟨k+1,o+8,Lib.hid (by have:=ho.out;omega),by omega,by go_num,Lib.hid (four_step w w2 (w.heap.size+1) _ _ _ _ _ _ _ _ _ _ R3.out ((R2.out.setCell (by simp) _).trans (hb2.mono (by simpa using hzw))) (by simp) ?_ ?_ ?_ ?_)⟩<;>rw[HN.out]
   case measure=>simp[intOf];omega
  ·have hd:decide (o+8≤len)=false:=by simpa using h8
   clear HN HR
   have hk:l.length/8=k:=by rw[HB.out.2];have:=ho.out;omega
   obtain⟨M,hM⟩: ∃M,bits .or .u64 (w8 l o) ((len:Int)%256*72057594037927936)=M:=⟨_,rfl⟩
   have he:=(show sipS (idL K) l=sipEnd (quadAt (idL K) l k) M by
    unfold sipS last8;rw[hk,HB.out.2,←ho.out,hM])
   rw[sipEnd_two]at he
   have HE:=Lib.hid he
   clear he
   have HR:=Lib.hid fun W=>rrounds_q ⟨(quadAt (idL K) l k).p,(quadAt (idL K) l k).q,(quadAt (idL K) l k).r,bits .xor .u64 (quadAt (idL K) l k).s M⟩ 2 2 rfl (by decide) W ⟨HO.out.1,HO.out.2.1,HO.out.2.2.1,b64 .xor _ _⟩
   have HG:=Lib.hid (rounds_ok ⟨(quadAt (idL K) l k).p,(quadAt (idL K) l k).q,(quadAt (idL K) l k).r,bits .xor .u64 (quadAt (idL K) l k).s M⟩ ⟨HO.out.1,HO.out.2.1,HO.out.2.2.1,b64 .xor _ _⟩ 2)
   simp only at HR
   clear hk
   generalize rounds ⟨(quadAt (idL K) l k).p,(quadAt (idL K) l k).q,(quadAt (idL K) l k).r,bits .xor .u64 (quadAt (idL K) l k).s M⟩ 2=G at HE HR HG
   generalize quadAt (idL K) l k=F at*
   have HR4:=Lib.hid fun W=>rrounds_q ⟨bits .xor .u64 G.p M,G.q,bits .xor .u64 G.r 255,G.s⟩ 4 4 rfl (by decide) W ⟨b64 .xor _ _,HG.out.2.1,b64 .xor _ _,HG.out.2.2.2⟩
   simp only at HR4
   generalize rounds ⟨bits .xor .u64 G.p M,G.q,bits .xor .u64 G.r 255,G.s⟩ 4=J at HE HR4
   generalize w8 l o=m at HM hM
   go_upto_region 15 with(first|(go_at_call 199;(with_reducible refine HM.out.mono ?_);rintro e w' ⟨rfl,rfl⟩)|(go_at_call 200;(with_reducible refine(HR.out _).mono ?_);rintro e w2 ⟨rfl,hb2⟩;have R3:=Lib.hid ((R1.out.set_ 3 _).below hb2 (by simpa using hz));have c0:=R3.out.cell (i:=0) rfl;have c1:=R3.out.cell (i:=1) rfl;have c2:=R3.out.cell (i:=2) rfl;have c3:=R3.out.cell (i:=3) rfl;have h0:=R3.out.frozen 0;have h1:=R3.out.frozen 1;have h2:=R3.out.frozen 2;have h3:=R3.out.frozen 3;have hz2:=R3.out.lt;clear hM g0 g1 g2 g3 f0 f1 f2 f3)|(go_at_call 200;go_must ((with_reducible refine(HR4.out _).mono ?_);rintro e w4 ⟨rfl,hb4⟩;have R4:=Lib.hid ((((((R3.out.set_ 0 _).set_ 1 _).set_ 2 _).set_ 3 _).set_ 0 _).set_ 2 _ |>.below hb4 (by simpa using hz2));have a0:=R4.out.cell (i:=0) rfl;have a1:=R4.out.cell (i:=1) rfl;have a2:=R4.out.cell (i:=2) rfl;have a3:=R4.out.cell (i:=3) rfl;have b0:=R4.out.frozen 0;have b1:=R4.out.frozen 1;have b2:=R4.out.frozen 2;have b3:=R4.out.frozen 3;clear c0 c1 c2 c3 h0 h1 h2 h3)))
   have hzw:=R2.out.size
   have k2:Below w.heap.size w w2:=(R2.out.setCell (by simp) _).trans (hb2.mono (by simpa using hzw))
   have k5:=six_below k2 (g:=w.heap.size+1) (by simp) (.int .u64 G.p) (.int .u64 G.q) (.int .u64 G.r) (.int .u64 G.s) (.int .u64 (bits .xor .u64 G.p M)) (.int .u64 (bits .xor .u64 G.r 255))
   have R5:=six_sets R3.out (.int .u64 G.p) (.int .u64 G.q) (.int .u64 G.r) (.int .u64 G.s) (.int .u64 (bits .xor .u64 G.p M)) (.int .u64 (bits .xor .u64 G.r 255))
   generalize (((((w2.setCell ⟨w.heap.size+1,0,none⟩ (.int .u64 G.p)).setCell ⟨w.heap.size+1,1,none⟩ (.int .u64 G.q)).setCell ⟨w.heap.size+1,2,none⟩ (.int .u64 G.r)).setCell ⟨w.heap.size+1,3,none⟩ (.int .u64 G.s)).setCell ⟨w.heap.size+1,0,none⟩ (.int .u64 (bits .xor .u64 G.p M))).setCell ⟨w.heap.size+1,2,none⟩ (.int .u64 (bits .xor .u64 G.r 255))=w5 at k5 R5⊢
   have hz5:=R5.lt
   have R5:=Lib.hid R5
   have c0:=R5.out.cell (i:=0) rfl
   have c1:=R5.out.cell (i:=1) rfl
   have c2:=R5.out.cell (i:=2) rfl
   have c3:=R5.out.cell (i:=3) rfl
   have h0:=R5.out.frozen 0
   have h1:=R5.out.frozen 1
   have h2:=R5.out.frozen 2
   have h3:=R5.out.frozen 3
   go_wp2_with(go_at_call 200;(with_reducible refine(HR4.out _).mono ?_);rintro e w4 ⟨rfl,hb4⟩;have R4:=Lib.hid (R5.out.below hb4 hz5);have a0:=R4.out.cell (i:=0) rfl;have a1:=R4.out.cell (i:=1) rfl;have a2:=R4.out.cell (i:=2) rfl;have a3:=R4.out.cell (i:=3) rfl;have b0:=R4.out.frozen 0;have b1:=R4.out.frozen 1;have b2:=R4.out.frozen 2;have b3:=R4.out.frozen 3;clear c0 c1 c2 c3 h0 h1 h2 h3)
   go_ret
   refine⟨ret_int HE.out.symm,?_⟩
   have k4:Below w.heap.size w w4:=k5.trans (hb4.mono (by omega))
   repeat (first|(with_reducible exact k4)|refine Below.setCell ?_ (by simp) _)
end Sb
namespace Sb
end Sb
end Go.Proofs.YtjecmgkmcfkcjaaGreat
