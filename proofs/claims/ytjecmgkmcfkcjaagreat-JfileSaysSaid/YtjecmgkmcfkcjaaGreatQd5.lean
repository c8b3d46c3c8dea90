/-
  Texts beneath the proof.
-/
import Derived.Lib.AppendStr
import Derived.Deep.DeepMust
import Derived.Deep.Cut
import Derived.Test.YtjecmgkmcfkcjaaGreatQd4
set_option linter.unusedVariables false
set_option linter.unusedSimpArgs false
set_option maxRecDepth 100000
set_option maxHeartbeats 4000000
open Go.ChangeShapes Go.WideShapes Go.ChangeAt Go.RowKit
namespace Go.Proofs.YtjecmgkmcfkcjaaGreat
namespace Dc
open Bytes8 Blk8 Own8 OwnA OwnE
theorem run_append_elt_at {E S:TypeId}{size bytes:Nat}{z:Value}(he:Elt E S size bytes z)(w:World)(ty:TypeId)(base:Nat)(A:Option Addr)(n c:Nat)(xs:List Value)(ho:OwnE E size w base A n c xs)(ad:Addr)(m c2:Nat)(news:List Value)(hl:news.length=m*size)
 (hnews: ∀j u,news[j]? =some u→w.cell? (ad.add j)=some u)(h1: ∀u∈news,u.oneCell'=true)(h63:n+m≤4611686018427387904)(hbytes:(n+m)*bytes≤140737488355328)(hml:n+m≤maxLen):
 ∃A' c' w',(Builtin.append_ #[S,S] ty #[.slice A n c,.slice (some ad) m c2]).run Tryz.prog w= .ok (.slice A' (n+m) c') w'∧OwnE E size w' base A' (n+m) c' (xs++news)∧w.grownBy w' (ownB A)∧(ownB A'=ownB A∨ownB A'=some w.heap.size):=by
 obtain⟨i,hi,hzz⟩:=Option.map_eq_some_iff.1 he.info
 simp only[Prod.mk.injEq]at hzz
 obtain⟨hz,hs,hby⟩:=hzz
 obtain⟨v',w',hr,h2,h3,h4,h5⟩:=run_append_own_at (P:=Tryz.prog) w base S ty E i z size bytes he.under hi hz hs hby he.zero he.pos _ n xs ho.2 ad m c2 news hl hnews h1 hml hbytes ho.1
 rw[ownB_eq]at h3 h5
 rcases h2.2 with⟨rfl,h0⟩|⟨g,cap,cur,rfl,_⟩
 ·rw[h0]at h2⊢
  rw[ownB_eq]at h5
  exact⟨none,0,w',hr,⟨Nat.le_trans ho.1 h3.size,h2⟩,h3,h5⟩
 ·rw[ownB_eq]at h5
  exact⟨_,_,w',hr,⟨Nat.le_trans ho.1 h3.size,h2⟩,h3,h5⟩
theorem wpList_append_elt_at {E S:TypeId}{size bytes:Nat}{z:Value}(he:Elt E S size bytes z){w:World}{ops:Array Oper}{rest:List Oper}{o:Oper}{a:Act}{Q:Exit→Act→World→Prop}(hgd:o.guard=none)(s x:Operand)
 (hop:o.op= .call {callee:= .builtin .append,args:= #[s,x],argTypes:= #[S,S]})
 (base:Nat)(A:Option Addr)(n c:Nat)(xs:List Value)(hs:a.eval s= .slice A n c)(ho:OwnE E size w base A n c xs)(ad:Addr)(m c2:Nat)(news:List Value)(hx:a.eval x= .slice (some ad) m c2)(hl:news.length=m*size)
 (hnews: ∀j u,news[j]? =some u→w.cell? (ad.add j)=some u)(h1: ∀u∈news,u.oneCell'=true)(h63:n+m≤4611686018427387904)(hbytes:(n+m)*bytes≤140737488355328)(hml:n+m≤maxLen)
 (h: ∀A' c' w',OwnE E size w' base A' (n+m) c' (xs++news)→w.grownBy w' (ownB A)→(ownB A'=ownB A∨ownB A'=some w.heap.size)→wpList Tryz.prog ops Q rest (a.put o.dst (.slice A' (n+m) c')) w'):wpList Tryz.prog ops Q (o::rest) a w:=
 wpList_plain hgd fun _ hK=>by
  obtain⟨A',c',w',hr,h2,h3,h4⟩:=run_append_elt_at he w o.type base A n c xs ho ad m c2 news hl hnews h1 h63 hbytes hml
  unfold Oper.wp execOp
  simp only[hop,resolve,invoke,builtin,Sem.run_bind,Sem.run_pure,Result.andThen_ok,List.map_toArray,List.map_cons,List.map_nil,hs,hx,hr]
  exact hK _ _ (h A' c' w' h2 h3 h4)
theorem step_append_elt_at {E S:TypeId}{size bytes:Nat}{z:Value}(he:Elt E S size bytes z){w:World}{ops:Array Oper}{o:Oper}{a:Act}{K:Act→World→Prop}{Q:Exit→Act→World→Prop}{F:Prop}(hgd:o.guard=none)(s x:Operand)
 (hop:o.op= .call {callee:= .builtin .append,args:= #[s,x],argTypes:= #[S,S]})
 (base:Nat)(A:Option Addr)(n c:Nat)(xs:List Value)(hs:a.eval s= .slice A n c)(ho:OwnE E size w base A n c xs)(ad:Addr)(m c2:Nat)(news:List Value)(hx:a.eval x= .slice (some ad) m c2)(hl:news.length=m*size)
 (hnews: ∀j u,news[j]? =some u→w.cell? (ad.add j)=some u)(h1: ∀u∈news,u.oneCell'=true)(h63:n+m≤4611686018427387904)(hbytes:(n+m)*bytes≤140737488355328)(hml:n+m≤maxLen)
 (h: ∀A' c' w',OwnE E size w' base A' (n+m) c' (xs++news)→w.grownBy w' (ownB A)→(ownB A'=ownB A∨ownB A'=some w.heap.size)→K (a.put o.dst (.slice A' (n+m) c')) w'):
 if Region.wanted o (yielded ops a.tmps)=true then Oper.wp Tryz.prog o a w K Q else F:=by
 have hw:Region.wanted o (yielded ops a.tmps)=true:=by simp[Region.wanted,hgd]
 rw[if_pos hw]
 obtain⟨A',c',w',hr,h2,h3,h4⟩:=run_append_elt_at he w o.type base A n c xs ho ad m c2 news hl hnews h1 h63 hbytes hml
 unfold Oper.wp execOp
 simp only[hop,resolve,invoke,builtin,Sem.run_bind,Sem.run_pure,Result.andThen_ok,List.map_toArray,List.map_cons,List.map_nil,hs,hx,hr]
 exact h A' c' w' h2 h3 h4
theorem OwnE.keptG {E:TypeId}{size:Nat}{w w':World}{base n c:Nat}{row:Option Nat}{A:Option Addr}{xs:List Value}(h:OwnE E size w base A n c xs)(hg:w.grownBy w' row)(hne: ∀g,ownB A=some g→row≠some g):OwnE E size w' base A n c xs:=by
 refine⟨Nat.le_trans h.1 hg.size,h.2.1,?_⟩
 rcases h.2.2 with h1|⟨k,cap,cur,h1,h2,h3,h4⟩
 ·exact .inl h1
 ·refine .inr ⟨k,cap,cur,h1,h2,?_,h4⟩
  have hk:k<w.heap.size:=by
   rcases Nat.lt_or_ge k w.heap.size with h|h
   ·exact h
   ·rw[Array.getElem?_eq_none h]at h3;cases h3
  injection h1 with e1 e2 e3
  subst e1
  rw[hg.block k hk (fun e=>hne k rfl e.symm)];exact h3
theorem OwnE.ltB {E:TypeId}{size:Nat}{w:World}{base n c:Nat}{A:Option Addr}{xs:List Value}(h:OwnE E size w base A n c xs): ∀g,ownB A=some g→base≤g∧g<w.heap.size:=fun g hg=>h.lt g (by rw[ownB_eq];exact hg)
end Dc
namespace OwnS
end OwnS
namespace Sa
open Bytes8 Blk8 Hm Ha
theorem round_any (p q r s:Int)(w:World)(h:(⟨p,q,r,s⟩:Quad).ok):
 Calls Tryz.prog 223 #[.agg #[.int .u64 p,.int .u64 q,.int .u64 r,.int .u64 s]] w fun e w'=>e= .returned (.agg #[.int .u64 (round ⟨p,q,r,s⟩).p,.int .u64 (round ⟨p,q,r,s⟩).q,.int .u64 (round ⟨p,q,r,s⟩).r,.int .u64 (round ⟨p,q,r,s⟩).s])∧Below w.heap.size w w':=by
 obtain⟨⟨p0,p1⟩,⟨q0,q1⟩,⟨r0,r1⟩,⟨s0,s1⟩⟩:=h
 simp only at p0 p1 q0 q1 r0 r1 s0 s1
 go_enter Tryz.func223,Tryz.ntmps223
 go_wp2
 go_quiet (fail)
 go_wp2_with(go_at_call 232;(with_reducible refine(rotl64 _ _ _ (by first|assumption|exact(b64 _ _ _).1|exact(rot64_bd _ _).1|exact(wrap64_bd _).1|omega) (by first|assumption|exact(b64 _ _ _).2|exact(rot64_bd _ _).2|exact(wrap64_bd _).2|omega) (by decide) (by decide)).mono ?_);rintro e w' ⟨rfl,rfl⟩)
 refine bodyPost_ret (v:= .agg #[.int .u64 (round ⟨p,q,r,s⟩).p,.int .u64 (round ⟨p,q,r,s⟩).q,.int .u64 (round ⟨p,q,r,s⟩).r,.int .u64 (round ⟨p,q,r,s⟩).s]) (by simp[results,Tryz.results223,go_sem,round,add64,xor64,IntKind.wrap_u64]) rfl ⟨rfl,?_⟩
 repeat (first|exact Below.refl _ _|refine Below.setCell ?_ (by simp) _|refine Below.alloc ?_ (by simp) _|refine below_drewN ?_ _)
theorem round_q (f:Quad)(w:World)(h:f.ok):
 Calls Tryz.prog 223 #[.agg #[.int .u64 f.p,.int .u64 f.q,.int .u64 f.r,.int .u64 f.s]] w fun e w'=>e= .returned (.agg #[.int .u64 (round f).p,.int .u64 (round f).q,.int .u64 (round f).r,.int .u64 (round f).s])∧Below w.heap.size w w':=round_any f.p f.q f.r f.s w h
theorem qplus_any (p q r s m:Int)(w:World)(h:(⟨p,q,r,s⟩:Quad).ok):
 Calls Tryz.prog 222 #[.agg #[.int .u64 p,.int .u64 q,.int .u64 r,.int .u64 s],.int .u64 m] w fun e w'=>e= .returned (.agg #[.int .u64 (quadPlus ⟨p,q,r,s⟩ m).p,.int .u64 (quadPlus ⟨p,q,r,s⟩ m).q,.int .u64 (quadPlus ⟨p,q,r,s⟩ m).r,.int .u64 (quadPlus ⟨p,q,r,s⟩ m).s])∧Below w.heap.size w w':=by
 have HR:=Lib.hid fun w=>round_any p q r (bits .xor .u64 s m) w ⟨h.1,h.2.1,h.2.2.1,b64 .xor s m⟩
 have HE:=Lib.hid (show quadPlus ⟨p,q,r,s⟩ m=⟨xor64 (round (round ⟨p,q,r,bits .xor .u64 s m⟩)).p m,(round (round ⟨p,q,r,bits .xor .u64 s m⟩)).q,(round (round ⟨p,q,r,bits .xor .u64 s m⟩)).r,(round (round ⟨p,q,r,bits .xor .u64 s m⟩)).s⟩from rfl)
 have HX:=Lib.hid (round_ok ⟨p,q,r,bits .xor .u64 s m⟩)
 generalize quadPlus ⟨p,q,r,s⟩ m=Z at*
 generalize round ⟨p,q,r,bits .xor .u64 s m⟩=X at*
 go_enter Tryz.func222,Tryz.ntmps222
 go_wp2_with(first|(go_at_call 223;(with_reducible refine(HR.out _).mono ?_);rintro e w1 ⟨rfl,hb1⟩;have hz1:=hb1.size;simp at hz1)|(go_at_call 223;(with_reducible refine(round_q X _ HX.out).mono ?_);rintro e w2 ⟨rfl,hb2⟩;have hz2:=hb2.size;have c0:w2.cell? ⟨w.heap.size,0,none⟩=some (.int .u64 p):=(hb2.cell (p:=⟨w.heap.size,0,none⟩) (by simp;omega)).trans ((hb1.cell (p:=⟨w.heap.size,0,none⟩) (by simp;omega)).trans (by go_simp));have f0:w2.frozen? ⟨w.heap.size,0,none⟩=false:=(hb2.frozen (p:=⟨w.heap.size,0,none⟩) (by simp;omega)).trans ((hb1.frozen (p:=⟨w.heap.size,0,none⟩) (by simp;omega)).trans (by go_simp));have d0:w2.cell? ⟨w.heap.size+1,0,none⟩=some (.int .u64 0):=(hb2.cell (p:=⟨w.heap.size+1,0,none⟩) (by simp;omega)).trans ((hb1.cell (p:=⟨w.heap.size+1,0,none⟩) (by simp)).trans (by go_simp));have h0:w2.frozen? ⟨w.heap.size+1,0,none⟩=false:=(hb2.frozen (p:=⟨w.heap.size+1,0,none⟩) (by simp;omega)).trans ((hb1.frozen (p:=⟨w.heap.size+1,0,none⟩) (by simp)).trans (by go_simp));have c1:w2.cell? ⟨w.heap.size,1,none⟩=some (.int .u64 q):=(hb2.cell (p:=⟨w.heap.size,1,none⟩) (by simp;omega)).trans ((hb1.cell (p:=⟨w.heap.size,1,none⟩) (by simp;omega)).trans (by go_simp));have f1:w2.frozen? ⟨w.heap.size,1,none⟩=false:=(hb2.frozen (p:=⟨w.heap.size,1,none⟩) (by simp;omega)).trans ((hb1.frozen (p:=⟨w.heap.size,1,none⟩) (by simp;omega)).trans (by go_simp));have d1:w2.cell? ⟨w.heap.size+1,1,none⟩=some (.int .u64 0):=(hb2.cell (p:=⟨w.heap.size+1,1,none⟩) (by simp;omega)).trans ((hb1.cell (p:=⟨w.heap.size+1,1,none⟩) (by simp)).trans (by go_simp));have h1:w2.frozen? ⟨w.heap.size+1,1,none⟩=false:=(hb2.frozen (p:=⟨w.heap.size+1,1,none⟩) (by simp;omega)).trans ((hb1.frozen (p:=⟨w.heap.size+1,1,none⟩) (by simp)).trans (by go_simp));have c2:w2.cell? ⟨w.heap.size,2,none⟩=some (.int .u64 r):=(hb2.cell (p:=⟨w.heap.size,2,none⟩) (by simp;omega)).trans ((hb1.cell (p:=⟨w.heap.size,2,none⟩) (by simp;omega)).trans (by go_simp));have f2:w2.frozen? ⟨w.heap.size,2,none⟩=false:=(hb2.frozen (p:=⟨w.heap.size,2,none⟩) (by simp;omega)).trans ((hb1.frozen (p:=⟨w.heap.size,2,none⟩) (by simp;omega)).trans (by go_simp));have d2:w2.cell? ⟨w.heap.size+1,2,none⟩=some (.int .u64 0):=(hb2.cell (p:=⟨w.heap.size+1,2,none⟩) (by simp;omega)).trans ((hb1.cell (p:=⟨w.heap.size+1,2,none⟩) (by simp)).trans (by go_simp));have h2:w2.frozen? ⟨w.heap.size+1,2,none⟩=false:=(hb2.frozen (p:=⟨w.heap.size+1,2,none⟩) (by simp;omega)).trans ((hb1.frozen (p:=⟨w.heap.size+1,2,none⟩) (by simp)).trans (by go_simp));have c3:w2.cell? ⟨w.heap.size,3,none⟩=some (.int .u64 (bits .xor .u64 s m)):=(hb2.cell (p:=⟨w.heap.size,3,none⟩) (by simp;omega)).trans ((hb1.cell (p:=⟨w.heap.size,3,none⟩) (by simp;omega)).trans (by go_simp));have f3:w2.frozen? ⟨w.heap.size,3,none⟩=false:=(hb2.frozen (p:=⟨w.heap.size,3,none⟩) (by simp;omega)).trans ((hb1.frozen (p:=⟨w.heap.size,3,none⟩) (by simp;omega)).trans (by go_simp));have d3:w2.cell? ⟨w.heap.size+1,3,none⟩=some (.int .u64 0):=(hb2.cell (p:=⟨w.heap.size+1,3,none⟩) (by simp;omega)).trans ((hb1.cell (p:=⟨w.heap.size+1,3,none⟩) (by simp)).trans (by go_simp));have h3:w2.frozen? ⟨w.heap.size+1,3,none⟩=false:=(hb2.frozen (p:=⟨w.heap.size+1,3,none⟩) (by simp;omega)).trans ((hb1.frozen (p:=⟨w.heap.size+1,3,none⟩) (by simp)).trans (by go_simp))))
 refine bodyPost_ret (v:= .agg #[.int .u64 (bits .xor .u64 (round X).p m),.int .u64 (round X).q,.int .u64 (round X).r,.int .u64 (round X).s]) (by simp[results,Tryz.results222,go_sem,d0,d1,d2,d3]) rfl ⟨by rw[HE.out];rfl,?_⟩
 have hb:Below w.heap.size w w2:=by
  refine Below.trans ?_ ((hb1.mono (B':=w.heap.size) (by simp;omega)).trans (hb2.mono (B':=w.heap.size) (by omega)))
  repeat (first|exact Below.refl _ _|refine Below.setCell ?_ (by simp) _|refine Below.alloc ?_ (by simp) _)
 repeat (first|(with_reducible exact hb)|refine Below.setCell ?_ (by simp) _)
theorem qplus_q (f:Quad)(m:Int)(w:World)(h:f.ok):
 Calls Tryz.prog 222 #[.agg #[.int .u64 f.p,.int .u64 f.q,.int .u64 f.r,.int .u64 f.s],.int .u64 m] w fun e w'=>e= .returned (.agg #[.int .u64 (quadPlus f m).p,.int .u64 (quadPlus f m).q,.int .u64 (quadPlus f m).r,.int .u64 (quadPlus f m).s])∧Below w.heap.size w w':=qplus_any f.p f.q f.r f.s m w h
end Sa
namespace Hd
open Bytes8 Blk8 Hm Ha Hb Hc
theorem look_nil_any (A:Option Addr)(cap:Nat)(w:World):
 Calls Tryz.prog 173 #[.slice A 0 cap] w fun e w'=>e= .returned (.int .u64 (lookS []))∧Below w.heap.size w w':=by
 have h0:(⟨3735928559,3735928559,3735928559⟩:Trio).ok:=by unfold Trio.ok;decide
 go_enter Tryz.func173,Tryz.ntmps173
 go_wp2_with(go_at_call 206;(with_reducible refine(answer_any _ _ _ _ h0).mono ?_);rintro e w1 ⟨rfl,hbel⟩)
 go_ret
 refine⟨ret_int (by decide+kernel),?_⟩
 have h1:=((Below.refl w.heap.size w).alloc (Nat.le_refl _) (.cells #[.int .u32 3735928559,.int .u32 3735928559,.int .u32 3735928559] 300))
 exact h1.trans (hbel.mono h1.size)
def Rest (w0:World)(g:Nat)(t:Trio)(w:World):Prop:=Blk w g [.int .u32 t.x,.int .u32 t.y,.int .u32 t.z] 300∧Below w0.heap.size w0 w
theorem w4_drop (l:List Int)(k o:Nat):w4 (l.drop k) o=w4 l (k+o):=by simp[w4,List.drop_drop]
theorem w4_take (l:List Int)(n o:Nat)(h:o+4≤n):w4 (l.take n) o=w4 l o:=by
 unfold w4
 rw[List.drop_take,List.take_take,Nat.min_eq_left (by omega)]
theorem plus3_drop (t:Trio)(l:List Int)(k:Nat):plus3 t (l.drop k) 0=plus3 t l k:=by
 simp only[plus3,w4_drop,Nat.add_zero]
theorem plus3_take (t:Trio)(l:List Int):plus3 t (l.take 12) 0=plus3 t l 0:=by
 simp only[plus3,w4_take l 12 0 (by omega),w4_take l 12 (0+4) (by omega),w4_take l 12 (0+8) (by omega)]
theorem plus_block (t:Trio)(a:Option Addr)(l:List Int)(cap:Nat)(w:World)(hb:Bytes w a l)(hlen:12≤l.length)(ht:t.ok):
 Calls Tryz.prog 207 #[.agg #[.int .u32 t.x,.int .u32 t.y,.int .u32 t.z],.slice a 12 cap] w fun e w'=>e= .returned (.agg #[.int .u32 (plus3 t l 0).x,.int .u32 (plus3 t l 0).y,.int .u32 (plus3 t l 0).z])∧Below w.heap.size w w':=by
 have hb':Bytes w a (l.take 12):=by
  have h:=hb.part 0 12 a (fun b off e _ _=>by rw[e];rfl)
  rwa[List.drop_zero]at h
 have h:=plus_any t.x t.y t.z a (l.take 12) 12 cap w hb' (by simp;omega) (by decide) ht
 rw[plus3_take]at h
 exact h
theorem mixed_block (t:Trio)(w:World)(ht:t.ok):
 Calls Tryz.prog 208 #[.agg #[.int .u32 t.x,.int .u32 t.y,.int .u32 t.z]] w fun e w'=>e= .returned (.agg #[.int .u32 (mix t).x,.int .u32 (mix t).y,.int .u32 (mix t).z])∧Below w.heap.size w w':=mixed_any t.x t.y t.z w ht
theorem rest_step (w0 w:World)(t t' t2:Trio)(he:t2=t')(h:Blk w w0.heap.size [.int .u32 t.x,.int .u32 t.y,.int .u32 t.z] 300)(hb:Below w0.heap.size w0 w):
 Rest w0 w0.heap.size t2 (((w.setCell ⟨w0.heap.size,0,none⟩ (.int .u32 t'.x)).setCell ⟨w0.heap.size,1,none⟩ (.int .u32 t'.y)).setCell ⟨w0.heap.size,2,none⟩ (.int .u32 t'.z)):=by
 subst he
 exact⟨((h.set_ 0 _).set_ 1 _).set_ 2 _,((hb.setCell (Nat.le_refl _) _).setCell (Nat.le_refl _) _).setCell (Nat.le_refl _) _⟩
theorem trioAt_succ (l:List Int)(k:Nat):trioAt l (k+1)=mix (plus3 (trioAt l k) (l.drop (12*k)) 0):=by
 rw[plus3_drop];rfl
theorem look_any (A:Option Addr)(l:List Int)(len cap:Nat)(w:World)(hb:Bytes w A l)(hL:l.length=len)(hpos:0<len)(hmax:len≤1000000)(hcap:len≤cap)(hcap2:cap≤maxLen):
 Calls Tryz.prog 173 #[.slice A len cap] w fun e w'=>e= .returned (.int .u64 (lookS l))∧Below w.heap.size w w':=by
 unfold maxLen at hcap2
 obtain⟨b,off,rfl,hlt,hc⟩:=hb.spot (by omega)
 clear hlt hc
 have HB:=Lib.hid hb
 have HL:=Lib.hid hL
 clear hb hL
 have HS:=Lib.hid (show lookInit l=⟨3735928559+(len:Int),3735928559+(len:Int),3735928559+(len:Int)⟩by
  have e:add32 3735928559 (l.length:Int)=3735928559+(len:Int):=by have:=HL.out;unfold add32;omega
  unfold lookInit;rw[e])
 have hne:((len:Int)==0)=false:=by simp;omega
 go_enter Tryz.func173,Tryz.ntmps173
 go_wp2
 go_loopw [0] (fun s wr=> ∃k n c:Nat,Hid (len=12*k+n∧cap=12*k+c)∧0<n∧n≤len∧c≤cap∧n≤c∧s= .slice (some ⟨b,off+12*k,none⟩) n c∧Hid (Rest w w.heap.size (trioAt l k) wr)) (fun s _=>match s with| .slice _ n _=>n|_=>0)
 case atStart=>exact⟨0,len,cap,Lib.hid ⟨by omega,by omega⟩,hpos,Nat.le_refl _,Nat.le_refl _,hcap,rfl,by show Hid (Rest _ _ (lookInit l) _);rw[HS.out];exact⟨Blk.new _ _ _,(Below.refl _ _).alloc (Nat.le_refl _) _⟩⟩
 case round=>
  obtain⟨k,n,c,hn,hn0,hn1,hc1,hnc,rfl,hr⟩:=hrel
  have R1:=Lib.hid hr.out.1
  have R2:=Lib.hid hr.out.2
  have g0:=hr.out.1.cell (i:=0) rfl
  have g1:=hr.out.1.cell (i:=1) rfl
  have g2:=hr.out.1.cell (i:=2) rfl
  have hz:=hr.out.2.size
  have hlt:=hr.out.1.lt
  have HK:=Lib.hid (HB.out.part (12*k) n (some ⟨b,off+12*k,none⟩) (fun b' off' e _ _=>by simp at e;obtain⟨rfl,rfl⟩:=e;rfl))
  rw[List.take_of_length_le (by have:=HL.out;have:=hn.out.1;simp;omega)]at HK
  have HKl:=Lib.hid (show(l.drop (12*k)).length=n by have:=HL.out;have:=hn.out.1;simp;omega)
  have HKd:=Lib.hid (HK.out.below R2.out (Nat.le_refl _)).drew
  by_cases h12:12<n
  ·have H12:=Lib.hid (show 12≤(l.drop (12*k)).length by have:=HKl.out;omega)
   have hd:decide ((12:Int)<(n:Int))=true:=by simp;omega
   go_wp2
   go_region_with (first|(go_at_call 207;(with_reducible refine(plus_block (trioAt l k) _ (l.drop (12*k)) _ _ HKd.out H12.out (trioAt_ok l k)).mono ?_);rintro e w2 ⟨rfl,hb2⟩)|(go_at_call 208;(with_reducible refine(mixed_block _ _ (plus3_ok _ _ _)).mono ?_);rintro e w3 ⟨rfl,hb3⟩;have hR3:=Lib.hid ((R1.out.drew.below hb2 hlt).below hb3 (Nat.lt_of_lt_of_le hlt hb2.size));have e0:=hR3.out.cell (i:=0) rfl;have e1:=hR3.out.cell (i:=1) rfl;have e2:=hR3.out.cell (i:=2) rfl;have f0:=hR3.out.frozen 0;have f1:=hR3.out.frozen 1;have f2:=hR3.out.frozen 2))
   all_goals
    go_wp2
    go_roundw
    case rel=>
     have:=hn.out.1
     have:=hn.out.2
     refine⟨k+1,n-12,c-12,Lib.hid ⟨by omega,by omega⟩,by omega,by omega,by omega,by omega,by first|rfl|(congr 3;omega),?_⟩
     exact rest_step w w3 (trioAt l k) _ _ (trioAt_succ l k) hR3.out ((R2.out.drew.trans (hb2.mono hz)).trans (hb3.mono (Nat.le_trans hz hb2.size)))
    case measure=>simp;omega
  ·have hd:decide ((12:Int)<(n:Int))=false:=by simp;omega
   have HE:=Lib.hid (show(l.length-1)/12=k by rw[HL.out,hn.out.1];omega)
   have hS:=Lib.hid (show lookS l=ans (fin (plus3 (trioAt l k) (l.drop (12*k)) 0))by
    unfold lookS
    rw[if_neg (by intro h;have:=HL.out;have:=hn.out.1;rw[h]at*;simp at*;omega),HE.out,plus3_drop])
   go_wp2_with(first|(go_at_call 207;(with_reducible refine(plus_any (trioAt l k).x (trioAt l k).y (trioAt l k).z _ (l.drop (12*k)) _ _ _ (HK.out.below R2.out (Nat.le_refl _)) HKl.out (by omega) (trioAt_ok l k)).mono ?_);rintro e w2 ⟨rfl,hb2⟩)|(go_at_call 209;(with_reducible refine(finished_any _ _ _ _ (plus3_ok _ _ _)).mono ?_);rintro e w3 ⟨rfl,hb3⟩)|(go_at_call 206;(with_reducible refine(answer_any _ _ _ _ (fin_ok _)).mono ?_);rintro e w4 ⟨rfl,hb4⟩))
   go_ret
   refine⟨ret_int hS.out.symm,?_⟩
   have h3:=R2.out.trans (hb2.mono hz)
   have h4:=h3.trans (hb3.mono h3.size)
   exact h4.trans (hb4.mono h4.size)
end Hd
namespace Se
open Bytes8 Hm Hd Hf
theorem look_all (A:Option Addr)(l:List Int)(len cap:Nat)(w:World)(hb:Bytes w A l)(hL:l.length=len)(hmax:len≤800000)(hcap:len≤cap)(hcap2:cap≤maxLen):
 Calls Tryz.prog 173 #[.slice A len cap] w fun e w'=>e= .returned (.int .u64 (lookS l))∧Below w.heap.size w w':=by
 by_cases h0:0<len
 ·exact look_any A l len cap w hb hL h0 (by omega) hcap hcap2
 ·obtain rfl:len=0:=by omega
  obtain rfl:l=[]:=List.eq_nil_of_length_eq_zero hL
  exact look_nil_any A cap w
theorem rlook_all (A:Option Addr)(l:List Int)(len cap:Nat)(w:World)(hb:Bytes w A l)(hL:l.length=len)(hmax:len≤800000):
 Calls Tryz.prog 166 #[.slice A len cap] w fun e w'=>e= .returned (.int .u64 (lookS l))∧w=w':=by
 by_cases h0:0<len
 ·exact rlook_any A l len cap w hb hL h0 (by omega)
 ·obtain rfl:len=0:=by omega
  obtain rfl:l=[]:=List.eq_nil_of_length_eq_zero hL
  exact rlook_nil A cap w
end Se
namespace Sb
open Bytes8 Blk8 Hm Ha He
theorem rrounds_any (p q r s:Int)(n:Nat)(w:World)(h:(⟨p,q,r,s⟩:Quad).ok)(hn:n≤1000):
 Calls Tryz.prog 200 #[.agg #[.int .u64 p,.int .u64 q,.int .u64 r,.int .u64 s],.int .i64 n] w fun e w'=>e= .returned (.agg #[.int .u64 (rounds ⟨p,q,r,s⟩ n).p,.int .u64 (rounds ⟨p,q,r,s⟩ n).q,.int .u64 (rounds ⟨p,q,r,s⟩ n).r,.int .u64 (rounds ⟨p,q,r,s⟩ n).s])∧Below w.heap.size w w':=by
 have HF:=Lib.hid h
 go_enter Tryz.func200,Tryz.ntmps200
 go_wp2
 go_quiet (fail)
 go_wp2
 go_loop [5,6,7,8,9] (fun a b c d i=> ∃k:Nat,k≤n∧i= .int .i64 k∧a= .int .u64 (rounds ⟨p,q,r,s⟩ k).p∧b= .int .u64 (rounds ⟨p,q,r,s⟩ k).q∧c= .int .u64 (rounds ⟨p,q,r,s⟩ k).r∧d= .int .u64 (rounds ⟨p,q,r,s⟩ k).s) (fun _ _ _ _ i=>n-(intOf i).toNat)
 case atStart=>exact⟨0,Nat.zero_le _,rfl,rfl,rfl,rfl,rfl⟩
 case round=>
  obtain⟨k,hk,rfl,rfl,rfl,rfl,rfl⟩:=hrel
  have HO:=Lib.hid (rounds_ok ⟨p,q,r,s⟩ HF.out k)
  by_cases hlt:k<n
  ·have HN:=Lib.hid (show rounds ⟨p,q,r,s⟩ (k+1)=round (rounds ⟨p,q,r,s⟩ k)from rfl)
   generalize rounds ⟨p,q,r,s⟩ k=F at*
   obtain⟨P,Q,R,S⟩:=F
   obtain⟨⟨p0,p1⟩,⟨q0,q1⟩,⟨r0,r1⟩,⟨s0,s1⟩⟩:=HO.out
   simp only at p0 p1 q0 q1 r0 r1 s0 s1
   go_wp2_with(go_at_call 221;(with_reducible refine(up_any _ _ _ (by first|assumption|exact(b64 _ _ _).1|exact(rot64_bd _ _).1|exact(wrap64_bd _).1|omega) (by first|assumption|exact(b64 _ _ _).2|exact(rot64_bd _ _).2|exact(wrap64_bd _).2|omega) (by decide) (by decide)).mono ?_);rintro e w' ⟨rfl,rfl⟩)
   go_round
   case rel=>
    refine⟨k+1,by omega,by go_num,?_,?_,?_,?_⟩<;>rw[HN.out]<;>simp[round,add64,xor64,IntKind.wrap_u64]
   case measure=>simp[intOf];omega
  ·obtain rfl:k=n:=by omega
   go_wp2
   generalize rounds ⟨p,q,r,s⟩ k=F at*
   refine bodyPost_ret (v:= .agg #[.int .u64 F.p,.int .u64 F.q,.int .u64 F.r,.int .u64 F.s]) (by simp[results,Tryz.results200,go_sem]) rfl ⟨rfl,?_⟩
   repeat (first|(with_reducible exact Below.refl _ _)|refine Below.setCell ?_ (by simp) _|refine Below.alloc ?_ (by simp) _|refine below_drewN ?_ _)
theorem eight_key (K:Nat→Int)(A:Option Addr)(o:Nat)(i:Int)(hi:i=o)(ho:o≤8)(w:World)(hb:Bytes w A (idL K)):
 Calls Tryz.prog 199 #[.slice A 16 16,.int .i64 i] w fun e w'=>e= .returned (.int .u64 (w8 (idL K) o))∧w=w':=by
 subst hi;exact eight_any A (idL K) 16 16 o w hb rfl (by decide) (by omega)
def Four (w0:World)(g:Nat)(f:Quad)(w:World):Prop:=Blk w g [.int .u64 f.p,.int .u64 f.q,.int .u64 f.r,.int .u64 f.s] 292∧Below w0.heap.size w0 w
theorem rrounds_q (f:Quad)(n:Nat)(i:Int)(hi:i=n)(hn:n≤1000)(w:World)(h:f.ok):
 Calls Tryz.prog 200 #[.agg #[.int .u64 f.p,.int .u64 f.q,.int .u64 f.r,.int .u64 f.s],.int .i64 i] w fun e w'=>e= .returned (.agg #[.int .u64 (rounds f n).p,.int .u64 (rounds f n).q,.int .u64 (rounds f n).r,.int .u64 (rounds f n).s])∧Below w.heap.size w w':=by
 subst hi;exact rrounds_any f.p f.q f.r f.s n w h hn
theorem four_step (w0 w:World)(g:Nat)(a b c d p q r s e:Value)(f:Quad)(h:Blk w g [p,q,r,s] 292)(hb:Below w0.heap.size w0 w)(hg:w0.heap.size≤g)(e0:e= .int .u64 f.p)(e1:b= .int .u64 f.q)(e2:c= .int .u64 f.r)(e3:d= .int .u64 f.s):
 Four w0 g f (((((w.setCell ⟨g,0,none⟩ a).setCell ⟨g,1,none⟩ b).setCell ⟨g,2,none⟩ c).setCell ⟨g,3,none⟩ d).setCell ⟨g,0,none⟩ e):=by
 subst e0;subst e1;subst e2;subst e3
 exact⟨((((h.set_ 0 _).set_ 1 _).set_ 2 _).set_ 3 _).set_ 0 _,((((hb.setCell hg _).setCell hg _).setCell hg _).setCell hg _).setCell hg _⟩
theorem six_below {w0 w:World}{B g:Nat}(h:Below B w0 w)(hg:B≤g)(a b c d e f:Value):
 Below B w0 ((((((w.setCell ⟨g,0,none⟩ a).setCell ⟨g,1,none⟩ b).setCell ⟨g,2,none⟩ c).setCell ⟨g,3,none⟩ d).setCell ⟨g,0,none⟩ e).setCell ⟨g,2,none⟩ f):=
 (((((h.setCell hg _).setCell hg _).setCell hg _).setCell hg _).setCell hg _).setCell hg _
theorem six_sets {w:World}{g:Nat}{p q r s:Value}{T:TypeId}(h:Blk w g [p,q,r,s] T)(a b c d e f:Value):
 Blk ((((((w.setCell ⟨g,0,none⟩ a).setCell ⟨g,1,none⟩ b).setCell ⟨g,2,none⟩ c).setCell ⟨g,3,none⟩ d).setCell ⟨g,0,none⟩ e).setCell ⟨g,2,none⟩ f) g [e,b,f,d] T:=
 (((((h.set_ 0 _).set_ 1 _).set_ 2 _).set_ 3 _).set_ 0 _).set_ 2 _
theorem quad_next (key l:List Int)(k:Nat)(o:Nat)(ho:o=8*k):quadAt key l (k+1)=quadPlus (quadAt key l k) (w8 l o):=by subst ho;rfl
theorem quadPlus_two (f:Quad)(m:Int):quadPlus f m=⟨bits .xor .u64 (rounds ⟨f.p,f.q,f.r,bits .xor .u64 f.s m⟩ 2).p m,(rounds ⟨f.p,f.q,f.r,bits .xor .u64 f.s m⟩ 2).q,(rounds ⟨f.p,f.q,f.r,bits .xor .u64 f.s m⟩ 2).r,(rounds ⟨f.p,f.q,f.r,bits .xor .u64 f.s m⟩ 2).s⟩:=rfl
theorem sipEnd_two (f:Quad)(m:Int):sipEnd f m=bits .xor .u64 (bits .xor .u64 (bits .xor .u64 (rounds ⟨bits .xor .u64 (rounds ⟨f.p,f.q,f.r,bits .xor .u64 f.s m⟩ 2).p m,(rounds ⟨f.p,f.q,f.r,bits .xor .u64 f.s m⟩ 2).q,bits .xor .u64 (rounds ⟨f.p,f.q,f.r,bits .xor .u64 f.s m⟩ 2).r 255,(rounds ⟨f.p,f.q,f.r,bits .xor .u64 f.s m⟩ 2).s⟩ 4).p (rounds ⟨bits .xor .u64 (rounds ⟨f.p,f.q,f.r,bits .xor .u64 f.s m⟩ 2).p m,(rounds ⟨f.p,f.q,f.r,bits .xor .u64 f.s m⟩ 2).q,bits .xor .u64 (rounds ⟨f.p,f.q,f.r,bits .xor .u64 f.s m⟩ 2).r 255,(rounds ⟨f.p,f.q,f.r,bits .xor .u64 f.s m⟩ 2).s⟩ 4).q) (rounds ⟨bits .xor .u64 (rounds ⟨f.p,f.q,f.r,bits .xor .u64 f.s m⟩ 2).p m,(rounds ⟨f.p,f.q,f.r,bits .xor .u64 f.s m⟩ 2).q,bits .xor .u64 (rounds ⟨f.p,f.q,f.r,bits .xor .u64 f.s m⟩ 2).r 255,(rounds ⟨f.p,f.q,f.r,bits .xor .u64 f.s m⟩ 2).s⟩ 4).r) (rounds ⟨bits .xor .u64 (rounds ⟨f.p,f.q,f.r,bits .xor .u64 f.s m⟩ 2).p m,(rounds ⟨f.p,f.q,f.r,bits .xor .u64 f.s m⟩ 2).q,bits .xor .u64 (rounds ⟨f.p,f.q,f.r,bits .xor .u64 f.s m⟩ 2).r 255,(rounds ⟨f.p,f.q,f.r,bits .xor .u64 f.s m⟩ 2).s⟩ 4).s:=rfl
set_option maxRecDepth 100000 in
theorem rsip_any (K:Nat→Int)(A:Option Addr)(l:List Int)(len cap:Nat)(w:World)(hk:IdOk K)(hb:Bytes w A l)(hL:l.length=len)(hmax:len≤800000):
 Calls Tryz.prog 165 #[idV K,.slice A len cap] w fun e w'=>e= .returned (.int .u64 (sipS (idL K) l))∧Below w.heap.size w w':=by
 have HK:=Lib.hid (id_boxed 62 K hk w)
 have HB:=Lib.hid (And.intro hb hL)
 have HQ:=Lib.hid (quadAt_ok (idL K) l)
 clear hb hL
 have HE0:=Lib.hid fun n=>quiet_kept (n:=n) (eight_key K _ 0 0 rfl (by decide) _ (HK.out.drewN n))
 have HE8:=Lib.hid fun n=>quiet_kept (n:=n) (eight_key K _ 8 8 rfl (by decide) _ (HK.out.drewN n))
 go_enter Tryz.func165,Tryz.ntmps165
 go_wp2
 go_quiet ((go_at_call 199;first|with_reducible exact HE0.out _|with_reducible exact HE8.out _))
 go_wp2
 go_loopw [8] (fun i wr=> ∃k o:Nat,Hid (o=8*k)∧o≤len∧i= .int .i64 o∧Hid (Four w (w.heap.size+1) (quadAt (idL K) l k) wr)) (fun i _=>len-(intOf i).toNat)
 case atStart=>exact⟨0,0,Lib.hid rfl,Nat.zero_le _,rfl,Lib.hid ⟨Blk.new_at _ _ _ _ (by simp),below_drewN ((Below.refl _ _).alloc (Nat.le_refl _) _) _ |>.alloc (by simp) _⟩⟩
 case round=>
  obtain⟨k,o,ho,hlt,rfl,hr⟩:=hrel
  have R1:=Lib.hid hr.out.1
  have R2:=Lib.hid hr.out.2
  have hz:=R1.out.lt
  have HM:=Lib.hid (eight_any A l len cap o wr (HB.out.1.below R2.out (Nat.le_refl _)) HB.out.2 (by omega) (by omega))
  have HO:=Lib.hid (HQ.out k)
  have hn:=quad_next (idL K) l k o ho.out
  rw[quadPlus_two]at hn
  have HN:=Lib.hid hn
  clear hn
  have HR:=Lib.hid fun W=>rrounds_q ⟨(quadAt (idL K) l k).p,(quadAt (idL K) l k).q,(quadAt (idL K) l k).r,bits .xor .u64 (quadAt (idL K) l k).s (w8 l o)⟩ 2 2 rfl (by decide) W ⟨HO.out.1,HO.out.2.1,HO.out.2.2.1,b64 .xor _ _⟩
  simp only at HR
  have g0:=R1.out.cell (i:=0) rfl
  have g1:=R1.out.cell (i:=1) rfl
  have g2:=R1.out.cell (i:=2) rfl
  have g3:=R1.out.cell (i:=3) rfl
  have f0:=R1.out.frozen 0
  have f1:=R1.out.frozen 1
  have f2:=R1.out.frozen 2
  have f3:=R1.out.frozen 3
  by_cases h8:o+8≤len
  ·have hd:decide (o+8≤len)=true:=by simpa using h8
   generalize rounds ⟨(quadAt (idL K) l k).p,(quadAt (idL K) l k).q,(quadAt (idL K) l k).r,bits .xor .u64 (quadAt (idL K) l k).s (w8 l o)⟩ 2=G at*
   generalize quadAt (idL K) l k=F at*
   generalize w8 l o=m at*
   go_wp2_with(first|(go_at_call 199;(with_reducible refine HM.out.mono ?_);rintro e w' ⟨rfl,rfl⟩)|(go_at_call 200;(with_reducible refine(HR.out _).mono ?_);rintro e w2 ⟨rfl,hb2⟩;have R3:=Lib.hid ((R1.out.set_ 3 _).below hb2 (by simpa using hz));have c0:=R3.out.cell (i:=0) rfl;have c1:=R3.out.cell (i:=1) rfl;have c2:=R3.out.cell (i:=2) rfl;have c3:=R3.out.cell (i:=3) rfl;have h0:=R3.out.frozen 0;have h1:=R3.out.frozen 1;have h2:=R3.out.frozen 2;have h3:=R3.out.frozen 3))
   go_roundw
   case rel=>
    have hzw:=R2.out.size
    refine⟨k+1,o+8,Lib.hid (by have:=ho.out;omega),by omega,by go_num,Lib.hid (four_step w w2 (w.heap.size+1) _ _ _ _ _ _ _ _ _ _ R3.out ((R2.out.setCell (by simp) _).trans (hb2.mono (by simpa using hzw))) (by simp) ?_ ?_ ?_ ?_)⟩<;>rw[HN.out]
   case measure=>simp[intOf];omega
  ·have hd:decide (o+8≤len)=false:=by simpa using h8
   clear HN HR
   have hk:l.length/8=k:=by rw[HB.out.2];have:=ho.out;omega
   obtain⟨M,hM⟩: ∃M,bits .or .u64 (w8 l o) ((len:Int)%256*72057594037927936)=M:=⟨_,rfl⟩
   have he:=(show sipS (idL K) l=sipEnd (quadAt (idL K) l k) M by
    unfold sipS last8;rw[hk,HB.out.2,←ho.out,hM])
   rw[sipEnd_two]at he
   have HE:=Lib.hid he
   clear he
   have HR:=Lib.hid fun W=>rrounds_q ⟨(quadAt (idL K) l k).p,(quadAt (idL K) l k).q,(quadAt (idL K) l k).r,bits .xor .u64 (quadAt (idL K) l k).s M⟩ 2 2 rfl (by decide) W ⟨HO.out.1,HO.out.2.1,HO.out.2.2.1,b64 .xor _ _⟩
   have HG:=Lib.hid (rounds_ok ⟨(quadAt (idL K) l k).p,(quadAt (idL K) l k).q,(quadAt (idL K) l k).r,bits .xor .u64 (quadAt (idL K) l k).s M⟩ ⟨HO.out.1,HO.out.2.1,HO.out.2.2.1,b64 .xor _ _⟩ 2)
   simp only at HR
   clear hk
   generalize rounds ⟨(quadAt (idL K) l k).p,(quadAt (idL K) l k).q,(quadAt (idL K) l k).r,bits .xor .u64 (quadAt (idL K) l k).s M⟩ 2=G at HE HR HG
   generalize quadAt (idL K) l k=F at*
   have HR4:=Lib.hid fun W=>rrounds_q ⟨bits .xor .u64 G.p M,G.q,bits .xor .u64 G.r 255,G.s⟩ 4 4 rfl (by decide) W ⟨b64 .xor _ _,HG.out.2.1,b64 .xor _ _,HG.out.2.2.2⟩
   simp only at HR4
   generalize rounds ⟨bits .xor .u64 G.p M,G.q,bits .xor .u64 G.r 255,G.s⟩ 4=J at HE HR4
   generalize w8 l o=m at HM hM
   go_upto_region 15 with(first|(go_at_call 199;(with_reducible refine HM.out.mono ?_);rintro e w' ⟨rfl,rfl⟩)|(go_at_call 200;(with_reducible refine(HR.out _).mono ?_);rintro e w2 ⟨rfl,hb2⟩;have R3:=Lib.hid ((R1.out.set_ 3 _).below hb2 (by simpa using hz));have c0:=R3.out.cell (i:=0) rfl;have c1:=R3.out.cell (i:=1) rfl;have c2:=R3.out.cell (i:=2) rfl;have c3:=R3.out.cell (i:=3) rfl;have h0:=R3.out.frozen 0;have h1:=R3.out.frozen 1;have h2:=R3.out.frozen 2;have h3:=R3.out.frozen 3;have hz2:=R3.out.lt;clear hM g0 g1 g2 g3 f0 f1 f2 f3)|(go_at_call 200;go_must ((with_reducible refine(HR4.out _).mono ?_);rintro e w4 ⟨rfl,hb4⟩;have R4:=Lib.hid ((((((R3.out.set_ 0 _).set_ 1 _).set_ 2 _).set_ 3 _).set_ 0 _).set_ 2 _ |>.below hb4 (by simpa using hz2));have a0:=R4.out.cell (i:=0) rfl;have a1:=R4.out.cell (i:=1) rfl;have a2:=R4.out.cell (i:=2) rfl;have a3:=R4.out.cell (i:=3) rfl;have b0:=R4.out.frozen 0;have b1:=R4.out.frozen 1;have b2:=R4.out.frozen 2;have b3:=R4.out.frozen 3;clear c0 c1 c2 c3 h0 h1 h2 h3)))
   have hzw:=R2.out.size
   have k2:Below w.heap.size w w2:=(R2.out.setCell (by simp) _).trans (hb2.mono (by simpa using hzw))
   have k5:=six_below k2 (g:=w.heap.size+1) (by simp) (.int .u64 G.p) (.int .u64 G.q) (.int .u64 G.r) (.int .u64 G.s) (.int .u64 (bits .xor .u64 G.p M)) (.int .u64 (bits .xor .u64 G.r 255))
   have R5:=six_sets R3.out (.int .u64 G.p) (.int .u64 G.q) (.int .u64 G.r) (.int .u64 G.s) (.int .u64 (bits .xor .u64 G.p M)) (.int .u64 (bits .xor .u64 G.r 255))
   generalize (((((w2.setCell ⟨w.heap.size+1,0,none⟩ (.int .u64 G.p)).setCell ⟨w.heap.size+1,1,none⟩ (.int .u64 G.q)).setCell ⟨w.heap.size+1,2,none⟩ (.int .u64 G.r)).setCell ⟨w.heap.size+1,3,none⟩ (.int .u64 G.s)).setCell ⟨w.heap.size+1,0,none⟩ (.int .u64 (bits .xor .u64 G.p M))).setCell ⟨w.heap.size+1,2,none⟩ (.int .u64 (bits .xor .u64 G.r 255))=w5 at k5 R5⊢
   have hz5:=R5.lt
   have R5:=Lib.hid R5
   have c0:=R5.out.cell (i:=0) rfl
   have c1:=R5.out.cell (i:=1) rfl
   have c2:=R5.out.cell (i:=2) rfl
   have c3:=R5.out.cell (i:=3) rfl
   have h0:=R5.out.frozen 0
   have h1:=R5.out.frozen 1
   have h2:=R5.out.frozen 2
   have h3:=R5.out.frozen 3
   go_wp2_with(go_at_call 200;(with_reducible refine(HR4.out _).mono ?_);rintro e w4 ⟨rfl,hb4⟩;have R4:=Lib.hid (R5.out.below hb4 hz5);have a0:=R4.out.cell (i:=0) rfl;have a1:=R4.out.cell (i:=1) rfl;have a2:=R4.out.cell (i:=2) rfl;have a3:=R4.out.cell (i:=3) rfl;have b0:=R4.out.frozen 0;have b1:=R4.out.frozen 1;have b2:=R4.out.frozen 2;have b3:=R4.out.frozen 3;clear c0 c1 c2 c3 h0 h1 h2 h3)
   go_ret
   refine⟨ret_int HE.out.symm,?_⟩
   have k4:Below w.heap.size w w4:=k5.trans (hb4.mono (by omega))
   repeat (first|(with_reducible exact k4)|refine Below.setCell ?_ (by simp) _)
end Sb
namespace Sb
end Sb
namespace Sc
open Bytes8 Blk8 LeNum LeA LeB Hm Sa Sm
def SumAt (w:World)(g:Nat)(key l:List Int):Prop:=AllB l∧Blk w g [.int .u64 (quadAt key l (l.length/8)).p,.int .u64 (quadAt key l (l.length/8)).q,.int .u64 (quadAt key l (l.length/8)).r,.int .u64 (quadAt key l (l.length/8)).s,.int .u64 (left8 l),.int .u8 ((l.length:Int)%256)] 317
theorem get_key (K:Nat→Int)(A:Option Addr)(o:Nat)(i:Int)(hi:i=o)(ho:o+8≤16)(w:World)(hb:Bytes w A (idL K)):
 Calls Tryz.prog 96 #[.slice A 16 16,.int .i64 i,.int .i64 8] w fun e w'=>e= .returned (.tuple #[.int .u64 (w8 (idL K) o),.bool true])∧w=w':=by
 subst hi
 exact get_yes A (idL K) 16 o 8 w (by simp[idL]) (by simp[fits,isW,idL];omega) hb (by decide) (by decide) (by simp[idL];omega)
theorem new_any (K:Nat→Int)(w:World)(hk:IdOk K):
 Calls Tryz.prog 203 #[idV K] w fun e w'=>e= .returned (.pointer (some ⟨w.heap.size+1,0,none⟩))∧SumAt w' (w.heap.size+1) (idL K) []∧Below w.heap.size w w':=by
 have HK:=Lib.hid (id_boxed 62 K hk w)
 have HG0:=Lib.hid (get_key K _ 0 0 rfl (by decide) _ HK.out)
 have HG8:=Lib.hid (get_key K _ 8 8 rfl (by decide) _ HK.out)
 have HE:=Lib.hid (show keyed (idL K)=⟨bits .xor .u64 (w8 (idL K) 0) 8317987319222330741,bits .xor .u64 (w8 (idL K) 8) 7237128888997146477,bits .xor .u64 (w8 (idL K) 0) 7816392313619706465,bits .xor .u64 (w8 (idL K) 8) 8387220255154660723⟩from rfl)
 go_enter Tryz.func203,Tryz.ntmps203
 go_wp2_with(first|(go_at_call 96;(with_reducible refine HG0.out.mono ?_);rintro e w' ⟨rfl,rfl⟩)|(go_at_call 96;(with_reducible refine HG8.out.mono ?_);rintro e w' ⟨rfl,rfl⟩))
 go_ret
 refine⟨rfl,⟨(fun _ h=>by cases h),?_⟩,((Below.refl _ _).alloc (Nat.le_refl _) _).alloc (by simp) _⟩
 show Blk _ _ [.int .u64 (keyed (idL K)).p,.int .u64 (keyed (idL K)).q,.int .u64 (keyed (idL K)).r,.int .u64 (keyed (idL K)).s,.int .u64 0,.int .u8 0] _
 rw[HE.out]
 exact Blk.new_at _ _ _ _ (by simp)
theorem grown_set {w w':World}{g:Nat}(h:w.grownBy w' (some g))(i:Nat)(v:Value):w.grownBy (w'.setCell ⟨g,i,none⟩ v) (some g):=
 ⟨h.os,h.tape,h.output,by simpa using h.size,fun k hk hne=>(Below.heap_setCell w' _ v k (by intro e;exact hne (by rw[e]))).trans (h.block k hk hne)⟩
theorem grown_drew {w w':World}{g:Nat}(h:w.grownBy w' (some g)):w.grownBy w'.drew (some g):=⟨h.os,h.tape,h.output,h.size,h.block⟩
theorem grown_below {w w' w'':World}{g:Nat}(h:w.grownBy w' (some g))(hb:Below w'.heap.size w' w''):w.grownBy w'' (some g):=
 ⟨hb.os.trans h.os,hb.tape.trans h.tape,hb.output.trans h.output,Nat.le_trans h.size hb.size,fun k hk hne=>(hb.block k (Nat.lt_of_lt_of_le hk h.size)).trans (h.block k hk hne)⟩
theorem five_sets {w:World}{g:Nat}{p q r s t z:Value}{T:TypeId}(h:Blk w g [p,q,r,s,t,z] T)(a b c d e:Value):
 Blk (((((w.setCell ⟨g,0,none⟩ a).setCell ⟨g,1,none⟩ b).setCell ⟨g,2,none⟩ c).setCell ⟨g,3,none⟩ d).setCell ⟨g,4,none⟩ e) g [a,b,c,d,e,z] T:=
 ((((h.set_ 0 _).set_ 1 _).set_ 2 _).set_ 3 _).set_ 4 _
theorem two_sets {w:World}{g:Nat}{p q r s t z:Value}{T:TypeId}(h:Blk w g [p,q,r,s,t,z] T)(a b:Value):
 Blk (((w.setCell ⟨g,4,none⟩ a).drew).setCell ⟨g,5,none⟩ b) g [p,q,r,s,a,b] T:=
 ((h.set_ 4 _).drew).set_ 5 _
set_option maxRecDepth 100000 in
theorem add_any (K:Nat→Int)(g:Nat)(A:Option Addr)(l m:List Int)(len cap:Nat)(w:World)(hs:SumAt w g (idL K) l)(hb:Bytes w A m)(hL:m.length=len)(hmax:len≤1000000)(hA:0<len→ ∀b off,A=some ⟨b,off,none⟩→b≠g):
 Calls Tryz.prog 204 #[.pointer (some ⟨g,0,none⟩),.slice A len cap] w fun e w'=>e= .returned (.tuple #[])∧SumAt w' g (idL K) (l++m)∧w.grownBy w' (some g):=by
 have HB:=Lib.hid hb
 have HL:=Lib.hid hL
 have HA:=Lib.hid hA
 have HS:=Lib.hid hs
 clear hb hL hA hs
 go_enter Tryz.func204,Tryz.ntmps204
 go_wp2
 go_loopw [8] (fun i wr=> ∃k:Nat,k≤len∧i= .int .i64 k∧Hid (SumAt wr g (idL K) (l++m.take k))∧Hid (w.grownBy wr (some g))) (fun i _=>len-(intOf i).toNat)
 case atStart=>exact⟨0,Nat.zero_le _,rfl,by rw[List.take_zero,List.append_nil];exact HS,Lib.hid (World.grownBy.refl _ _)⟩
 case round=>
  obtain⟨k,hk,rfl,hr,hg⟩:=hrel
  by_cases hlt:k<len
  ·have hd:decide (k<len)=true:=by simpa using hlt
   obtain⟨b,off,rfl,hbl,hc⟩:=HB.out.2 k (by rw[HL.out];exact hlt)
   have hc':wr.cell? ⟨b,off+k,none⟩=some (.int .u8 (m.getD k 0)):=(World.cell?_of_block (hg.out.block b hbl (by intro h;injection h with h;exact HA.out (by omega) b off rfl h))).trans hc
   clear hc
   obtain⟨c0,c1⟩:=HB.out.1.at_ k
   have hT:=take_snoc m k (by rw[HL.out];exact hlt)
   obtain⟨hAll,hB⟩:=hr.out
   generalize hX:l++m.take k=X at*
   have HN:=Lib.hid (show l++m.take (k+1)=X++ [m.getD k 0]by rw[hT,←List.append_assoc,hX])
   clear hT hX
   generalize m.getD k 0=c at*
   obtain⟨z,hz⟩: ∃z,(X.length:Int)%256=z:=⟨_,rfl⟩
   rw[hz]at hB
   have z0:0≤z:=by omega
   have z1:z≤255:=by omega
   have HZ:=Lib.hid hz
   clear hz
   have R:=Lib.hid hB
   have g4:=hB.cell (i:=4) rfl
   have g5:=hB.cell (i:=5) rfl
   have f4:=hB.frozen 4
   have f5:=hB.frozen 5
   clear hB
   have hsh:(8*(z%8)).toNat=8*(X.length%8):=by have:=HZ.out;omega
   have hor:=or_top X c hAll c0 c1
   rw[show IntKind.u64.wrap c=c by rw[IntKind.wrap_u64];omega,←hsh]at hor
   have HAll:=Lib.hid (hAll.app (show AllB [c]from fun n hn=>by simp at hn;subst hn;exact⟨c0,c1⟩))
   obtain⟨V,hV⟩: ∃V,left8 X+c*256^(X.length%8)=V:=⟨_,rfl⟩
   rw[hV]at hor
   have HV:=Lib.hid hV
   have HQ:=Lib.hid (quadAt_ok (idL K) X (X.length/8))
   clear hsh hV hAll
   by_cases h7:X.length%8=7
   ·have ht1:((z+1)%8==0)=true:=by have:=HZ.out;simp;omega
    have ht2:((z+1)%256%8==0)=true:=by have:=HZ.out;simp;omega
    have HM:=Lib.hid (more_full (idL K) X c h7)
    clear h7
    go_wp2
    go_region
    go_wp2
    have R2:Blk ((wr.setCell ⟨g,4,none⟩ (.int .u64 V)).setCell ⟨g,5,none⟩ (.int .u8 ((z+1)%256))).drew g _ _:=((R.out.set_ 4 _).set_ 5 _).drew
    have G2:w.grownBy ((wr.setCell ⟨g,4,none⟩ (.int .u64 V)).setCell ⟨g,5,none⟩ (.int .u8 ((z+1)%256))).drew (some g):=grown_drew (grown_set (grown_set hg.out _ _) _ _)
    simp only[List.set_cons_succ,List.set_cons_zero]at R2
    generalize ((wr.setCell ⟨g,4,none⟩ (.int .u64 V)).setCell ⟨g,5,none⟩ (.int .u8 ((z+1)%256))).drew=w2 at R2 G2⊢
    clear g4 g5 f4 f5
    generalize quadAt (idL K) X (X.length/8)=F at*
    have HP:=Lib.hid fun w=>qplus_q F V w HQ.out
    have e0:=R2.cell (i:=0) rfl
    have e1:=R2.cell (i:=1) rfl
    have e2:=R2.cell (i:=2) rfl
    have e3:=R2.cell (i:=3) rfl
    have e4:=R2.cell (i:=4) rfl
    have RR:=Lib.hid R2
    have hz2:=R2.lt
    clear R2
    go_region_with (go_at_call 222;(with_reducible refine(HP.out _).mono ?_);rintro e w3 ⟨rfl,hb3⟩;have R3:=Lib.hid (RR.out.drew.below hb3 hz2);have a0:=R3.out.cell (i:=0) rfl;have a1:=R3.out.cell (i:=1) rfl;have a2:=R3.out.cell (i:=2) rfl;have a3:=R3.out.cell (i:=3) rfl;have a4:=R3.out.cell (i:=4) rfl;have b0:=R3.out.frozen 0;have b1:=R3.out.frozen 1;have b2:=R3.out.frozen 2;have b3:=R3.out.frozen 3;have b4:=R3.out.frozen 4)
    all_goals
     go_wp2
     go_roundw
     case rel=>
      refine⟨k+1,by omega,by go_num,?_,?_⟩
      ·rw[HN.out]
       refine Lib.hid ⟨HAll.out,?_⟩
       rw[HM.out.1,HM.out.2,HV.out,show(((X++ [c]).length:Nat):Int)%256=(z+1)%256 by have:=HZ.out;simp;omega]
       exact five_sets R3.out _ _ _ _ _
      ·exact Lib.hid (grown_set (grown_set (grown_set (grown_set (grown_set (grown_below (grown_drew G2) hb3) _ _) _ _) _ _) _ _) _ _)
     case measure=>simp[intOf];omega
   ·have ht1:((z+1)%8==0)=false:=by have:=HZ.out;simp;omega
    have ht2:((z+1)%256%8==0)=false:=by have:=HZ.out;simp;omega
    have HM:=Lib.hid (And.intro (more_none (idL K) X c (by omega)) (more_left X c (by omega)).2)
    clear h7
    go_wp2
    go_region
    go_wp2
    go_roundw
    case rel=>
     refine⟨k+1,by omega,by go_num,?_,?_⟩
     ·rw[HN.out]
      refine Lib.hid ⟨HAll.out,?_⟩
      rw[HM.out.1,HM.out.2,HV.out,show(((X++ [c]).length:Nat):Int)%256=(z+1)%256 by have:=HZ.out;simp;omega]
      exact two_sets R.out _ _
     ·exact Lib.hid (grown_set (grown_drew (grown_set hg.out _ _)) _ _)
    case measure=>simp[intOf];omega
  ·obtain rfl:k=len:=by omega
   have hd:decide (k<k)=false:=by simp
   have hr1:=hr.out
   rw[List.take_of_length_le (by rw[HL.out];exact Nat.le_refl _)]at hr1
   have HR:=Lib.hid hr1
   clear hr1
   go_wp2
   go_end0
   exact⟨rfl,HR.out,hg.out⟩
end Sc
namespace Sg
open Bytes8 Blk8 Hm Sb Se
def ofS (t:Bool)(key l:List Int):Int:=if t then sipS key l else lookS l
theorem rof_any (t:Bool)(K:Nat→Int)(A:Option Addr)(l:List Int)(len cap:Nat)(w:World)(hk:IdOk K)(hb:Bytes w A l)(hL:l.length=len)(hmax:len≤800000):
 Calls Tryz.prog 112 #[.bool t,idV K,.slice A len cap] w fun e w'=>e= .returned (.int .u64 (ofS t (idL K) l))∧Below w.heap.size w w':=by
 have HB:=Lib.hid hb
 cases t with
 |true=>
  have HC:=Lib.hid (rsip_any K A l len cap (w.alloc (idC 62 K)) hk (hb.below ((Below.refl _ _).alloc (Nat.le_refl _) _) (Nat.le_refl _)) hL hmax)
  clear hb
  go_enter Tryz.func112,Tryz.ntmps112
  go_wp2_with(go_at_call 165;(with_reducible refine HC.out.mono ?_);rintro e w1 ⟨rfl,hb1⟩)
  go_ret
  exact⟨rfl,((Below.refl w.heap.size w).alloc (Nat.le_refl _) _).trans (hb1.mono (by simp))⟩
 |false=>
  have HC:=Lib.hid (rlook_all A l len cap (w.alloc (idC 62 K)) (hb.below ((Below.refl _ _).alloc (Nat.le_refl _) _) (Nat.le_refl _)) hL hmax)
  clear hb
  go_enter Tryz.func112,Tryz.ntmps112
  go_wp2_with(go_at_call 166;(with_reducible refine HC.out.mono ?_);rintro e w' ⟨rfl,rfl⟩)
  go_ret
  exact⟨rfl,(Below.refl w.heap.size w).alloc (Nat.le_refl _) _⟩
end Sg
end Go.Proofs.YtjecmgkmcfkcjaaGreat
