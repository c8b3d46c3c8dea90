/-
  Texts beneath.
-/
import Derived.Test.YteaikbodkgjkdaaGreatQl10
set_option linter.unusedVariables false
set_option linter.unusedSimpArgs false
set_option maxRecDepth 100000
set_option maxHeartbeats 8000000
open Go.ChangeShapes Go.WideShapes Go.ChangeAt Go.RowKit
namespace Go.Proofs.YteaikbodkgjkdaaGreat
namespace Ge
open Bytes8 Blk8 Own8 LeNum RefB Ob Od Oe Ga Gb Ff Rows2
open Gn (ints rnums_in)
theorem aCs {w:World}{g:Array Oper}{rest:List Oper}{o:Oper}{a:Act}{Q:Exit→Act→World→Prop}(z:o.guard=none)(s x:Operand)
 (B:o.op= .call {callee:= .builtin .append,args:= #[s,x],argTypes:= #[26,26]})
 (base:Nat)(c:base≤w.heap.size)(b n:Nat)(l:List Int)(hs:a.eval s= .slice (some ⟨b,0,none⟩) n n)(E:Bytes w (some ⟨b,0,none⟩) l)(d:l.length=n)(H:Option Addr)(m G:Nat)(t:List Int)(Y:a.eval x= .slice H m G)(F:Bytes w H t)(e:t.length=m)(L:0<m)(R:n+m≤70368744177664)
 (h: ∀A' c' w',Own w' base A' (n+m) c' (l++t)→Below base w w'→wpList Tryz.prog g Q rest (a.put o.dst (.slice A' (n+m) c')) w'):wpList Tryz.prog g Q (o::rest) a w:=by
 obtain⟨i,X,p⟩:=Option.map_eq_some_iff.1 aJ3
 simp only[Prod.mk.injEq]at p
 obtain⟨M,k,D⟩:=p
 obtain⟨N,rfl,q⟩:=F.source w (yB _ _) (by omega)
 have f: ∀j u,(l.map (Value.int .u8))[j]? =some u→w.cell? ((⟨b,0,none⟩:Addr).add j)=some u:=fun j u hu=>by
  rw[List.getElem?_map]at hu
  obtain⟨y,r,rfl⟩:=Option.map_eq_some_iff.1 hu
  obtain⟨J,C,I⟩:=E.source w (yB _ _) (by have:=(List.getElem?_eq_some_iff.1 r).1;omega)
  injection C with C
  rw[C]
  exact I j y r
 have V:=run_append_grow (P:=Tryz.prog) w 26 o.type 5 i (.int .u8 0) Tryz.underlying26 X M ⟨b,0,none⟩ n n (l.map (Value.int .u8)) (by simp[d,k]) f N m G (t.map (Value.int .u8)) (by simp[e,k])
  (fun j u hu=>by
    rw[List.getElem?_map]at hu
    obtain⟨y,r,rfl⟩:=Option.map_eq_some_iff.1 hu
    exact q j y r) (by omega) (by omega) (growslice_fits (by omega) (by rw[D];omega))
 have v:=grownCap_ge w (n+m) n 5
 have A:grownCap w (n+m) n 5≤maxLen:=grownCap_le_maxLen w (n+m) n 5 (by unfold maxLen;omega)
 refine wpList_plain z fun K hK=>?_
 unfold Oper.wp execOp
 simp only[B,resolve,invoke,builtin,Sem.run_bind,Sem.run_pure,Result.andThen_ok,List.map_toArray,List.map_cons,List.map_nil,hs,Y,V]
 refine hK _ _ (h _ _ _ ⟨E.1.app F.1,by rw[yA,d,e],by simp;omega,by simp[d,e],.inr ⟨w.heap.size,_,_,rfl,c,heap_alloc_new w.drew _,v,A,?_,?_⟩⟩ (((yB base w).drew).alloc c _))
 ·simp only[Array.size_append,List.size_toArray,List.length_map,size_zeroCells,Value.cells,d,e]
  simp
  omega
 ·simp only[Array.toList_append,List.map_append]
  rw[List.take_append_of_le_length (by simp[d,e]),List.take_of_length_le (by simp[d,e])]
theorem aMq (v:Int)(b:0≤v)(d:v<256):lowB v 8=[v,0,0,0,0,0,0,0]:=by
 have e: ∀k:Nat,1≤k→v/256^k%256=0:=fun k hk=>by
  have:(256:Int)^k=256*256^(k-1):=by rw[←Int.pow_succ',show k-1+1=k by omega]
  have c:v<256^k:=by
   have f:(0:Int)<256^(k-1):=Int.pow_pos (by decide)
   rw[this];omega
  rw[Int.ediv_eq_zero_of_lt b c];rfl
 have a:v/256^0%256=v:=by simp;omega
 simp only[lowB,show List.range 8=[0,1,2,3,4,5,6,7]from rfl,List.map_cons,List.map_nil,a,e 1 (by decide),e 2 (by decide),e 3 (by decide),e 4 (by decide),e 5 (by decide),e 6 (by decide),e 7 (by decide)]
attribute [local irreducible] HD.cells wpList Code.wp
theorem aI8 (h:HD)(f:h.Ok 20)(d:Int)(hd:0≤d∧d≤18446744073709551615)(w:World):
 Calls Tryz.prog 58 #[.agg (h.cells 20).toArray,.int .u64 d] w (Owned ((HD.plus h d).bytes 21) 272 w):=by
 have b0:=yH ((yB w.heap.size w).alloc (yR _) (.cells (h.cells 20).toArray 123))
 have a:=yH (show Blk (w.alloc (.cells (h.cells 20).toArray 123)) w.heap.size (h.cells 20) 123 from Blk.new w _ _)
 have S0:=yH (show(w.alloc (.cells (h.cells 20).toArray 123)).heap.size=w.heap.size+1 by simp)
 go_enter Tryz.func58,Tryz.ntmps58
 go_upto_region 1 with fail
 generalize w.alloc (.cells (h.cells 20).toArray 123)=w0 at*
 have kc:=fun(w:World) (C:Array Value) (n c:Nat)=>Lib.run_convert_bytes_const (P:=Tryz.prog) w 26 5 C n c Tryz.underlying26 Tryz.underlying5
 have M1:=yH (show Bytes (w0.alloc (.cells #[.int .u8 76,.int .u8 80,.int .u8 75,.int .u8 83,.int .u8 72,.int .u8 72,.int .u8 82,.int .u8 72] 5 (8,9))) (some ⟨w0.heap.size,0,none⟩) magicL from aHk magicL aL1 w0 (8,9))
 have a1:=yH ((yB w0.heap.size w0).alloc (yR _) (.cells #[.int .u8 76,.int .u8 80,.int .u8 75,.int .u8 83,.int .u8 72,.int .u8 72,.int .u8 82,.int .u8 72] 5 (8,9)))
 have R1:=yH (a.out.below a1.out a.out.lt)
 have b:=yH a.out.lt
 have L4:=yH fun(v:Int) (h0:0≤v) (h1:v≤4294967295) (W:World)=>aFC v 4 4 W h0 (by omega) (by decide) rfl
 have c0:(w0.alloc (.cells #[.int .u8 76,.int .u8 80,.int .u8 75,.int .u8 83,.int .u8 72,.int .u8 72,.int .u8 82,.int .u8 72] 5 (8,9))).cell? ⟨w.heap.size,0,none⟩=some (.int .u32 h.cp):=R1.out.cell (h.get 20 0 (by decide))
 have J:=f.cp
 have D1:=yH (show magicL.length=8 from rfl)
 have E4:=yH fun(v:Int)=>aAj v 4
 go_upto_region 2 with(first
  |(go_at_call 104;((with_reducible refine(L4.out _ J.1 J.2 _).mono ?_);rintro e w2 ⟨A2,c2,rfl,aD,az⟩;have O2:=yH aD;have B2:=yH az;clear aD az))
  |((with_reducible apply aAb 12);refine aCs rfl (.tmp 7) (.tmp 11) rfl w0.heap.size (Nat.le_trans a1.out.size B2.out.size) w0.heap.size 8 magicL rfl (M1.out.below B2.out (yR _)) D1.out A2 4 c2 _ rfl O2.out.bytes (E4.out _) (by decide) (by decide) ?_;intro A3 c3 w3 aN aE;have O3:=yH aN;have B3:=yH (a1.out.trans ((B2.out.mono a1.out.size).trans aE));clear aN aE))
 have R3:=yH (a.out.below B3.out b.out)
 have c1:w3.cell? ⟨w.heap.size,1,none⟩=some (.int .u32 h.ic):=R3.out.cell (h.get 20 1 (by decide))
 have R:=f.ic
 clear c0 kc M1 a1 R1 O2 B2 D1
 go_upto_region 3 with(first
  |(go_at_call 104;((with_reducible refine(L4.out _ R.1 R.2 _).mono ?_);rintro e w4 ⟨A4,c4,rfl,aQ,aU⟩;have O4:=yH aQ;have B4:=yH aU;clear aQ aU))
  |((with_reducible apply aAb 18);refine aAd rfl (.tmp 13) (.tmp 17) rfl w0.heap.size A3 12 c3 _ rfl (O3.out.kept B4.out (yR _)) A4 4 c4 _ rfl O4.out.bytes (E4.out _) (by decide) ?_;intro A5 c5 w5 ai aR;have O5:=yH ai;have B5:=yH ((B3.out.trans (B4.out.mono B3.out.size)).trans aR);clear ai aR))
 have R5:=yH (a.out.below B5.out b.out)
 have aX:w5.cell? ⟨w.heap.size,2,none⟩=some (.int .i64 h.st):=R5.out.cell (h.get 20 2 (by decide))
 have aW:IntKind.u8.wrap h.st=h.st%256:=by simp[IntKind.wrap,IntKind.signed,IntKind.bits]
 have M:0≤h.st%256∧h.st%256<256:=by omega
 have V:=yH (show lowB (h.st%256) 8=[h.st%256,0,0,0,0,0,0,0]from aMq _ M.1 M.2)
 have aG:=yH (show h.front=magicL++lowB h.cp 4++lowB h.ic 4++lowB (h.st%256) 8 from rfl)
 generalize h.st%256=k at*
 have ad:=yH (show AllB [k,0,0,0,0,0,0,0]by rw[←V.out];exact aH7 _ _)
 have aH:=yH (show Bytes (w5.alloc (.cells #[.int .u8 k,.int .u8 0,.int .u8 0,.int .u8 0,.int .u8 0,.int .u8 0,.int .u8 0,.int .u8 0] 5)) (some ⟨w5.heap.size,0,none⟩) [k,0,0,0,0,0,0,0]from(Row.new w5 [k,0,0,0,0,0,0,0]).bytes ad.out)
 clear c1 O3 O4 B4 R3
 go_upto_region 4 with((with_reducible apply aAb 24);refine aAd rfl (.tmp 19) (.tmp 23) rfl w0.heap.size A5 16 c5 _ rfl (O5.out.alloc _) (some ⟨w5.heap.size,0,none⟩) 8 8 _ rfl aH.out rfl (by decide) ?_;intro A6 c6 w6 aF aI;have O6:=yH aF;have B6:=yH ((B5.out.alloc B5.out.size _).trans aI);clear aF aI)
 rw[←V.out]at O6
 clear aX aW M O5 B5 R5 ad aH V
 go_region_held3 (fun W=>True) (first|(with_reducible exact trivial)) (first
  |(refine aAg (o:=⟨some 28,_,_,_,_,_⟩) rfl (.tmp 25) (.tmp 27) rfl w0.heap.size A6 24 c6 _ rfl O6.out.drew (some ⟨w.heap.size,3,none⟩) 16 16 (h.id 0) rfl (HD.id_at (a.out.below B6.out b.out) f 0 (by decide)).drew (h.id_len 0) (by decide) ?_;intro A7 c7 w7 aw aT;have O7:=yH aw;have B7:=yH (B6.out.drew.trans aT);clear aw aT)
  |(refine aAg (o:=⟨some 31,_,_,_,_,_⟩) rfl (.tmp 28) (.tmp 30) rfl w0.heap.size A7 40 c7 _ rfl O7.out (some ⟨w.heap.size,19,none⟩) 16 16 (h.id 1) rfl (HD.id_at (a.out.below B7.out b.out) f 1 (by decide)) (h.id_len 1) (by decide) ?_;intro A8 c8 w8 ae ao;have O8:=yH ae;have B8:=yH (B7.out.trans ao);clear ae ao)
  |(refine aAg (o:=⟨some 34,_,_,_,_,_⟩) rfl (.tmp 31) (.tmp 33) rfl w0.heap.size A8 56 c8 _ rfl O8.out (some ⟨w.heap.size,35,none⟩) 16 16 (h.id 2) rfl (HD.id_at (a.out.below B8.out b.out) f 2 (by decide)) (h.id_len 2) (by decide) ?_;intro A9 c9 w9 aM av;have O9:=yH aM;have B9:=yH (B8.out.trans av);clear aM av)
  |(refine aAg (o:=⟨some 37,_,_,_,_,_⟩) rfl (.tmp 34) (.tmp 36) rfl w0.heap.size A9 72 c9 _ rfl O9.out (some ⟨w.heap.size,51,none⟩) 16 16 (h.id 3) rfl (HD.id_at (a.out.below B9.out b.out) f 3 (by decide)) (h.id_len 3) (by decide) ?_;intro aB al w10 I x;have am:=yH I;have j:=yH (B9.out.trans x);clear I x))
 have aj:=yH (show h.ids 4=h.id 0++h.id 1++h.id 2++h.id 3 by rw[show(4:Nat)=3+1 from rfl,h.ids_succ,show(3:Nat)=2+1 from rfl,h.ids_succ,show(2:Nat)=1+1 from rfl,h.ids_succ,show(1:Nat)=0+1 from rfl,h.ids_succ];rfl)
 have OA:=yH (show Own w10 w0.heap.size aB 88 al (h.front++h.ids 4)by rw[aG.out,aj.out];simpa only[List.append_assoc]using am.out)
 have Z:=yH (a.out.below j.out b.out)
 have ap:=yH (show InInts .u64 w10 (some ⟨w.heap.size,67,none⟩) 20 h.N from fun i hi=>⟨w.heap.size,67,rfl,Z.out.lt,HD.nums_at Z.out i hi,by have:=f.N i;simp[Lit.wf,IntKind.min,IntKind.max,IntKind.signed,IntKind.bits];omega⟩)
 have ax:=yH (rnums_in (some ⟨w.heap.size,67,none⟩) 20 20 h.N w10 ap.out (by decide))
 have aq:=yH fun(W:World) (g:Nat) (hg:W.heap.size=g)=>aLC d W g hd hg
 have F:=yH (show(Ob.nums (ints h.N 20)).length=160 by rw[nums_len,Gn.ints_len])
 have E8:=yH (aAj d 8)
 clear O6 O7 O8 O9 B6 B7 B8 B9 am J R aj aG
 go_upto_region 6 with(first
  |(go_at_call 105;((with_reducible refine ax.out.mono ?_);rintro e w11 ⟨X1,x1,rfl,t,m⟩;have au:=yH t;have aa:=yH m;clear t m))
  |((with_reducible apply aAb 42);refine aAd rfl (.tmp 38) (.tmp 41) rfl w0.heap.size aB 88 al _ rfl (OA.out.kept aa.out (yR _)) X1 160 x1 _ rfl au.out.bytes F.out (by decide) ?_;intro a4 aZ w12 y s;have ak:=yH y;have ac:=yH ((j.out.trans (aa.out.mono j.out.size)).trans s);clear y s)
  |(go_at_call 105;((with_reducible refine(aq.out _ _ rfl).mono ?_);rintro e w13 ⟨X2,x2,rfl,B,H⟩;have aL:=yH B;have L:=yH H;clear B H))
  |((with_reducible apply aAb 46);refine aAd rfl (.tmp 42) (.tmp 45) rfl w0.heap.size a4 248 aZ _ rfl (ak.out.kept L.out (yR _)) X2 8 x2 _ rfl aL.out.bytes E8.out (by decide) ?_;intro ay af w14 D r;have aP:=yH D;have X:=yH ((ac.out.trans (L.out.mono ac.out.size)).trans r);clear D r))
 have ah:=yH (show Ob.nums (ints h.N 20)++lowB d 8=Ob.nums ((HD.plus h d).nums 21)by
  rw[←aCD]
  congr 1)
 have OB:=yH (show Own w14 w0.heap.size ay 256 af (h.front++h.ids 4++Ob.nums ((HD.plus h d).nums 21))by rw[←ah.out,←List.append_assoc];exact aP.out)
 clear au ak aL aa ac L aP ax aq ap F E8 OA j Z ah
 have HC:=yH fun(W:World) (hW:Below w0.heap.size w0 W)=>show W.cell? ⟨w.heap.size,87,none⟩=some (.int .u32 h.ta)∧W.cell? ⟨w.heap.size,88,none⟩=some (.int .u32 h.ti)from⟨(a.out.below hW b.out).cell (h.get_ta 20),(a.out.below hW b.out).cell (h.get_ti 20)⟩
 have aA:=f.ta
 have aS:=f.ti
 have LA:=yH fun(W:World)=>show Calls Tryz.prog 104 #[.int .u64 (IntKind.u64.wrap h.ta),.int .i64 4] W fun e w'=> ∃A c,e= .returned (.slice A 4 c)∧Own w' W.heap.size A 4 c (lowB h.ta 4)∧Below W.heap.size W w' by
  rw[show IntKind.u64.wrap h.ta=h.ta by rw[IntKind.wrap_u64];omega]
  exact L4.out h.ta aA.1 aA.2 W
 have LB:=yH fun(W:World)=>show Calls Tryz.prog 104 #[.int .u64 (IntKind.u64.wrap h.ti),.int .i64 4] W fun e w'=> ∃A c,e= .returned (.slice A 4 c)∧Own w' W.heap.size A 4 c (lowB h.ti 4)∧Below W.heap.size W w' by
  rw[show IntKind.u64.wrap h.ti=h.ti by rw[IntKind.wrap_u64];omega]
  exact L4.out h.ti aS.1 aS.2 W
 have EA:=yH (aAj h.ta 4)
 have EB:=yH (aAj h.ti 4)
 have q0:=HC.out _ X.out.drew
 have a7:=yH (yR w14.heap.size)
 go_cut [5]from 47 to 58 (fun z wx=> ∃A1 c1,z= .slice A1 264 c1∧Hid (Own wx w0.heap.size A1 264 c1 (h.front++h.ids 4++Ob.nums ((HD.plus h d).nums 21)++lowB h.ta 4++lowB h.ti 4))∧Hid (Below w0.heap.size w0 wx))
 case first=>
  go_region_held3 (fun W=>W.cell? ⟨w.heap.size,87,none⟩=some (.int .u32 h.ta)∧W.cell? ⟨w.heap.size,88,none⟩=some (.int .u32 h.ti)) (first|(with_reducible exact q0)|(with_reducible exact qa)|(with_reducible exact qg)|(with_reducible exact qz)|(with_reducible exact qy)) (first
   |(go_simp;go_at_call 104;(with_reducible refine(LA.out w14.drew).mono ?_);rintro e wa ⟨Aa,ca,rfl,aJ,l⟩;have Oa:=yH aJ;have Fa:=yH (X.out.drew.trans (l.mono X.out.drew.size));have Pa:=yH (OB.out.drew.kept l (yR _));have Sa:=yH l.size;have qa:=HC.out _ Fa.out;clear aJ l)
   |(refine aAg (o:=⟨some 52,_,_,_,_,_⟩) rfl (.tmp 47) (.tmp 51) rfl w0.heap.size ay 256 af _ rfl Pa.out Aa 4 ca _ rfl Oa.out.bytes EA.out (by decide) ?_;intro Ag cg wg aC aK;have Og:=yH aC;have Fg:=yH (Fa.out.trans aK);have qg:=HC.out _ Fg.out;clear aC aK)
   |(go_simp;go_at_call 104;(with_reducible refine(LB.out wg).mono ?_);rintro e wh ⟨Ah,ch,rfl,ar,Y⟩;have Oh:=yH ar;have Fh:=yH (Fg.out.trans (Y.mono Fg.out.size));have Ph:=yH (Og.out.kept Y (yR _));have qz:=HC.out _ Fh.out;clear ar Y)
   |(refine aAg (o:=⟨some 57,_,_,_,_,_⟩) rfl (.tmp 52) (.tmp 56) rfl w0.heap.size Ag 260 cg _ rfl Ph.out Ah 4 ch _ rfl Oh.out.bytes EB.out (by decide) ?_;intro Az cz wz an ag;have Oz:=yH an;have Fz:=yH (Fh.out.trans ag);have qy:=HC.out _ Fz.out;clear an ag))
  all_goals
   go_wp2_with fail
   go_meet
   case rel=>exact⟨Az,cz,rfl,Oz,Fz⟩
 case rest=>
  obtain⟨A1,c1,rfl,a2,ab⟩:=hcut
  have Rz:=yH (a.out.below ab.out b.out)
  have cz:wc.cell? ⟨w.heap.size,89,none⟩=some (.int .u64 h.te):=Rz.out.cell (h.get_te 20)
  have aY:=yH fun(W:World) (g:Nat) (hg:W.heap.size=g)=>aLC h.te W g f.te hg
  have E8:=yH (aAj h.te 8)
  have E:=yH (show(HD.plus h d).bytes 21=h.front++h.ids 4++Ob.nums ((HD.plus h d).nums 21)++lowB h.ta 4++lowB h.ti 4++lowB h.te 8 from rfl)
  clear q0 LA LB HC L4
  go_wp2_with(first
   |(go_at_call 105;((with_reducible refine(aY.out _ _ rfl).mono ?_);rintro e w15 ⟨X3,x3,rfl,p,G⟩;have a5:=yH p;have aO:=yH G;clear p G))
   |((with_reducible apply aAb 63);refine aAd rfl (.tmp 58) (.tmp 62) rfl w0.heap.size A1 264 c1 _ rfl (a2.out.kept aO.out (yR _)) X3 8 x3 _ rfl a5.out.bytes E8.out (by decide) ?_;intro a0 aV w16 u q;have a6:=yH u;have a3:=yH ((ab.out.trans (aO.out.mono ab.out.size)).trans q);clear u q))
  go_ret
  exact⟨a0,aV,rfl,by rw[E.out];exact Od.Own.base (b2:=w.heap.size) a6.out (Nat.le_of_lt b.out),b0.out.trans (a3.out.mono (Nat.le_of_lt b.out))⟩
end Ge
namespace Gt
open Bytes8 Blk8 Own8 OwnE Ob Od Ga Gb Gf Gi Gj Gl Gq
open Gm (flB stB fcode aG2)
open Go1 (magicB hcode aA5)
theorem aAt:Tryz.prog.built 123 []=some (hd0.cells 20).toArray:=by kernel_rfl
theorem aCW {fn:Func}{p u v:Tmp}{b:TypeId}(h:fn.results= #[.cell p b,.tmp u,.tmp v])(tmps:Array Value)(P:Program)(w:World):
 (results fn tmps).run P w=((asAddr (tmps.getD p undef)).run P w).andThen fun a w=>((loadVar b a).run P w).andThen fun x w=> .ok (.tuple #[x,tmps.getD u undef,tmps.getD v undef]) w:=by
 simp[results,h]
theorem aAJ {P:Program}{fn:Func}{p u v:Tmp}{a:TypeId}(h:fn.results= #[.cell p a,.tmp u,.tmp v])(tmps:Array Value)(w:World)(g:Nat)(t:TypeId)(b:Array Value)(fr:Nat×Nat)(d:TypeDesc)(c e:Value)
 (f:tmps.getD p undef= .pointer (some ⟨g,0,none⟩))(n:tmps.getD u undef=c)(m:tmps.getD v undef=e)(k:w.heap[g]? =some (.cells b t fr))(j:P.underlying a=some d)(i:(match d with| .struct _| .array _ _=>true|_=>false)=true)(l:(P.info? a).map (·.size)=some b.size):
 (results fn tmps).run P w= .ok (.tuple #[.agg b,c,e]) w:=by
 rw[aCW h,f,n,m]
 simp[asAddr,run_loadVar_row w g t a b fr d k j i l,Result.andThen]
abbrev RTold (h:HD)(dp c:Int)(w:World)(e:Ending)(w':World):Prop:=e= .returned (.tuple #[.agg (h.cells 20).toArray,.int .u64 dp,.int .i64 c])∧Below w.heap.size w w'
attribute [local irreducible] HD.cells wpList Code.wp
theorem aG9 (A:Option Addr)(n c:Nat)(w:World)(f:n<272):
 Calls Tryz.prog 85 #[.slice A n c] w (RTold hd0 0 22 w):=by
 have e:(n:Int)<272:=by omega
 go_enter Tryz.func85,Tryz.ntmps85
 go_upto_region 1 with fail
 have b:=yH ((yB w.heap.size w).alloc (yR _) (.cells Tryz.zeroCells123 123))
 have a:=yH (heap_alloc_new w (.cells Tryz.zeroCells123 123))
 have d:=yH (show(w.alloc (.cells Tryz.zeroCells123 123)).heap.size=w.heap.size+1 by simp)
 generalize w.alloc (.cells Tryz.zeroCells123 123)=w1 at*
 go_wp2_with(first
  |((with_reducible apply aAb 13);refine aAh rfl 123 rfl _ aAt ?_)
  |((with_reducible apply aAa (.tmp 2) (.tmp 13));refine wpList_store_row rfl 123 (.tmp 2) (.tmp 13) rfl w.heap.size (hd0.cells 20).toArray rfl rfl 123 Tryz.zeroCells123 a.out (aAc _) aAk (HD.one _ 20) ?_)
  |fail)
 refine bodyPost_ret (v:= .tuple #[.agg (hd0.cells 20).toArray,.int .u64 0,.int .i64 22]) (by exact aAJ Tryz.results85 _ _ w.heap.size 123 _ (0,0) _ _ _ rfl rfl rfl (setRow_heap _ _ _ _ _ (0,0) a.out) Tryz.underlying123 rfl (aAc _)) rfl ?_
 exact⟨rfl,below_setRow b.out (yR _) _⟩
theorem aHa (A:Option Addr)(l:List Int)(n c:Nat)(w:World)(i:Bytes w A l)(p:l.length=n)(e:272≤n)(r:n≤c)(d:magicB l=false):
 Calls Tryz.prog 85 #[.slice A n c] w (RTold hd0 0 6 w):=by
 have q: ¬(n:Int)<272:=by omega
 go_enter Tryz.func85,Tryz.ntmps85
 go_upto_region 1 with fail
 have b:=yH ((yB w.heap.size w).alloc (yR _) (.cells Tryz.zeroCells123 123))
 have f:=yH (heap_alloc_new w (.cells Tryz.zeroCells123 123))
 have m:=yH (show(w.alloc (.cells Tryz.zeroCells123 123)).heap.size=w.heap.size+1 by simp)
 generalize w.alloc (.cells Tryz.zeroCells123 123)=w1 at*
 have g:(l.take 8).length=8:=by simp;omega
 have a:=yH (i.below b.out (yR _))
 have j:=(aA5 a.out 8).string c 8 g
 have o:(!(strOfNums (l.take 8)).toList== [76,80,75,83,72,72,82,72])=true:=by unfold magicB at d;rw[d];rfl
 generalize strOfNums (l.take 8)=S at*
 have k:(8:Int)≤(c:Int):=by omega
 go_wp2_with(first
  |((with_reducible apply aAb 18);refine aAh rfl 123 rfl _ aAt ?_)
  |((with_reducible apply aAa (.tmp 2) (.tmp 18));refine wpList_store_row rfl 123 (.tmp 2) (.tmp 18) rfl w.heap.size (hd0.cells 20).toArray rfl rfl 123 Tryz.zeroCells123 f.out (aAc _) aAk (HD.one _ 20) ?_)
  |fail)
 refine bodyPost_ret (v:= .tuple #[.agg (hd0.cells 20).toArray,.int .u64 0,.int .i64 6]) (by exact aAJ Tryz.results85 _ _ w.heap.size 123 _ (0,0) _ _ _ rfl rfl rfl (setRow_heap _ _ _ _ _ (0,0) f.out) Tryz.underlying123 rfl (aAc _)) rfl ?_
 exact⟨rfl,below_setRow b.out (yR _) _⟩
theorem aHb (A:Option Addr)(l:List Int)(n c:Nat)(w:World)(y:Bytes w A l)(hL:l.length=n)(F:272≤n)(hn:n≤1000000)(hc:n≤c)(hm:magicB l=true):
 Calls Tryz.prog 85 #[.slice A n c] w (RTold (if fcode (hdOf l) n=0 then hdOf l else hd0) (if fcode (hdOf l) n=0 then Ob.u8 l 248 else 0) (fcode (hdOf l) n) w):=by
 have d1: ¬(n:Int)<272:=by omega
 have HT:=yH fun(W:World) (hW:Bytes W A l)=>aOt A l n c W hW hL F hn
 have i:=aDk y.1 20
 have f:=aDk y.1 21
 have HE:=yH fun(W:World)=>aI3 (hdOf l) i W
 have z:=y.1.at_ 16
 have m:(hdOf l).st=l.getD 16 0:=rfl
 rw[←m]at z
 clear m
 generalize Ob.u8 l 248=dp at*
 go_enter Tryz.func85,Tryz.ntmps85
 go_upto_region 1 with fail
 have b1:=yH ((yB w.heap.size w).alloc (yR _) (.cells Tryz.zeroCells123 123))
 have Z1:=yH (heap_alloc_new w (.cells Tryz.zeroCells123 123))
 have S1:=yH (show(w.alloc (.cells Tryz.zeroCells123 123)).heap.size=w.heap.size+1 by simp)
 generalize w.alloc (.cells Tryz.zeroCells123 123)=w1 at*
 have G:(l.take 8).length=8:=by simp;omega
 have q:=yH (y.below b1.out (yR _))
 have X:=(aA5 q.out 8).string c 8 G
 have hS:(!(strOfNums (l.take 8)).toList== [76,80,75,83,72,72,82,72])=false:=by unfold magicB at hm;rw[hm];rfl
 generalize strOfNums (l.take 8)=S at*
 have ae:(8:Int)≤(c:Int):=by omega
 clear G hm
 go_upto_region 6 with(first
  |(go_at_call 124;((with_reducible refine(HT.out _ q.out).mono ?_);rintro e w2 ⟨rfl,C⟩;have H:=yH C;clear C))
  |((with_reducible apply aAa (.tmp 5) (.tmp 22));refine wpList_store_row rfl 123 (.tmp 5) (.tmp 22) rfl w2.heap.size ((hdOf l).cells 20).toArray rfl rfl 123 Tryz.zeroCells123 (heap_alloc_new w2 _) (aAc _) aAk (HD.one _ 20) ?_)
  |fail)
 have I:=yH (show Blk ((w2.alloc (.cells Tryz.zeroCells123 123)).setRow w2.heap.size ((hdOf l).cells 20).toArray) w2.heap.size ((hdOf l).cells 20) 123 from setRow_heap _ _ _ _ _ (0,0) (heap_alloc_new w2 _))
 have R:=yH (show Below w1.heap.size w1 ((w2.alloc (.cells Tryz.zeroCells123 123)).setRow w2.heap.size ((hdOf l).cells 20).toArray)from below_setRow (H.out.alloc H.out.size _) H.out.size _)
 generalize (w2.alloc (.cells Tryz.zeroCells123 123)).setRow w2.heap.size ((hdOf l).cells 20).toArray=w3 at*
 clear X hS y q HT
 go_upto_region 7 with(first
  |((with_reducible apply aAb 25);refine wpList_load_row rfl 123 (.tmp 5) rfl w2.heap.size rfl 123 ((hdOf l).cells 20).toArray (0,0) _ I.out Tryz.underlying123 rfl (aAc _) ?_)
  |(go_at_call 86;((with_reducible refine(HE.out _).mono ?_);rintro e w4 ⟨rfl,s⟩;have k:=yH (I.out.below s I.out.lt);have B4:=yH (R.out.trans (s.mono R.out.size));clear s))
  |fail)
 have d:=yH ((B4.out.block w.heap.size (by rw[S1.out];exact Nat.lt_succ_self _)).trans Z1.out)
 have j:=yH (b1.out.trans (B4.out.mono (by rw[S1.out];exact Nat.le_succ _)))
 have c1:w4.cell? ⟨w2.heap.size,1,none⟩=some (.int .u32 (hdOf l).ic):=k.out.cell ((hdOf l).get 20 1 (by decide))
 have c2:w4.cell? ⟨w2.heap.size,2,none⟩=some (.int .i64 (hdOf l).st):=k.out.cell ((hdOf l).get 20 2 (by decide))
 have ah:=HD.nums_at k.out 0 (by decide)
 have ai:=HD.nums_at k.out 1 (by decide)
 have ad:=HD.nums_at k.out 2 (by decide)
 have ac:=HD.nums_at k.out 3 (by decide)
 have ab:=HD.nums_at k.out 4 (by decide)
 have ag:=HD.nums_at k.out 5 (by decide)
 have aj:=i.ic
 obtain⟨p0,p1⟩:=i.N 0
 obtain⟨r0,r1⟩:=i.N 1
 have a:fcode (hdOf l) n=if flB (hdOf l).ic=true then 7 else if stB (hdOf l).st=false then 8 else if(hdOf l).N 0<272∨(hdOf l).N 0%8≠0∨(hdOf l).N 1%8≠0 then 5 else if endB (hdOf l)=false∨(n:Int)<endV (hdOf l)then 2 else if tcode ((hdOf l).N 2) ((hdOf l).N 3) ((hdOf l).N 0) (endV (hdOf l))≠0 then tcode ((hdOf l).N 2) ((hdOf l).N 3) ((hdOf l).N 0) (endV (hdOf l))else tcode ((hdOf l).N 4) ((hdOf l).N 5) ((hdOf l).N 0) (endV (hdOf l)):=rfl
 have D:=yH (aG2 (hdOf l) f)
 have E:endB (hdOf l)=true→endV (hdOf l)=(hdOf l).N 0+(hdOf l).N 1:=fun h=>if_pos (of_decide_eq_true h)
 have r:=yH (aE7 ((hdOf l).N 0) (endV (hdOf l)) ((hdOf l).N 2) ((hdOf l).N 3) (i.N 0) (aG2 _ f) (i.N 2) (i.N 3) w4)
 have B:=yH (aE7 ((hdOf l).N 0) (endV (hdOf l)) ((hdOf l).N 4) ((hdOf l).N 5) (i.N 0) (aG2 _ f) (i.N 4) (i.N 5) w4)
 clear HE i f I R H d1
 have b: ∀x:Int,fcode (hdOf l) n=x→Hid (fcode (hdOf l) n=x):=fun x hx=>yH hx
 generalize fcode (hdOf l) n=o at*
 have base: ∀cd:Int,o=cd→cd≠0→Hid (o=cd):=fun cd h _=>yH h
 by_cases h1:flB (hdOf l).ic=true
 ·rw[if_pos h1]at a
  subst a
  have Z:(bits BinOp.andNot IntKind.u32 (hdOf l).ic 4 !=0)=true:=h1
  clear b base h1
  rw[if_neg (by decide),if_neg (by decide)]
  go_wp2_with(first
   |((with_reducible apply aAb 93);refine aAh rfl 123 rfl _ aAt ?_)
   |((with_reducible apply aAa (.tmp 2) (.tmp 93));refine wpList_store_row rfl 123 (.tmp 2) (.tmp 93) rfl w.heap.size (hd0.cells 20).toArray rfl rfl 123 Tryz.zeroCells123 d.out (aAc _) aAk (HD.one _ 20) ?_)
   |fail)
  refine bodyPost_ret (v:= .tuple #[.agg (hd0.cells 20).toArray,.int .u64 0,.int .i64 7]) (by exact aAJ Tryz.results85 _ _ w.heap.size 123 _ (0,0) _ _ _ rfl rfl rfl (setRow_heap _ _ _ _ _ (0,0) d.out) Tryz.underlying123 rfl (aAc _)) rfl ?_
  exact⟨rfl,below_setRow j.out (yR _) _⟩
 rw[if_neg h1]at a
 have Z:(bits BinOp.andNot IntKind.u32 (hdOf l).ic 4 !=0)=false:=by have aa:flB (hdOf l).ic=false:=by simpa using h1
                                                                    exact aa
 clear h1
 by_cases h2:stB (hdOf l).st=false
 ·rw[if_pos h2]at a
  subst a
  have M:2<(hdOf l).st:=by unfold stB at h2;simp at h2;omega
  have d2:decide (2<(hdOf l).st)=true:=by simp;omega
  clear b base h2
  rw[if_neg (by decide),if_neg (by decide)]
  go_wp2_with(first
   |((with_reducible apply aAb 93);refine aAh rfl 123 rfl _ aAt ?_)
   |((with_reducible apply aAa (.tmp 2) (.tmp 93));refine wpList_store_row rfl 123 (.tmp 2) (.tmp 93) rfl w.heap.size (hd0.cells 20).toArray rfl rfl 123 Tryz.zeroCells123 d.out (aAc _) aAk (HD.one _ 20) ?_)
   |fail)
  refine bodyPost_ret (v:= .tuple #[.agg (hd0.cells 20).toArray,.int .u64 0,.int .i64 8]) (by exact aAJ Tryz.results85 _ _ w.heap.size 123 _ (0,0) _ _ _ rfl rfl rfl (setRow_heap _ _ _ _ _ (0,0) d.out) Tryz.underlying123 rfl (aAc _)) rfl ?_
  exact⟨rfl,below_setRow j.out (yR _) _⟩
 rw[if_neg h2]at a
 have M: ¬2<(hdOf l).st:=by unfold stB at h2;simp at h2;omega
 have d2:decide (2<(hdOf l).st)=false:=by simp;omega
 clear h2
 by_cases u:(hdOf l).N 0<272∨(hdOf l).N 0%8≠0∨(hdOf l).N 1%8≠0
 ·rw[if_pos u]at a
  subst a
  clear b base
  rw[if_neg (by decide),if_neg (by decide)]
  by_cases h4:(hdOf l).N 0<272
  ·have d4:decide ((hdOf l).N 0<272)=true:=by simp;omega
   clear u
   go_wp2_with(first
    |((with_reducible apply aAb 93);refine aAh rfl 123 rfl _ aAt ?_)
    |((with_reducible apply aAa (.tmp 2) (.tmp 93));refine wpList_store_row rfl 123 (.tmp 2) (.tmp 93) rfl w.heap.size (hd0.cells 20).toArray rfl rfl 123 Tryz.zeroCells123 d.out (aAc _) aAk (HD.one _ 20) ?_)
    |fail)
   refine bodyPost_ret (v:= .tuple #[.agg (hd0.cells 20).toArray,.int .u64 0,.int .i64 5]) (by exact aAJ Tryz.results85 _ _ w.heap.size 123 _ (0,0) _ _ _ rfl rfl rfl (setRow_heap _ _ _ _ _ (0,0) d.out) Tryz.underlying123 rfl (aAc _)) rfl ?_
   exact⟨rfl,below_setRow j.out (yR _) _⟩
  have d4:decide ((hdOf l).N 0<272)=false:=by simp;omega
  by_cases h5:(hdOf l).N 0%8=0
  ·have h6: ¬(hdOf l).N 1%8=0:=by omega
   clear u
   go_wp2_with(first
    |((with_reducible apply aAb 93);refine aAh rfl 123 rfl _ aAt ?_)
    |((with_reducible apply aAa (.tmp 2) (.tmp 93));refine wpList_store_row rfl 123 (.tmp 2) (.tmp 93) rfl w.heap.size (hd0.cells 20).toArray rfl rfl 123 Tryz.zeroCells123 d.out (aAc _) aAk (HD.one _ 20) ?_)
    |fail)
   refine bodyPost_ret (v:= .tuple #[.agg (hd0.cells 20).toArray,.int .u64 0,.int .i64 5]) (by exact aAJ Tryz.results85 _ _ w.heap.size 123 _ (0,0) _ _ _ rfl rfl rfl (setRow_heap _ _ _ _ _ (0,0) d.out) Tryz.underlying123 rfl (aAc _)) rfl ?_
   exact⟨rfl,below_setRow j.out (yR _) _⟩
  ·clear u
   go_wp2_with(first
    |((with_reducible apply aAb 93);refine aAh rfl 123 rfl _ aAt ?_)
    |((with_reducible apply aAa (.tmp 2) (.tmp 93));refine wpList_store_row rfl 123 (.tmp 2) (.tmp 93) rfl w.heap.size (hd0.cells 20).toArray rfl rfl 123 Tryz.zeroCells123 d.out (aAc _) aAk (HD.one _ 20) ?_)
    |fail)
   refine bodyPost_ret (v:= .tuple #[.agg (hd0.cells 20).toArray,.int .u64 0,.int .i64 5]) (by exact aAJ Tryz.results85 _ _ w.heap.size 123 _ (0,0) _ _ _ rfl rfl rfl (setRow_heap _ _ _ _ _ (0,0) d.out) Tryz.underlying123 rfl (aAc _)) rfl ?_
   exact⟨rfl,below_setRow j.out (yR _) _⟩
 rw[if_neg u]at a
 have d4:decide ((hdOf l).N 0<272)=false:=by simp;omega
 have h5:(hdOf l).N 0%8=0:=by omega
 have h6:(hdOf l).N 1%8=0:=by omega
 clear u
 by_cases g:endB (hdOf l)=false∨(n:Int)<endV (hdOf l)
 ·rw[if_pos g]at a
  subst a
  clear b base
  rw[if_neg (by decide),if_neg (by decide)]
  cases J:endB (hdOf l)with
  |false=>
   clear g
   go_wp2_with(first
    |((with_reducible apply aAb 93);refine aAh rfl 123 rfl _ aAt ?_)
    |((with_reducible apply aAa (.tmp 2) (.tmp 93));refine wpList_store_row rfl 123 (.tmp 2) (.tmp 93) rfl w.heap.size (hd0.cells 20).toArray rfl rfl 123 Tryz.zeroCells123 d.out (aAc _) aAk (HD.one _ 20) ?_)
    |fail)
   refine bodyPost_ret (v:= .tuple #[.agg (hd0.cells 20).toArray,.int .u64 0,.int .i64 2]) (by exact aAJ Tryz.results85 _ _ w.heap.size 123 _ (0,0) _ _ _ rfl rfl rfl (setRow_heap _ _ _ _ _ (0,0) d.out) Tryz.underlying123 rfl (aAc _)) rfl ?_
   exact⟨rfl,below_setRow j.out (yR _) _⟩
  |true=>
   have G:(n:Int)<endV (hdOf l):=by rcases g with g|g;rw[J]at g;cases g;exact g
   clear g E
   generalize endV (hdOf l)=V at*
   have Y:=D.out
   have d8:decide ((n:Int)<V)=true:=by simp;omega
   go_wp2_with(first
    |((with_reducible apply aAb 93);refine aAh rfl 123 rfl _ aAt ?_)
    |((with_reducible apply aAa (.tmp 2) (.tmp 93));refine wpList_store_row rfl 123 (.tmp 2) (.tmp 93) rfl w.heap.size (hd0.cells 20).toArray rfl rfl 123 Tryz.zeroCells123 d.out (aAc _) aAk (HD.one _ 20) ?_)
    |fail)
   refine bodyPost_ret (v:= .tuple #[.agg (hd0.cells 20).toArray,.int .u64 0,.int .i64 2]) (by exact aAJ Tryz.results85 _ _ w.heap.size 123 _ (0,0) _ _ _ rfl rfl rfl (setRow_heap _ _ _ _ _ (0,0) d.out) Tryz.underlying123 rfl (aAc _)) rfl ?_
   exact⟨rfl,below_setRow j.out (yR _) _⟩
 rw[if_neg g]at a
 have J:endB (hdOf l)=true:=by
  cases J:endB (hdOf l)with
  |true=>rfl
  |false=>exact absurd (Or.inl J) g
 have G: ¬(n:Int)<endV (hdOf l):=fun h=>g (Or.inr h)
 clear g E
 generalize endV (hdOf l)=V at*
 have Y:=D.out
 have d8:decide ((n:Int)<V)=false:=by simp;omega
 generalize tcode ((hdOf l).N 2) ((hdOf l).N 3) ((hdOf l).N 0) V=t1 at*
 generalize tcode ((hdOf l).N 4) ((hdOf l).N 5) ((hdOf l).N 0) V=t2 at*
 have L:=True.intro
 by_cases p:t1=0
 ·rw[if_neg (by simpa using p)]at a
  subst a p
  clear b base
  by_cases t:o=0
  ·rw[if_pos t,if_pos t]
   subst t
   go_wp2_with(first
    |(go_at_call 125;((with_reducible refine r.out.mono ?_);rintro e w' ⟨rfl,rfl⟩))
    |(go_at_call 125;((with_reducible refine B.out.mono ?_);rintro e w' ⟨rfl,rfl⟩))
    |((with_reducible apply aAb 95);refine wpList_load_row rfl 123 (.tmp 5) rfl w2.heap.size rfl 123 ((hdOf l).cells 20).toArray (0,0) _ k.out Tryz.underlying123 rfl (aAc _) ?_)
    |((with_reducible apply aAa (.tmp 2) (.tmp 95));refine wpList_store_row rfl 123 (.tmp 2) (.tmp 95) rfl w.heap.size ((hdOf l).cells 20).toArray rfl rfl 123 Tryz.zeroCells123 d.out (aAc _) aAk (HD.one _ 20) ?_)
    |fail)
   refine bodyPost_ret (v:= .tuple #[.agg ((hdOf l).cells 20).toArray,.int .u64 dp,.int .i64 0]) (by exact aAJ Tryz.results85 _ _ w.heap.size 123 _ (0,0) _ _ _ rfl rfl rfl (setRow_heap _ _ _ _ _ (0,0) d.out) Tryz.underlying123 rfl (aAc _)) rfl ?_
   exact⟨rfl,below_setRow j.out (yR _) _⟩
  ·rw[if_neg t,if_neg t]
   have dz:(o !=0)=true:=by simp[t]
   go_wp2_with(first
    |(go_at_call 125;((with_reducible refine r.out.mono ?_);rintro e w' ⟨rfl,rfl⟩))
    |(go_at_call 125;((with_reducible refine B.out.mono ?_);rintro e w' ⟨rfl,rfl⟩))
    |((with_reducible apply aAb 93);refine aAh rfl 123 rfl _ aAt ?_)
    |((with_reducible apply aAa (.tmp 2) (.tmp 93));refine wpList_store_row rfl 123 (.tmp 2) (.tmp 93) rfl w.heap.size (hd0.cells 20).toArray rfl rfl 123 Tryz.zeroCells123 d.out (aAc _) aAk (HD.one _ 20) ?_)
    |fail)
   refine bodyPost_ret (v:= .tuple #[.agg (hd0.cells 20).toArray,.int .u64 0,.int .i64 o]) (by exact aAJ Tryz.results85 _ _ w.heap.size 123 _ (0,0) _ _ _ rfl rfl rfl (setRow_heap _ _ _ _ _ (0,0) d.out) Tryz.underlying123 rfl (aAc _)) rfl ?_
   exact⟨rfl,below_setRow j.out (yR _) _⟩
 ·rw[if_pos p]at a
  subst a
  clear b base
  rw[if_neg p,if_neg p]
  have dz:(o !=0)=true:=by simp[p]
  have af:(o==0)=false:=by simp[p]
  go_wp2_with(first
   |(go_at_call 125;((with_reducible refine r.out.mono ?_);rintro e w' ⟨rfl,rfl⟩))
   |((with_reducible apply aAb 93);refine aAh rfl 123 rfl _ aAt ?_)
   |((with_reducible apply aAa (.tmp 2) (.tmp 93));refine wpList_store_row rfl 123 (.tmp 2) (.tmp 93) rfl w.heap.size (hd0.cells 20).toArray rfl rfl 123 Tryz.zeroCells123 d.out (aAc _) aAk (HD.one _ 20) ?_)
   |fail)
  refine bodyPost_ret (v:= .tuple #[.agg (hd0.cells 20).toArray,.int .u64 0,.int .i64 o]) (by exact aAJ Tryz.results85 _ _ w.heap.size 123 _ (0,0) _ _ _ rfl rfl rfl (setRow_heap _ _ _ _ _ (0,0) d.out) Tryz.underlying123 rfl (aAc _)) rfl ?_
  exact⟨rfl,below_setRow j.out (yR _) _⟩
theorem aFa (A:Option Addr)(l:List Int)(n c:Nat)(w:World)(e:Bytes w A l)(d:l.length=n)(g:n≤1000000)(f:n≤c):
 Calls Tryz.prog 85 #[.slice A n c] w (RTold (if hcode l n=0 then hdOf l else hd0) (if hcode l n=0 then Ob.u8 l 248 else 0) (hcode l n) w):=by
 by_cases a:n<272
 ·rw[show hcode l n=22 from if_pos a,if_neg (by decide),if_neg (by decide)]
  exact aG9 A n c w a
 by_cases h2:magicB l=false
 ·rw[show hcode l n=6 by unfold hcode;rw[if_neg a,if_pos h2],if_neg (by decide),if_neg (by decide)]
  exact aHa A l n c w e d (by omega) f h2
 ·have b:magicB l=true:=by simpa using h2
  rw[show hcode l n=fcode (hdOf l) n by unfold hcode;rw[if_neg a,if_neg h2]]
  exact aHb A l n c w e d (by omega) g f b
end Gt
namespace Yd
open Bytes8 Blk8 Own8 OwnE Ob Kf Yc
abbrev entV (s r m:Int)(K:Nat→Int)(x:Int)(A:Option Addr)(n c:Nat):Value:= .agg #[.int .u64 s,.int .u64 r,.int .u64 m,.int .u8 (K 0),.int .u8 (K 1),.int .u8 (K 2),.int .u8 (K 3),.int .u8 (K 4),.int .u8 (K 5),.int .u8 (K 6),.int .u8 (K 7),.int .u8 (K 8),.int .u8 (K 9),.int .u8 (K 10),.int .u8 (K 11),.int .u8 (K 12),.int .u8 (K 13),.int .u8 (K 14),.int .u8 (K 15),.int .u64 x,.slice A n c]
abbrev entC (T:TypeId)(s r m:Int)(K:Nat→Int)(x:Int)(A:Option Addr)(n c:Nat):Obj:= .cells #[.int .u64 s,.int .u64 r,.int .u64 m,.int .u8 (K 0),.int .u8 (K 1),.int .u8 (K 2),.int .u8 (K 3),.int .u8 (K 4),.int .u8 (K 5),.int .u8 (K 6),.int .u8 (K 7),.int .u8 (K 8),.int .u8 (K 9),.int .u8 (K 10),.int .u8 (K 11),.int .u8 (K 12),.int .u8 (K 13),.int .u8 (K 14),.int .u8 (K 15),.int .u64 x,.slice A n c] T
def entL (s r m:Int)(K:Nat→Int)(x:Int)(A:Option Addr)(n c:Nat):List Value:=[.int .u64 s,.int .u64 r,.int .u64 m,.int .u8 (K 0),.int .u8 (K 1),.int .u8 (K 2),.int .u8 (K 3),.int .u8 (K 4),.int .u8 (K 5),.int .u8 (K 6),.int .u8 (K 7),.int .u8 (K 8),.int .u8 (K 9),.int .u8 (K 10),.int .u8 (K 11),.int .u8 (K 12),.int .u8 (K 13),.int .u8 (K 14),.int .u8 (K 15),.int .u64 x,.slice A n c]
theorem aPF {w:World}{g:Nat}{T:TypeId}{s r m x:Int}{K:Nat→Int}{A:Option Addr}{n c:Nat}(h:Blk w g (entL s r m K x A n c) T)(a:IdOk K):Bytes w (some ⟨g,3,none⟩) (idL K):=by
 refine⟨aHf a,fun i hi=>⟨g,3,rfl,h.lt,?_⟩⟩
 have b:i<16:=hi
 refine h.cell ?_
 unfold entL idL
 rcases i with _|_|_|_|_|_|_|_|_|_|_|_|_|_|_|_|i
 all_goals first|rfl|omega
def entB (s r m:Int)(K:Nat→Int)(x:Int)(ps:List Int):List Int:=nums [s,r,m]++idL K++nums [x]++nums ps
theorem aDC (s r m:Int)(K:Nat→Int)(x:Int)(f g:Nat→Int)(k:Nat):(entB s r m K x (prs f g k)).length=48+16*k:=by
 unfold entB
 rw[yA,yA,yA,aDv,nums_len,nums_len]
 rfl
abbrev arrV (x:Int)(A:Option Addr)(n c:Nat):Value:= .agg #[.int .u64 x,.slice A n c]
abbrev arrC (T:TypeId)(x:Int)(A:Option Addr)(n c:Nat):Obj:= .cells #[.int .u64 x,.slice A n c] T
def arrB (x:Int)(l:List Int):List Int:=nums [x]++nums l
abbrev InsideA (b:Nat)(W:World)(x:Int)(A:Option Addr)(n c:Nat):Prop:=W.cell? ⟨b,0,none⟩=some (.int .u64 x)∧W.cell? ⟨b,1,none⟩=some (.slice A n c)
end Yd
end Go.Proofs.YteaikbodkgjkdaaGreat
