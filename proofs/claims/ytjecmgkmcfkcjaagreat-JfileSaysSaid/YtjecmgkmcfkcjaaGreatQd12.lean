/-
  Texts beneath the proof.
-/
import Derived.Test.YtjecmgkmcfkcjaaGreatQd11
import Derived.Test.YtjecmgkmcfkcjaaGreatQd6
set_option linter.unusedVariables false
set_option linter.unusedSimpArgs false
set_option maxRecDepth 100000
set_option maxHeartbeats 8000000
open Go.ChangeShapes Go.WideShapes Go.ChangeAt Go.RowKit
namespace Go.Proofs.YtjecmgkmcfkcjaaGreat
namespace Ge
open Bytes8 Blk8 Own8 LeNum RefB Ob Od Oe Ga Gb Ff Rows2
open Gn (ints rnums_in)
theorem wpList_append_full {w:World}{ops:Array Oper}{rest:List Oper}{o:Oper}{a:Act}{Q:Exit→Act→World→Prop}(hgd:o.guard=none)(s x:Operand)
 (hop:o.op= .call {callee:= .builtin .append,args:= #[s,x],argTypes:= #[23,23]})
 (base:Nat)(hbase:base≤w.heap.size)(b n:Nat)(l:List Int)(hs:a.eval s= .slice (some ⟨b,0,none⟩) n n)(h0:Bytes w (some ⟨b,0,none⟩) l)(hl:l.length=n)(A2:Option Addr)(m c2:Nat)(ys:List Int)(hx:a.eval x= .slice A2 m c2)(hb:Bytes w A2 ys)(hm:ys.length=m)(hm0:0<m)(hsz:n+m≤70368744177664)
 (h: ∀A' c' w',Own w' base A' (n+m) c' (l++ys)→Below base w w'→wpList Tryz.prog ops Q rest (a.put o.dst (.slice A' (n+m) c')) w'):wpList Tryz.prog ops Q (o::rest) a w:=by
 obtain⟨i,hi,hzz⟩:=Option.map_eq_some_iff.1 info8
 simp only[Prod.mk.injEq]at hzz
 obtain⟨hz,hs1,hby⟩:=hzz
 obtain⟨ad,rfl,hsrc⟩:=hb.source w (Below.refl _ _) (by omega)
 have hold: ∀j u,(l.map (Value.int .u8))[j]? =some u→w.cell? ((⟨b,0,none⟩:Addr).add j)=some u:=fun j u hu=>by
  rw[List.getElem?_map]at hu
  obtain⟨y,hy,rfl⟩:=Option.map_eq_some_iff.1 hu
  obtain⟨ad2,e2,h2⟩:=h0.source w (Below.refl _ _) (by have:=(List.getElem?_eq_some_iff.1 hy).1;omega)
  injection e2 with e2
  rw[e2]
  exact h2 j y hy
 have hr:=run_append_grow (P:=Tryz.prog) w 23 o.type 5 i (.int .u8 0) Tryz.underlying23 hi hz ⟨b,0,none⟩ n n (l.map (Value.int .u8)) (by simp[hl,hs1]) hold ad m c2 (ys.map (Value.int .u8)) (by simp[hm,hs1])
  (fun j u hu=>by
    rw[List.getElem?_map]at hu
    obtain⟨y,hy,rfl⟩:=Option.map_eq_some_iff.1 hu
    exact hsrc j y hy) (by omega) (by omega) (growslice_fits (by omega) (by rw[hby];omega))
 have hge:=grownCap_ge w (n+m) n 5
 have hcm:grownCap w (n+m) n 5≤maxLen:=grownCap_le_maxLen w (n+m) n 5 (by unfold maxLen;omega)
 refine wpList_plain hgd fun K hK=>?_
 unfold Oper.wp execOp
 simp only[hop,resolve,invoke,builtin,Sem.run_bind,Sem.run_pure,Result.andThen_ok,List.map_toArray,List.map_cons,List.map_nil,hs,hx,hr]
 refine hK _ _ (h _ _ _ ⟨h0.1.app hb.1,by rw[List.length_append,hl,hm],by simp;omega,by simp[hl,hm],.inr ⟨w.heap.size,_,_,rfl,hbase,heap_alloc_new w.drew _,hge,hcm,?_,?_⟩⟩ (((Below.refl base w).drew).alloc hbase _))
 ·simp only[Array.size_append,List.size_toArray,List.length_map,size_zeroCells,Value.cells,hl,hm]
  simp
  omega
 ·simp only[Array.toList_append,List.map_append]
  rw[List.take_append_of_le_length (by simp[hl,hm]),List.take_of_length_le (by simp[hl,hm])]
theorem low_byte (v:Int)(h0:0≤v)(h1:v<256):lowB v 8=[v,0,0,0,0,0,0,0]:=by
 have e: ∀k:Nat,1≤k→v/256^k%256=0:=fun k hk=>by
  have:(256:Int)^k=256*256^(k-1):=by rw[←Int.pow_succ',show k-1+1=k by omega]
  have h2:v<256^k:=by
   have h3:(0:Int)<256^(k-1):=Int.pow_pos (by decide)
   rw[this];omega
  rw[Int.ediv_eq_zero_of_lt h0 h2];rfl
 have e0:v/256^0%256=v:=by simp;omega
 simp only[lowB,show List.range 8=[0,1,2,3,4,5,6,7]from rfl,List.map_cons,List.map_nil,e0,e 1 (by decide),e 2 (by decide),e 3 (by decide),e 4 (by decide),e 5 (by decide),e 6 (by decide),e 7 (by decide)]
attribute [local irreducible] HD.cells wpList Code.wp
theorem rbytes_any (h:HD)(ok:h.Ok 20)(d:Int)(hd:0≤d∧d≤18446744073709551615)(w:World):
 Calls Tryz.prog 85 #[.agg (h.cells 20).toArray,.int .u64 d] w (Owned ((HD.plus h d).bytes 21) 272 w):=by
 have b0:=Lib.hid ((Below.refl w.heap.size w).alloc (Nat.le_refl _) (.cells (h.cells 20).toArray 126))
 have R0:=Lib.hid (show Blk (w.alloc (.cells (h.cells 20).toArray 126)) w.heap.size (h.cells 20) 126 from Blk.new w _ _)
 have S0:=Lib.hid (show(w.alloc (.cells (h.cells 20).toArray 126)).heap.size=w.heap.size+1 by simp)
 go_enter Tryz.func85,Tryz.ntmps85
 go_upto_region 1 with fail
 generalize w.alloc (.cells (h.cells 20).toArray 126)=w0 at*
 have kc:=fun(w:World) (C:Array Value) (n c:Nat)=>Lib.run_convert_bytes_const (P:=Tryz.prog) w 23 5 C n c Tryz.underlying23 Tryz.underlying5
 have M1:=Lib.hid (show Bytes (w0.alloc (.cells #[.int .u8 76,.int .u8 80,.int .u8 75,.int .u8 83,.int .u8 72,.int .u8 72,.int .u8 82,.int .u8 72] 5 (8,9))) (some ⟨w0.heap.size,0,none⟩) magicL from const_bytes magicL magic_all w0 (8,9))
 have a1:=Lib.hid ((Below.refl w0.heap.size w0).alloc (Nat.le_refl _) (.cells #[.int .u8 76,.int .u8 80,.int .u8 75,.int .u8 83,.int .u8 72,.int .u8 72,.int .u8 82,.int .u8 72] 5 (8,9)))
 have R1:=Lib.hid (R0.out.below a1.out R0.out.lt)
 have HL:=Lib.hid R0.out.lt
 have L4:=Lib.hid fun(v:Int) (h0:0≤v) (h1:v≤4294967295) (W:World)=>rlow_at v 4 4 W h0 (by omega) (by decide) rfl
 have c0:(w0.alloc (.cells #[.int .u8 76,.int .u8 80,.int .u8 75,.int .u8 83,.int .u8 72,.int .u8 72,.int .u8 82,.int .u8 72] 5 (8,9))).cell? ⟨w.heap.size,0,none⟩=some (.int .u32 h.cp):=R1.out.cell (h.get 20 0 (by decide))
 have hcp:=ok.cp
 have D1:=Lib.hid (show magicL.length=8 from rfl)
 have E4:=Lib.hid fun(v:Int)=>lowB_len v 4
 go_upto_region 2 with(first
  |(go_at_call 143;((with_reducible refine(L4.out _ hcp.1 hcp.2 _).mono ?_);rintro e w2 ⟨A2,c2,rfl,ho2,hb2⟩;have O2:=Lib.hid ho2;have B2:=Lib.hid hb2;clear ho2 hb2))
  |((with_reducible apply at_slot 12);refine wpList_append_full rfl (.tmp 7) (.tmp 11) rfl w0.heap.size (Nat.le_trans a1.out.size B2.out.size) w0.heap.size 8 magicL rfl (M1.out.below B2.out (Nat.le_refl _)) D1.out A2 4 c2 _ rfl O2.out.bytes (E4.out _) (by decide) (by decide) ?_;intro A3 c3 w3 ho3 hb3;have O3:=Lib.hid ho3;have B3:=Lib.hid (a1.out.trans ((B2.out.mono a1.out.size).trans hb3));clear ho3 hb3))
 have R3:=Lib.hid (R0.out.below B3.out HL.out)
 have c1:w3.cell? ⟨w.heap.size,1,none⟩=some (.int .u32 h.ic):=R3.out.cell (h.get 20 1 (by decide))
 have hic:=ok.ic
 clear c0 kc M1 a1 R1 O2 B2 D1
 go_upto_region 3 with(first
  |(go_at_call 143;((with_reducible refine(L4.out _ hic.1 hic.2 _).mono ?_);rintro e w4 ⟨A4,c4,rfl,ho4,hb4⟩;have O4:=Lib.hid ho4;have B4:=Lib.hid hb4;clear ho4 hb4))
  |((with_reducible apply at_slot 18);refine wpList_append_bytes rfl (.tmp 13) (.tmp 17) rfl w0.heap.size A3 12 c3 _ rfl (O3.out.kept B4.out (Nat.le_refl _)) A4 4 c4 _ rfl O4.out.bytes (E4.out _) (by decide) ?_;intro A5 c5 w5 ho5 hb5;have O5:=Lib.hid ho5;have B5:=Lib.hid ((B3.out.trans (B4.out.mono B3.out.size)).trans hb5);clear ho5 hb5))
 have R5:=Lib.hid (R0.out.below B5.out HL.out)
 have c2':w5.cell? ⟨w.heap.size,2,none⟩=some (.int .i64 h.st):=R5.out.cell (h.get 20 2 (by decide))
 have hst:IntKind.u8.wrap h.st=h.st%256:=by simp[IntKind.wrap,IntKind.signed,IntKind.bits]
 have hm0:0≤h.st%256∧h.st%256<256:=by omega
 have Hl8:=Lib.hid (show lowB (h.st%256) 8=[h.st%256,0,0,0,0,0,0,0]from low_byte _ hm0.1 hm0.2)
 have HF8:=Lib.hid (show h.front=magicL++lowB h.cp 4++lowB h.ic 4++lowB (h.st%256) 8 from rfl)
 generalize h.st%256=st8 at*
 have HA8:=Lib.hid (show AllB [st8,0,0,0,0,0,0,0]by rw[←Hl8.out];exact lowB_all _ _)
 have HB8:=Lib.hid (show Bytes (w5.alloc (.cells #[.int .u8 st8,.int .u8 0,.int .u8 0,.int .u8 0,.int .u8 0,.int .u8 0,.int .u8 0,.int .u8 0] 5)) (some ⟨w5.heap.size,0,none⟩) [st8,0,0,0,0,0,0,0]from(Row.new w5 [st8,0,0,0,0,0,0,0]).bytes HA8.out)
 clear c1 O3 O4 B4 R3
 go_upto_region 4 with((with_reducible apply at_slot 24);refine wpList_append_bytes rfl (.tmp 19) (.tmp 23) rfl w0.heap.size A5 16 c5 _ rfl (O5.out.alloc _) (some ⟨w5.heap.size,0,none⟩) 8 8 _ rfl HB8.out rfl (by decide) ?_;intro A6 c6 w6 ho6 hb6;have O6:=Lib.hid ho6;have B6:=Lib.hid ((B5.out.alloc B5.out.size _).trans hb6);clear ho6 hb6)
 rw[←Hl8.out]at O6
 clear c2' hst hm0 O5 B5 R5 HA8 HB8 Hl8
 go_region_held3 (fun W=>True) (first|(with_reducible exact trivial)) (first
  |(refine step_append_bytes (o:=⟨some 28,_,_,_,_,_⟩) rfl (.tmp 25) (.tmp 27) rfl w0.heap.size A6 24 c6 _ rfl O6.out.drew (some ⟨w.heap.size,3,none⟩) 16 16 (h.id 0) rfl (HD.id_at (R0.out.below B6.out HL.out) ok 0 (by decide)).drew (h.id_len 0) (by decide) ?_;intro A7 c7 w7 ho7 hb7;have O7:=Lib.hid ho7;have B7:=Lib.hid (B6.out.drew.trans hb7);clear ho7 hb7)
  |(refine step_append_bytes (o:=⟨some 31,_,_,_,_,_⟩) rfl (.tmp 28) (.tmp 30) rfl w0.heap.size A7 40 c7 _ rfl O7.out (some ⟨w.heap.size,19,none⟩) 16 16 (h.id 1) rfl (HD.id_at (R0.out.below B7.out HL.out) ok 1 (by decide)) (h.id_len 1) (by decide) ?_;intro A8 c8 w8 ho8 hb8;have O8:=Lib.hid ho8;have B8:=Lib.hid (B7.out.trans hb8);clear ho8 hb8)
  |(refine step_append_bytes (o:=⟨some 34,_,_,_,_,_⟩) rfl (.tmp 31) (.tmp 33) rfl w0.heap.size A8 56 c8 _ rfl O8.out (some ⟨w.heap.size,35,none⟩) 16 16 (h.id 2) rfl (HD.id_at (R0.out.below B8.out HL.out) ok 2 (by decide)) (h.id_len 2) (by decide) ?_;intro A9 c9 w9 ho9 hb9;have O9:=Lib.hid ho9;have B9:=Lib.hid (B8.out.trans hb9);clear ho9 hb9)
  |(refine step_append_bytes (o:=⟨some 37,_,_,_,_,_⟩) rfl (.tmp 34) (.tmp 36) rfl w0.heap.size A9 72 c9 _ rfl O9.out (some ⟨w.heap.size,51,none⟩) 16 16 (h.id 3) rfl (HD.id_at (R0.out.below B9.out HL.out) ok 3 (by decide)) (h.id_len 3) (by decide) ?_;intro A10 c10 w10 ho10 hb10;have O10:=Lib.hid ho10;have B10:=Lib.hid (B9.out.trans hb10);clear ho10 hb10))
 have HI4:=Lib.hid (show h.ids 4=h.id 0++h.id 1++h.id 2++h.id 3 by rw[show(4:Nat)=3+1 from rfl,h.ids_succ,show(3:Nat)=2+1 from rfl,h.ids_succ,show(2:Nat)=1+1 from rfl,h.ids_succ,show(1:Nat)=0+1 from rfl,h.ids_succ];rfl)
 have OA:=Lib.hid (show Own w10 w0.heap.size A10 88 c10 (h.front++h.ids 4)by rw[HF8.out,HI4.out];simpa only[List.append_assoc]using O10.out)
 have R10:=Lib.hid (R0.out.below B10.out HL.out)
 have HNi:=Lib.hid (show InInts .u64 w10 (some ⟨w.heap.size,67,none⟩) 20 h.N from fun i hi=>⟨w.heap.size,67,rfl,R10.out.lt,HD.nums_at R10.out i hi,by have:=ok.N i;simp[Lit.wf,IntKind.min,IntKind.max,IntKind.signed,IntKind.bits];omega⟩)
 have HN1:=Lib.hid (rnums_in (some ⟨w.heap.size,67,none⟩) 20 20 h.N w10 HNi.out (by decide))
 have HN2:=Lib.hid fun(W:World) (g:Nat) (hg:W.heap.size=g)=>rnums1 d W g hd hg
 have E160:=Lib.hid (show(Ob.nums (ints h.N 20)).length=160 by rw[nums_len,Gn.ints_len])
 have E8:=Lib.hid (lowB_len d 8)
 clear O6 O7 O8 O9 B6 B7 B8 B9 O10 hcp hic HI4 HF8
 go_upto_region 6 with(first
  |(go_at_call 144;((with_reducible refine HN1.out.mono ?_);rintro e w11 ⟨X1,x1,rfl,ho11,hb11⟩;have O11:=Lib.hid ho11;have B11:=Lib.hid hb11;clear ho11 hb11))
  |((with_reducible apply at_slot 42);refine wpList_append_bytes rfl (.tmp 38) (.tmp 41) rfl w0.heap.size A10 88 c10 _ rfl (OA.out.kept B11.out (Nat.le_refl _)) X1 160 x1 _ rfl O11.out.bytes E160.out (by decide) ?_;intro A12 c12 w12 ho12 hb12;have O12:=Lib.hid ho12;have B12:=Lib.hid ((B10.out.trans (B11.out.mono B10.out.size)).trans hb12);clear ho12 hb12)
  |(go_at_call 144;((with_reducible refine(HN2.out _ _ rfl).mono ?_);rintro e w13 ⟨X2,x2,rfl,ho13,hb13⟩;have O13:=Lib.hid ho13;have B13:=Lib.hid hb13;clear ho13 hb13))
  |((with_reducible apply at_slot 46);refine wpList_append_bytes rfl (.tmp 42) (.tmp 45) rfl w0.heap.size A12 248 c12 _ rfl (O12.out.kept B13.out (Nat.le_refl _)) X2 8 x2 _ rfl O13.out.bytes E8.out (by decide) ?_;intro A14 c14 w14 ho14 hb14;have O14:=Lib.hid ho14;have B14:=Lib.hid ((B12.out.trans (B13.out.mono B12.out.size)).trans hb14);clear ho14 hb14))
 have HNq:=Lib.hid (show Ob.nums (ints h.N 20)++lowB d 8=Ob.nums ((HD.plus h d).nums 21)by
  rw[←nums_snoc]
  congr 1)
 have OB:=Lib.hid (show Own w14 w0.heap.size A14 256 c14 (h.front++h.ids 4++Ob.nums ((HD.plus h d).nums 21))by rw[←HNq.out,←List.append_assoc];exact O14.out)
 clear O11 O12 O13 B11 B12 B13 O14 HN1 HN2 HNi E160 E8 OA B10 R10 HNq
 have HC:=Lib.hid fun(W:World) (hW:Below w0.heap.size w0 W)=>show W.cell? ⟨w.heap.size,87,none⟩=some (.int .u32 h.ta)∧W.cell? ⟨w.heap.size,88,none⟩=some (.int .u32 h.ti)from⟨(R0.out.below hW HL.out).cell (h.get_ta 20),(R0.out.below hW HL.out).cell (h.get_ti 20)⟩
 have hta:=ok.ta
 have hti:=ok.ti
 have LA:=Lib.hid fun(W:World)=>show Calls Tryz.prog 143 #[.int .u64 (IntKind.u64.wrap h.ta),.int .i64 4] W fun e w'=> ∃A c,e= .returned (.slice A 4 c)∧Own w' W.heap.size A 4 c (lowB h.ta 4)∧Below W.heap.size W w' by
  rw[show IntKind.u64.wrap h.ta=h.ta by rw[IntKind.wrap_u64];omega]
  exact L4.out h.ta hta.1 hta.2 W
 have LB:=Lib.hid fun(W:World)=>show Calls Tryz.prog 143 #[.int .u64 (IntKind.u64.wrap h.ti),.int .i64 4] W fun e w'=> ∃A c,e= .returned (.slice A 4 c)∧Own w' W.heap.size A 4 c (lowB h.ti 4)∧Below W.heap.size W w' by
  rw[show IntKind.u64.wrap h.ti=h.ti by rw[IntKind.wrap_u64];omega]
  exact L4.out h.ti hti.1 hti.2 W
 have EA:=Lib.hid (lowB_len h.ta 4)
 have EB:=Lib.hid (lowB_len h.ti 4)
 have q0:=HC.out _ B14.out.drew
 have S14:=Lib.hid (Nat.le_refl w14.heap.size)
 go_cut [5]from 47 to 58 (fun z wx=> ∃A1 c1,z= .slice A1 264 c1∧Hid (Own wx w0.heap.size A1 264 c1 (h.front++h.ids 4++Ob.nums ((HD.plus h d).nums 21)++lowB h.ta 4++lowB h.ti 4))∧Hid (Below w0.heap.size w0 wx))
 case first=>
  go_region_held3 (fun W=>W.cell? ⟨w.heap.size,87,none⟩=some (.int .u32 h.ta)∧W.cell? ⟨w.heap.size,88,none⟩=some (.int .u32 h.ti)) (first|(with_reducible exact q0)|(with_reducible exact qa)|(with_reducible exact qg)|(with_reducible exact qz)|(with_reducible exact qy)) (first
   |(go_simp;go_at_call 143;(with_reducible refine(LA.out w14.drew).mono ?_);rintro e wa ⟨Aa,ca,rfl,hoa,hba⟩;have Oa:=Lib.hid hoa;have Fa:=Lib.hid (B14.out.drew.trans (hba.mono B14.out.drew.size));have Pa:=Lib.hid (OB.out.drew.kept hba (Nat.le_refl _));have Sa:=Lib.hid hba.size;have qa:=HC.out _ Fa.out;clear hoa hba)
   |(refine step_append_bytes (o:=⟨some 52,_,_,_,_,_⟩) rfl (.tmp 47) (.tmp 51) rfl w0.heap.size A14 256 c14 _ rfl Pa.out Aa 4 ca _ rfl Oa.out.bytes EA.out (by decide) ?_;intro Ag cg wg hog hbg;have Og:=Lib.hid hog;have Fg:=Lib.hid (Fa.out.trans hbg);have qg:=HC.out _ Fg.out;clear hog hbg)
   |(go_simp;go_at_call 143;(with_reducible refine(LB.out wg).mono ?_);rintro e wh ⟨Ah,ch,rfl,hoh,hbh⟩;have Oh:=Lib.hid hoh;have Fh:=Lib.hid (Fg.out.trans (hbh.mono Fg.out.size));have Ph:=Lib.hid (Og.out.kept hbh (Nat.le_refl _));have qz:=HC.out _ Fh.out;clear hoh hbh)
   |(refine step_append_bytes (o:=⟨some 57,_,_,_,_,_⟩) rfl (.tmp 52) (.tmp 56) rfl w0.heap.size Ag 260 cg _ rfl Ph.out Ah 4 ch _ rfl Oh.out.bytes EB.out (by decide) ?_;intro Az cz wz hoz hbz;have Oz:=Lib.hid hoz;have Fz:=Lib.hid (Fh.out.trans hbz);have qy:=HC.out _ Fz.out;clear hoz hbz))
  all_goals
   go_wp2_with fail
   go_meet
   case rel=>exact⟨Az,cz,rfl,Oz,Fz⟩
 case rest=>
  obtain⟨A1,c1,rfl,ho1,hb1⟩:=hcut
  have Rz:=Lib.hid (R0.out.below hb1.out HL.out)
  have cz:wc.cell? ⟨w.heap.size,89,none⟩=some (.int .u64 h.te):=Rz.out.cell (h.get_te 20)
  have HN3:=Lib.hid fun(W:World) (g:Nat) (hg:W.heap.size=g)=>rnums1 h.te W g ok.te hg
  have E8:=Lib.hid (lowB_len h.te 8)
  have E:=Lib.hid (show(HD.plus h d).bytes 21=h.front++h.ids 4++Ob.nums ((HD.plus h d).nums 21)++lowB h.ta 4++lowB h.ti 4++lowB h.te 8 from rfl)
  clear q0 LA LB HC L4
  go_wp2_with(first
   |(go_at_call 144;((with_reducible refine(HN3.out _ _ rfl).mono ?_);rintro e w15 ⟨X3,x3,rfl,ho15,hb15⟩;have O15:=Lib.hid ho15;have B15:=Lib.hid hb15;clear ho15 hb15))
   |((with_reducible apply at_slot 63);refine wpList_append_bytes rfl (.tmp 58) (.tmp 62) rfl w0.heap.size A1 264 c1 _ rfl (ho1.out.kept B15.out (Nat.le_refl _)) X3 8 x3 _ rfl O15.out.bytes E8.out (by decide) ?_;intro A16 c16 w16 ho16 hb16;have O16:=Lib.hid ho16;have B16:=Lib.hid ((hb1.out.trans (B15.out.mono hb1.out.size)).trans hb16);clear ho16 hb16))
  go_ret
  exact⟨A16,c16,rfl,by rw[E.out];exact Od.Own.base (b2:=w.heap.size) O16.out (Nat.le_of_lt HL.out),b0.out.trans (B16.out.mono (Nat.le_of_lt HL.out))⟩
end Ge
namespace Gt
open Bytes8 Blk8 Own8 OwnE Ob Od Ga Gb Gf Gi Gj Gl Gq
open Gm (flB stB fcode end_bd)
open Go1 (magicB hcode bytes_take)
theorem rzero_built:Tryz.prog.built 126 []=some (hd0.cells 20).toArray:=by kernel_rfl
theorem results_cell_tmp2 {fn:Func}{p u v:Tmp}{ty:TypeId}(h:fn.results= #[.cell p ty,.tmp u,.tmp v])(tmps:Array Value)(P:Program)(w:World):
 (results fn tmps).run P w=((asAddr (tmps.getD p undef)).run P w).andThen fun a w=>((loadVar ty a).run P w).andThen fun x w=> .ok (.tuple #[x,tmps.getD u undef,tmps.getD v undef]) w:=by
 simp[results,h]
theorem res_row3 {P:Program}{fn:Func}{p u v:Tmp}{ty:TypeId}(h:fn.results= #[.cell p ty,.tmp u,.tmp v])(tmps:Array Value)(w:World)(g:Nat)(t:TypeId)(cs:Array Value)(fr:Nat×Nat)(d:TypeDesc)(c e:Value)
 (hp:tmps.getD p undef= .pointer (some ⟨g,0,none⟩))(hc:tmps.getD u undef=c)(he:tmps.getD v undef=e)(hg:w.heap[g]? =some (.cells cs t fr))(hu:P.underlying ty=some d)(hd:(match d with| .struct _| .array _ _=>true|_=>false)=true)(hi:(P.info? ty).map (·.size)=some cs.size):
 (results fn tmps).run P w= .ok (.tuple #[.agg cs,c,e]) w:=by
 rw[results_cell_tmp2 h,hp,hc,he]
 simp[asAddr,run_loadVar_row w g t ty cs fr d hg hu hd hi,Result.andThen]
abbrev RTold (h:HD)(dp c:Int)(w:World)(e:Ending)(w':World):Prop:=e= .returned (.tuple #[.agg (h.cells 20).toArray,.int .u64 dp,.int .i64 c])∧Below w.heap.size w w'
attribute [local irreducible] HD.cells wpList Code.wp
theorem rread_short (A:Option Addr)(n c:Nat)(w:World)(hn:n<272):
 Calls Tryz.prog 69 #[.slice A n c] w (RTold hd0 0 22 w):=by
 have d1:(n:Int)<272:=by omega
 go_enter Tryz.func69,Tryz.ntmps69
 go_upto_region 1 with fail
 have b1:=Lib.hid ((Below.refl w.heap.size w).alloc (Nat.le_refl _) (.cells Tryz.zeroCells126 126))
 have Z1:=Lib.hid (heap_alloc_new w (.cells Tryz.zeroCells126 126))
 have S1:=Lib.hid (show(w.alloc (.cells Tryz.zeroCells126 126)).heap.size=w.heap.size+1 by simp)
 generalize w.alloc (.cells Tryz.zeroCells126 126)=w1 at*
 go_wp2_with(first
  |((with_reducible apply at_slot 13);refine wpList_build_zero rfl 126 rfl _ rzero_built ?_)
  |((with_reducible apply at_store (.tmp 2) (.tmp 13));refine wpList_store_row rfl 126 (.tmp 2) (.tmp 13) rfl w.heap.size (hd0.cells 20).toArray rfl rfl 126 Tryz.zeroCells126 Z1.out (rcells_info _) rzeros_size (HD.one _ 20) ?_)
  |fail)
 refine bodyPost_ret (v:= .tuple #[.agg (hd0.cells 20).toArray,.int .u64 0,.int .i64 22]) (by exact res_row3 Tryz.results69 _ _ w.heap.size 126 _ (0,0) _ _ _ rfl rfl rfl (setRow_heap _ _ _ _ _ (0,0) Z1.out) Tryz.underlying126 rfl (rcells_info _)) rfl ?_
 exact⟨rfl,below_setRow b1.out (Nat.le_refl _) _⟩
theorem rread_magic (A:Option Addr)(l:List Int)(n c:Nat)(w:World)(hb:Bytes w A l)(hL:l.length=n)(h272:272≤n)(hc:n≤c)(hm:magicB l=false):
 Calls Tryz.prog 69 #[.slice A n c] w (RTold hd0 0 6 w):=by
 have d1: ¬(n:Int)<272:=by omega
 go_enter Tryz.func69,Tryz.ntmps69
 go_upto_region 1 with fail
 have b1:=Lib.hid ((Below.refl w.heap.size w).alloc (Nat.le_refl _) (.cells Tryz.zeroCells126 126))
 have Z1:=Lib.hid (heap_alloc_new w (.cells Tryz.zeroCells126 126))
 have S1:=Lib.hid (show(w.alloc (.cells Tryz.zeroCells126 126)).heap.size=w.heap.size+1 by simp)
 generalize w.alloc (.cells Tryz.zeroCells126 126)=w1 at*
 have h8:(l.take 8).length=8:=by simp;omega
 have HB1:=Lib.hid (hb.below b1.out (Nat.le_refl _))
 have hst:=(bytes_take HB1.out 8).string c 8 h8
 have hS:(!(strOfNums (l.take 8)).toList== [76,80,75,83,72,72,82,72])=true:=by unfold magicB at hm;rw[hm];rfl
 generalize strOfNums (l.take 8)=S at*
 have hcc:(8:Int)≤(c:Int):=by omega
 go_wp2_with(first
  |((with_reducible apply at_slot 18);refine wpList_build_zero rfl 126 rfl _ rzero_built ?_)
  |((with_reducible apply at_store (.tmp 2) (.tmp 18));refine wpList_store_row rfl 126 (.tmp 2) (.tmp 18) rfl w.heap.size (hd0.cells 20).toArray rfl rfl 126 Tryz.zeroCells126 Z1.out (rcells_info _) rzeros_size (HD.one _ 20) ?_)
  |fail)
 refine bodyPost_ret (v:= .tuple #[.agg (hd0.cells 20).toArray,.int .u64 0,.int .i64 6]) (by exact res_row3 Tryz.results69 _ _ w.heap.size 126 _ (0,0) _ _ _ rfl rfl rfl (setRow_heap _ _ _ _ _ (0,0) Z1.out) Tryz.underlying126 rfl (rcells_info _)) rfl ?_
 exact⟨rfl,below_setRow b1.out (Nat.le_refl _) _⟩
theorem rread_taken (A:Option Addr)(l:List Int)(n c:Nat)(w:World)(hb:Bytes w A l)(hL:l.length=n)(h272:272≤n)(hn:n≤1000000)(hc:n≤c)(hm:magicB l=true):
 Calls Tryz.prog 69 #[.slice A n c] w (RTold (if fcode (hdOf l) n=0 then hdOf l else hd0) (if fcode (hdOf l) n=0 then Ob.u8 l 248 else 0) (fcode (hdOf l) n) w):=by
 have d1: ¬(n:Int)<272:=by omega
 have HT:=Lib.hid fun(W:World) (hW:Bytes W A l)=>raw_any A l n c W hW hL h272 hn
 have ok:=hdOf_ok hb.1 20
 have ok21:=hdOf_ok hb.1 21
 have HE:=Lib.hid fun(W:World)=>rend_any (hdOf l) ok W
 have hst0:=hb.1.at_ 16
 have hstv:(hdOf l).st=l.getD 16 0:=rfl
 rw[←hstv]at hst0
 clear hstv
 generalize Ob.u8 l 248=dp at*
 go_enter Tryz.func69,Tryz.ntmps69
 go_upto_region 1 with fail
 have b1:=Lib.hid ((Below.refl w.heap.size w).alloc (Nat.le_refl _) (.cells Tryz.zeroCells126 126))
 have Z1:=Lib.hid (heap_alloc_new w (.cells Tryz.zeroCells126 126))
 have S1:=Lib.hid (show(w.alloc (.cells Tryz.zeroCells126 126)).heap.size=w.heap.size+1 by simp)
 generalize w.alloc (.cells Tryz.zeroCells126 126)=w1 at*
 have h8:(l.take 8).length=8:=by simp;omega
 have HB1:=Lib.hid (hb.below b1.out (Nat.le_refl _))
 have hst:=(bytes_take HB1.out 8).string c 8 h8
 have hS:(!(strOfNums (l.take 8)).toList== [76,80,75,83,72,72,82,72])=false:=by unfold magicB at hm;rw[hm];rfl
 generalize strOfNums (l.take 8)=S at*
 have hcc:(8:Int)≤(c:Int):=by omega
 clear h8 hm
 go_upto_region 6 with(first
  |(go_at_call 125;((with_reducible refine(HT.out _ HB1.out).mono ?_);rintro e w2 ⟨rfl,hb2⟩;have B2:=Lib.hid hb2;clear hb2))
  |((with_reducible apply at_store (.tmp 5) (.tmp 22));refine wpList_store_row rfl 126 (.tmp 5) (.tmp 22) rfl w2.heap.size ((hdOf l).cells 20).toArray rfl rfl 126 Tryz.zeroCells126 (heap_alloc_new w2 _) (rcells_info _) rzeros_size (HD.one _ 20) ?_)
  |fail)
 have R3:=Lib.hid (show Blk ((w2.alloc (.cells Tryz.zeroCells126 126)).setRow w2.heap.size ((hdOf l).cells 20).toArray) w2.heap.size ((hdOf l).cells 20) 126 from setRow_heap _ _ _ _ _ (0,0) (heap_alloc_new w2 _))
 have B3:=Lib.hid (show Below w1.heap.size w1 ((w2.alloc (.cells Tryz.zeroCells126 126)).setRow w2.heap.size ((hdOf l).cells 20).toArray)from below_setRow (B2.out.alloc B2.out.size _) B2.out.size _)
 generalize (w2.alloc (.cells Tryz.zeroCells126 126)).setRow w2.heap.size ((hdOf l).cells 20).toArray=w3 at*
 clear hst hS hb HB1 HT
 go_upto_region 7 with(first
  |((with_reducible apply at_slot 25);refine wpList_load_row rfl 126 (.tmp 5) rfl w2.heap.size rfl 126 ((hdOf l).cells 20).toArray (0,0) _ R3.out Tryz.underlying126 rfl (rcells_info _) ?_)
  |(go_at_call 70;((with_reducible refine(HE.out _).mono ?_);rintro e w4 ⟨rfl,hb4⟩;have R4:=Lib.hid (R3.out.below hb4 R3.out.lt);have B4:=Lib.hid (B3.out.trans (hb4.mono B3.out.size));clear hb4))
  |fail)
 have Z4:=Lib.hid ((B4.out.block w.heap.size (by rw[S1.out];exact Nat.lt_succ_self _)).trans Z1.out)
 have Bz:=Lib.hid (b1.out.trans (B4.out.mono (by rw[S1.out];exact Nat.le_succ _)))
 have c1:w4.cell? ⟨w2.heap.size,1,none⟩=some (.int .u32 (hdOf l).ic):=R4.out.cell ((hdOf l).get 20 1 (by decide))
 have c2:w4.cell? ⟨w2.heap.size,2,none⟩=some (.int .i64 (hdOf l).st):=R4.out.cell ((hdOf l).get 20 2 (by decide))
 have c67:=HD.nums_at R4.out 0 (by decide)
 have c68:=HD.nums_at R4.out 1 (by decide)
 have c69:=HD.nums_at R4.out 2 (by decide)
 have c70:=HD.nums_at R4.out 3 (by decide)
 have c71:=HD.nums_at R4.out 4 (by decide)
 have c72:=HD.nums_at R4.out 5 (by decide)
 have hic:=ok.ic
 obtain⟨p0,p1⟩:=ok.N 0
 obtain⟨r0,r1⟩:=ok.N 1
 have HFC:fcode (hdOf l) n=if flB (hdOf l).ic=true then 7 else if stB (hdOf l).st=false then 8 else if(hdOf l).N 0<272∨(hdOf l).N 0%8≠0∨(hdOf l).N 1%8≠0 then 5 else if endB (hdOf l)=false∨(n:Int)<endV (hdOf l)then 2 else if tcode ((hdOf l).N 2) ((hdOf l).N 3) ((hdOf l).N 0) (endV (hdOf l))≠0 then tcode ((hdOf l).N 2) ((hdOf l).N 3) ((hdOf l).N 0) (endV (hdOf l))else tcode ((hdOf l).N 4) ((hdOf l).N 5) ((hdOf l).N 0) (endV (hdOf l)):=rfl
 have HVb:=Lib.hid (end_bd (hdOf l) ok21)
 have HVe:endB (hdOf l)=true→endV (hdOf l)=(hdOf l).N 0+(hdOf l).N 1:=fun h=>if_pos (of_decide_eq_true h)
 have HT1:=Lib.hid (rtable_any ((hdOf l).N 0) (endV (hdOf l)) ((hdOf l).N 2) ((hdOf l).N 3) (ok.N 0) (end_bd _ ok21) (ok.N 2) (ok.N 3) w4)
 have HT2:=Lib.hid (rtable_any ((hdOf l).N 0) (endV (hdOf l)) ((hdOf l).N 4) ((hdOf l).N 5) (ok.N 0) (end_bd _ ok21) (ok.N 4) (ok.N 5) w4)
 clear HE ok ok21 R3 B3 B2 d1
 have hfin0: ∀x:Int,fcode (hdOf l) n=x→Hid (fcode (hdOf l) n=x):=fun x hx=>Lib.hid hx
 generalize fcode (hdOf l) n=FC at*
 have base: ∀cd:Int,FC=cd→cd≠0→Hid (FC=cd):=fun cd h _=>Lib.hid h
 by_cases h1:flB (hdOf l).ic=true
 ·rw[if_pos h1]at HFC
  subst HFC
  have h1':(bits BinOp.andNot IntKind.u32 (hdOf l).ic 4 !=0)=true:=h1
  clear hfin0 base h1
  rw[if_neg (by decide),if_neg (by decide)]
  go_wp2_with(first
   |((with_reducible apply at_slot 93);refine wpList_build_zero rfl 126 rfl _ rzero_built ?_)
   |((with_reducible apply at_store (.tmp 2) (.tmp 93));refine wpList_store_row rfl 126 (.tmp 2) (.tmp 93) rfl w.heap.size (hd0.cells 20).toArray rfl rfl 126 Tryz.zeroCells126 Z4.out (rcells_info _) rzeros_size (HD.one _ 20) ?_)
   |fail)
  refine bodyPost_ret (v:= .tuple #[.agg (hd0.cells 20).toArray,.int .u64 0,.int .i64 7]) (by exact res_row3 Tryz.results69 _ _ w.heap.size 126 _ (0,0) _ _ _ rfl rfl rfl (setRow_heap _ _ _ _ _ (0,0) Z4.out) Tryz.underlying126 rfl (rcells_info _)) rfl ?_
  exact⟨rfl,below_setRow Bz.out (Nat.le_refl _) _⟩
 rw[if_neg h1]at HFC
 have h1':(bits BinOp.andNot IntKind.u32 (hdOf l).ic 4 !=0)=false:=by have h1x:flB (hdOf l).ic=false:=by simpa using h1
                                                                      exact h1x
 clear h1
 by_cases h2:stB (hdOf l).st=false
 ·rw[if_pos h2]at HFC
  subst HFC
  have h2':2<(hdOf l).st:=by unfold stB at h2;simp at h2;omega
  have d2:decide (2<(hdOf l).st)=true:=by simp;omega
  clear hfin0 base h2
  rw[if_neg (by decide),if_neg (by decide)]
  go_wp2_with(first
   |((with_reducible apply at_slot 93);refine wpList_build_zero rfl 126 rfl _ rzero_built ?_)
   |((with_reducible apply at_store (.tmp 2) (.tmp 93));refine wpList_store_row rfl 126 (.tmp 2) (.tmp 93) rfl w.heap.size (hd0.cells 20).toArray rfl rfl 126 Tryz.zeroCells126 Z4.out (rcells_info _) rzeros_size (HD.one _ 20) ?_)
   |fail)
  refine bodyPost_ret (v:= .tuple #[.agg (hd0.cells 20).toArray,.int .u64 0,.int .i64 8]) (by exact res_row3 Tryz.results69 _ _ w.heap.size 126 _ (0,0) _ _ _ rfl rfl rfl (setRow_heap _ _ _ _ _ (0,0) Z4.out) Tryz.underlying126 rfl (rcells_info _)) rfl ?_
  exact⟨rfl,below_setRow Bz.out (Nat.le_refl _) _⟩
 rw[if_neg h2]at HFC
 have h2': ¬2<(hdOf l).st:=by unfold stB at h2;simp at h2;omega
 have d2:decide (2<(hdOf l).st)=false:=by simp;omega
 clear h2
 by_cases h3:(hdOf l).N 0<272∨(hdOf l).N 0%8≠0∨(hdOf l).N 1%8≠0
 ·rw[if_pos h3]at HFC
  subst HFC
  clear hfin0 base
  rw[if_neg (by decide),if_neg (by decide)]
  by_cases h4:(hdOf l).N 0<272
  ·have d4:decide ((hdOf l).N 0<272)=true:=by simp;omega
   clear h3
   go_wp2_with(first
    |((with_reducible apply at_slot 93);refine wpList_build_zero rfl 126 rfl _ rzero_built ?_)
    |((with_reducible apply at_store (.tmp 2) (.tmp 93));refine wpList_store_row rfl 126 (.tmp 2) (.tmp 93) rfl w.heap.size (hd0.cells 20).toArray rfl rfl 126 Tryz.zeroCells126 Z4.out (rcells_info _) rzeros_size (HD.one _ 20) ?_)
    |fail)
   refine bodyPost_ret (v:= .tuple #[.agg (hd0.cells 20).toArray,.int .u64 0,.int .i64 5]) (by exact res_row3 Tryz.results69 _ _ w.heap.size 126 _ (0,0) _ _ _ rfl rfl rfl (setRow_heap _ _ _ _ _ (0,0) Z4.out) Tryz.underlying126 rfl (rcells_info _)) rfl ?_
   exact⟨rfl,below_setRow Bz.out (Nat.le_refl _) _⟩
  have d4:decide ((hdOf l).N 0<272)=false:=by simp;omega
  by_cases h5:(hdOf l).N 0%8=0
  ·have h6: ¬(hdOf l).N 1%8=0:=by omega
   clear h3
   go_wp2_with(first
    |((with_reducible apply at_slot 93);refine wpList_build_zero rfl 126 rfl _ rzero_built ?_)
    |((with_reducible apply at_store (.tmp 2) (.tmp 93));refine wpList_store_row rfl 126 (.tmp 2) (.tmp 93) rfl w.heap.size (hd0.cells 20).toArray rfl rfl 126 Tryz.zeroCells126 Z4.out (rcells_info _) rzeros_size (HD.one _ 20) ?_)
    |fail)
   refine bodyPost_ret (v:= .tuple #[.agg (hd0.cells 20).toArray,.int .u64 0,.int .i64 5]) (by exact res_row3 Tryz.results69 _ _ w.heap.size 126 _ (0,0) _ _ _ rfl rfl rfl (setRow_heap _ _ _ _ _ (0,0) Z4.out) Tryz.underlying126 rfl (rcells_info _)) rfl ?_
   exact⟨rfl,below_setRow Bz.out (Nat.le_refl _) _⟩
  ·clear h3
   go_wp2_with(first
    |((with_reducible apply at_slot 93);refine wpList_build_zero rfl 126 rfl _ rzero_built ?_)
    |((with_reducible apply at_store (.tmp 2) (.tmp 93));refine wpList_store_row rfl 126 (.tmp 2) (.tmp 93) rfl w.heap.size (hd0.cells 20).toArray rfl rfl 126 Tryz.zeroCells126 Z4.out (rcells_info _) rzeros_size (HD.one _ 20) ?_)
    |fail)
   refine bodyPost_ret (v:= .tuple #[.agg (hd0.cells 20).toArray,.int .u64 0,.int .i64 5]) (by exact res_row3 Tryz.results69 _ _ w.heap.size 126 _ (0,0) _ _ _ rfl rfl rfl (setRow_heap _ _ _ _ _ (0,0) Z4.out) Tryz.underlying126 rfl (rcells_info _)) rfl ?_
   exact⟨rfl,below_setRow Bz.out (Nat.le_refl _) _⟩
 rw[if_neg h3]at HFC
 have d4:decide ((hdOf l).N 0<272)=false:=by simp;omega
 have h5:(hdOf l).N 0%8=0:=by omega
 have h6:(hdOf l).N 1%8=0:=by omega
 clear h3
 by_cases h7:endB (hdOf l)=false∨(n:Int)<endV (hdOf l)
 ·rw[if_pos h7]at HFC
  subst HFC
  clear hfin0 base
  rw[if_neg (by decide),if_neg (by decide)]
  cases hE:endB (hdOf l)with
  |false=>
   clear h7
   go_wp2_with(first
    |((with_reducible apply at_slot 93);refine wpList_build_zero rfl 126 rfl _ rzero_built ?_)
    |((with_reducible apply at_store (.tmp 2) (.tmp 93));refine wpList_store_row rfl 126 (.tmp 2) (.tmp 93) rfl w.heap.size (hd0.cells 20).toArray rfl rfl 126 Tryz.zeroCells126 Z4.out (rcells_info _) rzeros_size (HD.one _ 20) ?_)
    |fail)
   refine bodyPost_ret (v:= .tuple #[.agg (hd0.cells 20).toArray,.int .u64 0,.int .i64 2]) (by exact res_row3 Tryz.results69 _ _ w.heap.size 126 _ (0,0) _ _ _ rfl rfl rfl (setRow_heap _ _ _ _ _ (0,0) Z4.out) Tryz.underlying126 rfl (rcells_info _)) rfl ?_
   exact⟨rfl,below_setRow Bz.out (Nat.le_refl _) _⟩
  |true=>
   have h8:(n:Int)<endV (hdOf l):=by rcases h7 with h7|h7;rw[hE]at h7;cases h7;exact h7
   clear h7 HVe
   generalize endV (hdOf l)=V at*
   have hVb:=HVb.out
   have d8:decide ((n:Int)<V)=true:=by simp;omega
   go_wp2_with(first
    |((with_reducible apply at_slot 93);refine wpList_build_zero rfl 126 rfl _ rzero_built ?_)
    |((with_reducible apply at_store (.tmp 2) (.tmp 93));refine wpList_store_row rfl 126 (.tmp 2) (.tmp 93) rfl w.heap.size (hd0.cells 20).toArray rfl rfl 126 Tryz.zeroCells126 Z4.out (rcells_info _) rzeros_size (HD.one _ 20) ?_)
    |fail)
   refine bodyPost_ret (v:= .tuple #[.agg (hd0.cells 20).toArray,.int .u64 0,.int .i64 2]) (by exact res_row3 Tryz.results69 _ _ w.heap.size 126 _ (0,0) _ _ _ rfl rfl rfl (setRow_heap _ _ _ _ _ (0,0) Z4.out) Tryz.underlying126 rfl (rcells_info _)) rfl ?_
   exact⟨rfl,below_setRow Bz.out (Nat.le_refl _) _⟩
 rw[if_neg h7]at HFC
 have hE:endB (hdOf l)=true:=by
  cases hE:endB (hdOf l)with
  |true=>rfl
  |false=>exact absurd (Or.inl hE) h7
 have h8: ¬(n:Int)<endV (hdOf l):=fun h=>h7 (Or.inr h)
 clear h7 HVe
 generalize endV (hdOf l)=V at*
 have hVb:=HVb.out
 have d8:decide ((n:Int)<V)=false:=by simp;omega
 generalize tcode ((hdOf l).N 2) ((hdOf l).N 3) ((hdOf l).N 0) V=t1 at*
 generalize tcode ((hdOf l).N 4) ((hdOf l).N 5) ((hdOf l).N 0) V=t2 at*
 have tarms:=True.intro
 by_cases ht:t1=0
 ·rw[if_neg (by simpa using ht)]at HFC
  subst HFC ht
  clear hfin0 base
  by_cases hz:FC=0
  ·rw[if_pos hz,if_pos hz]
   subst hz
   go_wp2_with(first
    |(go_at_call 126;((with_reducible refine HT1.out.mono ?_);rintro e w' ⟨rfl,rfl⟩))
    |(go_at_call 126;((with_reducible refine HT2.out.mono ?_);rintro e w' ⟨rfl,rfl⟩))
    |((with_reducible apply at_slot 95);refine wpList_load_row rfl 126 (.tmp 5) rfl w2.heap.size rfl 126 ((hdOf l).cells 20).toArray (0,0) _ R4.out Tryz.underlying126 rfl (rcells_info _) ?_)
    |((with_reducible apply at_store (.tmp 2) (.tmp 95));refine wpList_store_row rfl 126 (.tmp 2) (.tmp 95) rfl w.heap.size ((hdOf l).cells 20).toArray rfl rfl 126 Tryz.zeroCells126 Z4.out (rcells_info _) rzeros_size (HD.one _ 20) ?_)
    |fail)
   refine bodyPost_ret (v:= .tuple #[.agg ((hdOf l).cells 20).toArray,.int .u64 dp,.int .i64 0]) (by exact res_row3 Tryz.results69 _ _ w.heap.size 126 _ (0,0) _ _ _ rfl rfl rfl (setRow_heap _ _ _ _ _ (0,0) Z4.out) Tryz.underlying126 rfl (rcells_info _)) rfl ?_
   exact⟨rfl,below_setRow Bz.out (Nat.le_refl _) _⟩
  ·rw[if_neg hz,if_neg hz]
   have dz:(FC !=0)=true:=by simp[hz]
   go_wp2_with(first
    |(go_at_call 126;((with_reducible refine HT1.out.mono ?_);rintro e w' ⟨rfl,rfl⟩))
    |(go_at_call 126;((with_reducible refine HT2.out.mono ?_);rintro e w' ⟨rfl,rfl⟩))
    |((with_reducible apply at_slot 93);refine wpList_build_zero rfl 126 rfl _ rzero_built ?_)
    |((with_reducible apply at_store (.tmp 2) (.tmp 93));refine wpList_store_row rfl 126 (.tmp 2) (.tmp 93) rfl w.heap.size (hd0.cells 20).toArray rfl rfl 126 Tryz.zeroCells126 Z4.out (rcells_info _) rzeros_size (HD.one _ 20) ?_)
    |fail)
   refine bodyPost_ret (v:= .tuple #[.agg (hd0.cells 20).toArray,.int .u64 0,.int .i64 FC]) (by exact res_row3 Tryz.results69 _ _ w.heap.size 126 _ (0,0) _ _ _ rfl rfl rfl (setRow_heap _ _ _ _ _ (0,0) Z4.out) Tryz.underlying126 rfl (rcells_info _)) rfl ?_
   exact⟨rfl,below_setRow Bz.out (Nat.le_refl _) _⟩
 ·rw[if_pos ht]at HFC
  subst HFC
  clear hfin0 base
  rw[if_neg ht,if_neg ht]
  have dz:(FC !=0)=true:=by simp[ht]
  have dz2:(FC==0)=false:=by simp[ht]
  go_wp2_with(first
   |(go_at_call 126;((with_reducible refine HT1.out.mono ?_);rintro e w' ⟨rfl,rfl⟩))
   |((with_reducible apply at_slot 93);refine wpList_build_zero rfl 126 rfl _ rzero_built ?_)
   |((with_reducible apply at_store (.tmp 2) (.tmp 93));refine wpList_store_row rfl 126 (.tmp 2) (.tmp 93) rfl w.heap.size (hd0.cells 20).toArray rfl rfl 126 Tryz.zeroCells126 Z4.out (rcells_info _) rzeros_size (HD.one _ 20) ?_)
   |fail)
  refine bodyPost_ret (v:= .tuple #[.agg (hd0.cells 20).toArray,.int .u64 0,.int .i64 FC]) (by exact res_row3 Tryz.results69 _ _ w.heap.size 126 _ (0,0) _ _ _ rfl rfl rfl (setRow_heap _ _ _ _ _ (0,0) Z4.out) Tryz.underlying126 rfl (rcells_info _)) rfl ?_
  exact⟨rfl,below_setRow Bz.out (Nat.le_refl _) _⟩
theorem rreadHead_any (A:Option Addr)(l:List Int)(n c:Nat)(w:World)(hb:Bytes w A l)(hL:l.length=n)(hn:n≤1000000)(hc:n≤c):
 Calls Tryz.prog 69 #[.slice A n c] w (RTold (if hcode l n=0 then hdOf l else hd0) (if hcode l n=0 then Ob.u8 l 248 else 0) (hcode l n) w):=by
 by_cases h1:n<272
 ·rw[show hcode l n=22 from if_pos h1,if_neg (by decide),if_neg (by decide)]
  exact rread_short A n c w h1
 by_cases h2:magicB l=false
 ·rw[show hcode l n=6 by unfold hcode;rw[if_neg h1,if_pos h2],if_neg (by decide),if_neg (by decide)]
  exact rread_magic A l n c w hb hL (by omega) hc h2
 ·have h2':magicB l=true:=by simpa using h2
  rw[show hcode l n=fcode (hdOf l) n by unfold hcode;rw[if_neg h1,if_neg h2]]
  exact rread_taken A l n c w hb hL (by omega) hn hc h2'
end Gt
namespace Yd
open Bytes8 Blk8 Own8 OwnE Ob Kf Yc
abbrev entV (s r m:Int)(K:Nat→Int)(x:Int)(A:Option Addr)(n c:Nat):Value:= .agg #[.int .u64 s,.int .u64 r,.int .u64 m,.int .u8 (K 0),.int .u8 (K 1),.int .u8 (K 2),.int .u8 (K 3),.int .u8 (K 4),.int .u8 (K 5),.int .u8 (K 6),.int .u8 (K 7),.int .u8 (K 8),.int .u8 (K 9),.int .u8 (K 10),.int .u8 (K 11),.int .u8 (K 12),.int .u8 (K 13),.int .u8 (K 14),.int .u8 (K 15),.int .u64 x,.slice A n c]
abbrev entC (T:TypeId)(s r m:Int)(K:Nat→Int)(x:Int)(A:Option Addr)(n c:Nat):Obj:= .cells #[.int .u64 s,.int .u64 r,.int .u64 m,.int .u8 (K 0),.int .u8 (K 1),.int .u8 (K 2),.int .u8 (K 3),.int .u8 (K 4),.int .u8 (K 5),.int .u8 (K 6),.int .u8 (K 7),.int .u8 (K 8),.int .u8 (K 9),.int .u8 (K 10),.int .u8 (K 11),.int .u8 (K 12),.int .u8 (K 13),.int .u8 (K 14),.int .u8 (K 15),.int .u64 x,.slice A n c] T
def entL (s r m:Int)(K:Nat→Int)(x:Int)(A:Option Addr)(n c:Nat):List Value:=[.int .u64 s,.int .u64 r,.int .u64 m,.int .u8 (K 0),.int .u8 (K 1),.int .u8 (K 2),.int .u8 (K 3),.int .u8 (K 4),.int .u8 (K 5),.int .u8 (K 6),.int .u8 (K 7),.int .u8 (K 8),.int .u8 (K 9),.int .u8 (K 10),.int .u8 (K 11),.int .u8 (K 12),.int .u8 (K 13),.int .u8 (K 14),.int .u8 (K 15),.int .u64 x,.slice A n c]
theorem ent_id {w:World}{g:Nat}{T:TypeId}{s r m x:Int}{K:Nat→Int}{A:Option Addr}{n c:Nat}(h:Blk w g (entL s r m K x A n c) T)(hK:IdOk K):Bytes w (some ⟨g,3,none⟩) (idL K):=by
 refine⟨idL_all hK,fun i hi=>⟨g,3,rfl,h.lt,?_⟩⟩
 have h16:i<16:=hi
 refine h.cell ?_
 unfold entL idL
 rcases i with _|_|_|_|_|_|_|_|_|_|_|_|_|_|_|_|i
 all_goals first|rfl|omega
def entB (s r m:Int)(K:Nat→Int)(x:Int)(ps:List Int):List Int:=nums [s,r,m]++idL K++nums [x]++nums ps
theorem entB_len (s r m:Int)(K:Nat→Int)(x:Int)(f g:Nat→Int)(k:Nat):(entB s r m K x (prs f g k)).length=48+16*k:=by
 unfold entB
 rw[List.length_append,List.length_append,List.length_append,nums_prs_len,nums_len,nums_len]
 rfl
abbrev arrV (x:Int)(A:Option Addr)(n c:Nat):Value:= .agg #[.int .u64 x,.slice A n c]
abbrev arrC (T:TypeId)(x:Int)(A:Option Addr)(n c:Nat):Obj:= .cells #[.int .u64 x,.slice A n c] T
def arrB (x:Int)(l:List Int):List Int:=nums [x]++nums l
abbrev InsideA (b:Nat)(W:World)(x:Int)(A:Option Addr)(n c:Nat):Prop:=W.cell? ⟨b,0,none⟩=some (.int .u64 x)∧W.cell? ⟨b,1,none⟩=some (.slice A n c)
end Yd
end Go.Proofs.YtjecmgkmcfkcjaaGreat
