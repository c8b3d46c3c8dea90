/-
  Texts beneath the proof.
-/
import Derived.Test.YtjecmgkmcfkcjaaGreatQc8
set_option linter.unusedVariables false
set_option linter.unusedSimpArgs false
set_option maxRecDepth 100000
set_option maxHeartbeats 4000000
open Go.ChangeShapes Go.WideShapes Go.ChangeAt Go.RowKit
namespace Go.Proofs.YtjecmgkmcfkcjaaGreat
namespace Ge
open Bytes8 Blk8 Own8 LeNum RefB Ob Od Oe Ga Gb Ff Rows2
open Gn (ints rnums_in)
theorem wpList_append_full {w:World}{ops:Array Oper}{rest:List Oper}{o:Oper}{a:Act}{Q:Exit→Act→World→Prop}(hgd:o.guard=none)(s x:Operand)
 (hop:o.op= .call {callee:= .builtin .append,args:= #[s,x],argTypes:= #[23,23]})
 (base:Nat)(hbase:base≤w.heap.size)(b n:Nat)(l:List Int)(hs:a.eval s= .slice (some ⟨b,0,none⟩) n n)(h0:Bytes w (some ⟨b,0,none⟩) l)(hl:l.length=n)(A2:Option Addr)(m c2:Nat)(ys:List Int)(hx:a.eval x= .slice A2 m c2)(hb:Bytes w A2 ys)(hm:ys.length=m)(hm0:0<m)(hsz:n+m≤70368744177664)
 (h: ∀A' c' w',Own w' base A' (n+m) c' (l++ys)→Below base w w'→wpList Tryz.prog ops Q rest (a.put o.dst (.slice A' (n+m) c')) w'):wpList Tryz.prog ops Q (o::rest) a w:=by
 obtain⟨i,hi,hzz⟩:=Option.map_eq_some_iff.1 info8
 simp only[Prod.mk.injEq]at hzz
 obtain⟨hz,hs1,hby⟩:=hzz
 obtain⟨ad,rfl,hsrc⟩:=hb.source w (Below.refl _ _) (by omega)
 have hold: ∀j u,(l.map (Value.int .u8))[j]? =some u→w.cell? ((⟨b,0,none⟩:Addr).add j)=some u:=fun j u hu=>by
  rw[List.getElem?_map]at hu
  obtain⟨y,hy,rfl⟩:=Option.map_eq_some_iff.1 hu
  obtain⟨ad2,e2,h2⟩:=h0.source w (Below.refl _ _) (by have:=(List.getElem?_eq_some_iff.1 hy).1;omega)
  injection e2 with e2
  rw[e2]
  exact h2 j y hy
 have hr:=run_append_grow (P:=Tryz.prog) w 23 o.type 5 i (.int .u8 0) Tryz.underlying23 hi hz ⟨b,0,none⟩ n n (l.map (Value.int .u8)) (by simp[hl,hs1]) hold ad m c2 (ys.map (Value.int .u8)) (by simp[hm,hs1])
  (fun j u hu=>by
    rw[List.getElem?_map]at hu
    obtain⟨y,hy,rfl⟩:=Option.map_eq_some_iff.1 hu
    exact hsrc j y hy) (by omega) (by omega) (growslice_fits (by omega) (by rw[hby];omega))
 have hge:=grownCap_ge w (n+m) n 5
 have hcm:grownCap w (n+m) n 5≤maxLen:=grownCap_le_maxLen w (n+m) n 5 (by unfold maxLen;omega)
 refine wpList_plain hgd fun K hK=>?_
 unfold Oper.wp execOp
 simp only[hop,resolve,invoke,builtin,Sem.run_bind,Sem.run_pure,Result.andThen_ok,List.map_toArray,List.map_cons,List.map_nil,hs,hx,hr]
 refine hK _ _ (h _ _ _ ⟨h0.1.app hb.1,by rw[List.length_append,hl,hm],by simp;omega,by simp[hl,hm],.inr ⟨w.heap.size,_,_,rfl,hbase,heap_alloc_new w.drew _,hge,hcm,?_,?_⟩⟩ (((Below.refl base w).drew).alloc hbase _))
 ·simp only[Array.size_append,List.size_toArray,List.length_map,size_zeroCells,Value.cells,hl,hm]
  simp
  omega
 ·simp only[Array.toList_append,List.map_append]
  rw[List.take_append_of_le_length (by simp[hl,hm]),List.take_of_length_le (by simp[hl,hm])]
theorem low_byte (v:Int)(h0:0≤v)(h1:v<256):lowB v 8=[v,0,0,0,0,0,0,0]:=by
 have e: ∀k:Nat,1≤k→v/256^k%256=0:=fun k hk=>by
  have:(256:Int)^k=256*256^(k-1):=by rw[←Int.pow_succ',show k-1+1=k by omega]
  have h2:v<256^k:=by
   have h3:(0:Int)<256^(k-1):=Int.pow_pos (by decide)
   rw[this];omega
  rw[Int.ediv_eq_zero_of_lt h0 h2];rfl
 have e0:v/256^0%256=v:=by simp;omega
 simp only[lowB,show List.range 8=[0,1,2,3,4,5,6,7]from rfl,List.map_cons,List.map_nil,e0,e 1 (by decide),e 2 (by decide),e 3 (by decide),e 4 (by decide),e 5 (by decide),e 6 (by decide),e 7 (by decide)]
attribute [local irreducible] HD.cells wpList Code.wp
theorem rbytes_any (h:HD)(ok:h.Ok 20)(d:Int)(hd:0≤d∧d≤18446744073709551615)(w:World):
 Calls Tryz.prog 85 #[.agg (h.cells 20).toArray,.int .u64 d] w (Owned ((HD.plus h d).bytes 21) 272 w):=by
 have b0:=Lib.hid ((Below.refl w.heap.size w).alloc (Nat.le_refl _) (.cells (h.cells 20).toArray 126))
 have R0:=Lib.hid (show Blk (w.alloc (.cells (h.cells 20).toArray 126)) w.heap.size (h.cells 20) 126 from Blk.new w _ _)
 have S0:=Lib.hid (show(w.alloc (.cells (h.cells 20).toArray 126)).heap.size=w.heap.size+1 by simp)
 go_enter Tryz.func85,Tryz.ntmps85
 go_upto_region 1 with fail
 generalize w.alloc (.cells (h.cells 20).toArray 126)=w0 at*
 have kc:=fun(w:World) (C:Array Value) (n c:Nat)=>Lib.run_convert_bytes_const (P:=Tryz.prog) w 23 5 C n c Tryz.underlying23 Tryz.underlying5
 have M1:=Lib.hid (show Bytes (w0.alloc (.cells #[.int .u8 76,.int .u8 80,.int .u8 75,.int .u8 83,.int .u8 72,.int .u8 72,.int .u8 82,.int .u8 72] 5 (8,9))) (some ⟨w0.heap.size,0,none⟩) magicL from const_bytes magicL magic_all w0 (8,9))
 have a1:=Lib.hid ((Below.refl w0.heap.size w0).alloc (Nat.le_refl _) (.cells #[.int .u8 76,.int .u8 80,.int .u8 75,.int .u8 83,.int .u8 72,.int .u8 72,.int .u8 82,.int .u8 72] 5 (8,9)))
 have R1:=Lib.hid (R0.out.below a1.out R0.out.lt)
 have HL:=Lib.hid R0.out.lt
 have L4:=Lib.hid fun(v:Int) (h0:0≤v) (h1:v≤4294967295) (W:World)=>rlow_at v 4 4 W h0 (by omega) (by decide) rfl
 have c0:(w0.alloc (.cells #[.int .u8 76,.int .u8 80,.int .u8 75,.int .u8 83,.int .u8 72,.int .u8 72,.int .u8 82,.int .u8 72] 5 (8,9))).cell? ⟨w.heap.size,0,none⟩=some (.int .u32 h.cp):=R1.out.cell (h.get 20 0 (by decide))
 have hcp:=ok.cp
 have D1:=Lib.hid (show magicL.length=8 from rfl)
 have E4:=Lib.hid fun(v:Int)=>lowB_len v 4
 go_upto_region 2 with(first
  |(go_at_call 143;((with_reducible refine(L4.out _ hcp.1 hcp.2 _).mono ?_);rintro e w2 ⟨A2,c2,rfl,ho2,hb2⟩;have O2:=Lib.hid ho2;have B2:=Lib.hid hb2;clear ho2 hb2))
  |((with_reducible apply at_slot 12);refine wpList_append_full rfl (.tmp 7) (.tmp 11) rfl w0.heap.size (Nat.le_trans a1.out.size B2.out.size) w0.heap.size 8 magicL rfl (M1.out.below B2.out (Nat.le_refl _)) D1.out A2 4 c2 _ rfl O2.out.bytes (E4.out _) (by decide) (by decide) ?_;intro A3 c3 w3 ho3 hb3;have O3:=Lib.hid ho3;have B3:=Lib.hid (a1.out.trans ((B2.out.mono a1.out.size).trans hb3));clear ho3 hb3))
 have R3:=Lib.hid (R0.out.below B3.out HL.out)
 have c1:w3.cell? ⟨w.heap.size,1,none⟩=some (.int .u32 h.ic):=R3.out.cell (h.get 20 1 (by decide))
 have hic:=ok.ic
 clear c0 kc M1 a1 R1 O2 B2 D1
 go_upto_region 3 with(first
  |(go_at_call 143;((with_reducible refine(L4.out _ hic.1 hic.2 _).mono ?_);rintro e w4 ⟨A4,c4,rfl,ho4,hb4⟩;have O4:=Lib.hid ho4;have B4:=Lib.hid hb4;clear ho4 hb4))
  |((with_reducible apply at_slot 18);refine wpList_append_bytes rfl (.tmp 13) (.tmp 17) rfl w0.heap.size A3 12 c3 _ rfl (O3.out.kept B4.out (Nat.le_refl _)) A4 4 c4 _ rfl O4.out.bytes (E4.out _) (by decide) ?_;intro A5 c5 w5 ho5 hb5;have O5:=Lib.hid ho5;have B5:=Lib.hid ((B3.out.trans (B4.out.mono B3.out.size)).trans hb5);clear ho5 hb5))
 have R5:=Lib.hid (R0.out.below B5.out HL.out)
 have c2':w5.cell? ⟨w.heap.size,2,none⟩=some (.int .i64 h.st):=R5.out.cell (h.get 20 2 (by decide))
 have hst:IntKind.u8.wrap h.st=h.st%256:=by simp[IntKind.wrap,IntKind.signed,IntKind.bits]
 have hm0:0≤h.st%256∧h.st%256<256:=by omega
 have Hl8:=Lib.hid (show lowB (h.st%256) 8=[h.st%256,0,0,0,0,0,0,0]from low_byte _ hm0.1 hm0.2)
 have HF8:=Lib.hid (show h.front=magicL++lowB h.cp 4++lowB h.ic 4++lowB (h.st%256) 8 from rfl)
 generalize h.st%256=st8 at*
 have HA8:=Lib.hid (show AllB [st8,0,0,0,0,0,0,0]by rw[←Hl8.out];exact lowB_all _ _)
 have HB8:=Lib.hid (show Bytes (w5.alloc (.cells #[.int .u8 st8,.int .u8 0,.int .u8 0,.int .u8 0,.int .u8 0,.int .u8 0,.int .u8 0,.int .u8 0] 5)) (some ⟨w5.heap.size,0,none⟩) [st8,0,0,0,0,0,0,0]from(Row.new w5 [st8,0,0,0,0,0,0,0]).bytes HA8.out)
 clear c1 O3 O4 B4 R3
 go_upto_region 4 with((with_reducible apply at_slot 24);refine wpList_append_bytes rfl (.tmp 19) (.tmp 23) rfl w0.heap.size A5 16 c5 _ rfl (O5.out.alloc _) (some ⟨w5.heap.size,0,none⟩) 8 8 _ rfl HB8.out rfl (by decide) ?_;intro A6 c6 w6 ho6 hb6;have O6:=Lib.hid ho6;have B6:=Lib.hid ((B5.out.alloc B5.out.size _).trans hb6);clear ho6 hb6)
 rw[←Hl8.out]at O6
 clear c2' hst hm0 O5 B5 R5 HA8 HB8 Hl8
 go_region_held3 (fun W=>True) (first|(with_reducible exact trivial)) (first
  |(refine step_append_bytes (o:=⟨some 28,_,_,_,_,_⟩) rfl (.tmp 25) (.tmp 27) rfl w0.heap.size A6 24 c6 _ rfl O6.out.drew (some ⟨w.heap.size,3,none⟩) 16 16 (h.id 0) rfl (HD.id_at (R0.out.below B6.out HL.out) ok 0 (by decide)).drew (h.id_len 0) (by decide) ?_;intro A7 c7 w7 ho7 hb7;have O7:=Lib.hid ho7;have B7:=Lib.hid (B6.out.drew.trans hb7);clear ho7 hb7)
  |(refine step_append_bytes (o:=⟨some 31,_,_,_,_,_⟩) rfl (.tmp 28) (.tmp 30) rfl w0.heap.size A7 40 c7 _ rfl O7.out (some ⟨w.heap.size,19,none⟩) 16 16 (h.id 1) rfl (HD.id_at (R0.out.below B7.out HL.out) ok 1 (by decide)) (h.id_len 1) (by decide) ?_;intro A8 c8 w8 ho8 hb8;have O8:=Lib.hid ho8;have B8:=Lib.hid (B7.out.trans hb8);clear ho8 hb8)
  |(refine step_append_bytes (o:=⟨some 34,_,_,_,_,_⟩) rfl (.tmp 31) (.tmp 33) rfl w0.heap.size A8 56 c8 _ rfl O8.out (some ⟨w.heap.size,35,none⟩) 16 16 (h.id 2) rfl (HD.id_at (R0.out.below B8.out HL.out) ok 2 (by decide)) (h.id_len 2) (by decide) ?_;intro A9 c9 w9 ho9 hb9;have O9:=Lib.hid ho9;have B9:=Lib.hid (B8.out.trans hb9);clear ho9 hb9)
  |(refine step_append_bytes (o:=⟨some 37,_,_,_,_,_⟩) rfl (.tmp 34) (.tmp 36) rfl w0.heap.size A9 72 c9 _ rfl O9.out (some ⟨w.heap.size,51,none⟩) 16 16 (h.id 3) rfl (HD.id_at (R0.out.below B9.out HL.out) ok 3 (by decide)) (h.id_len 3) (by decide) ?_;intro A10 c10 w10 ho10 hb10;have O10:=Lib.hid ho10;have B10:=Lib.hid (B9.out.trans hb10);clear ho10 hb10))
 have HI4:=Lib.hid (show h.ids 4=h.id 0++h.id 1++h.id 2++h.id 3 by rw[show(4:Nat)=3+1 from rfl,h.ids_succ,show(3:Nat)=2+1 from rfl,h.ids_succ,show(2:Nat)=1+1 from rfl,h.ids_succ,show(1:Nat)=0+1 from rfl,h.ids_succ];rfl)
 have OA:=Lib.hid (show Own w10 w0.heap.size A10 88 c10 (h.front++h.ids 4)by rw[HF8.out,HI4.out];simpa only[List.append_assoc]using O10.out)
 have R10:=Lib.hid (R0.out.below B10.out HL.out)
 have HNi:=Lib.hid (show InInts .u64 w10 (some ⟨w.heap.size,67,none⟩) 20 h.N from fun i hi=>⟨w.heap.size,67,rfl,R10.out.lt,HD.nums_at R10.out i hi,by have:=ok.N i;simp[Lit.wf,IntKind.min,IntKind.max,IntKind.signed,IntKind.bits];omega⟩)
 have HN1:=Lib.hid (rnums_in (some ⟨w.heap.size,67,none⟩) 20 20 h.N w10 HNi.out (by decide))
 have HN2:=Lib.hid fun(W:World) (g:Nat) (hg:W.heap.size=g)=>rnums1 d W g hd hg
 have E160:=Lib.hid (show(Ob.nums (ints h.N 20)).length=160 by rw[nums_len,Gn.ints_len])
 have E8:=Lib.hid (lowB_len d 8)
 clear O6 O7 O8 O9 B6 B7 B8 B9 O10 hcp hic HI4 HF8
 go_upto_region 6 with(first
  |(go_at_call 144;((with_reducible refine HN1.out.mono ?_);rintro e w11 ⟨X1,x1,rfl,ho11,hb11⟩;have O11:=Lib.hid ho11;have B11:=Lib.hid hb11;clear ho11 hb11))
  |((with_reducible apply at_slot 42);refine wpList_append_bytes rfl (.tmp 38) (.tmp 41) rfl w0.heap.size A10 88 c10 _ rfl (OA.out.kept B11.out (Nat.le_refl _)) X1 160 x1 _ rfl O11.out.bytes E160.out (by decide) ?_;intro A12 c12 w12 ho12 hb12;have O12:=Lib.hid ho12;have B12:=Lib.hid ((B10.out.trans (B11.out.mono B10.out.size)).trans hb12);clear ho12 hb12)
  |(go_at_call 144;((with_reducible refine(HN2.out _ _ rfl).mono ?_);rintro e w13 ⟨X2,x2,rfl,ho13,hb13⟩;have O13:=Lib.hid ho13;have B13:=Lib.hid hb13;clear ho13 hb13))
  |((with_reducible apply at_slot 46);refine wpList_append_bytes rfl (.tmp 42) (.tmp 45) rfl w0.heap.size A12 248 c12 _ rfl (O12.out.kept B13.out (Nat.le_refl _)) X2 8 x2 _ rfl O13.out.bytes E8.out (by decide) ?_;intro A14 c14 w14 ho14 hb14;have O14:=Lib.hid ho14;have B14:=Lib.hid ((B12.out.trans (B13.out.mono B12.out.size)).trans hb14);clear ho14 hb14))
 have HNq:=Lib.hid (show Ob.nums (ints h.N 20)++lowB d 8=Ob.nums ((HD.plus h d).nums 21)by
  rw[←nums_snoc]
  congr 1)
 have OB:=Lib.hid (show Own w14 w0.heap.size A14 256 c14 (h.front++h.ids 4++Ob.nums ((HD.plus h d).nums 21))by rw[←HNq.out,←List.append_assoc];exact O14.out)
 clear O11 O12 O13 B11 B12 B13 O14 HN1 HN2 HNi E160 E8 OA B10 R10 HNq
 have HC:=Lib.hid fun(W:World) (hW:Below w0.heap.size w0 W)=>show W.cell? ⟨w.heap.size,87,none⟩=some (.int .u32 h.ta)∧W.cell? ⟨w.heap.size,88,none⟩=some (.int .u32 h.ti)from⟨(R0.out.below hW HL.out).cell (h.get_ta 20),(R0.out.below hW HL.out).cell (h.get_ti 20)⟩
 have hta:=ok.ta
 have hti:=ok.ti
 have LA:=Lib.hid fun(W:World)=>show Calls Tryz.prog 143 #[.int .u64 (IntKind.u64.wrap h.ta),.int .i64 4] W fun e w'=> ∃A c,e= .returned (.slice A 4 c)∧Own w' W.heap.size A 4 c (lowB h.ta 4)∧Below W.heap.size W w' by
  rw[show IntKind.u64.wrap h.ta=h.ta by rw[IntKind.wrap_u64];omega]
  exact L4.out h.ta hta.1 hta.2 W
 have LB:=Lib.hid fun(W:World)=>show Calls Tryz.prog 143 #[.int .u64 (IntKind.u64.wrap h.ti),.int .i64 4] W fun e w'=> ∃A c,e= .returned (.slice A 4 c)∧Own w' W.heap.size A 4 c (lowB h.ti 4)∧Below W.heap.size W w' by
  rw[show IntKind.u64.wrap h.ti=h.ti by rw[IntKind.wrap_u64];omega]
  exact L4.out h.ti hti.1 hti.2 W
 have EA:=Lib.hid (lowB_len h.ta 4)
 have EB:=Lib.hid (lowB_len h.ti 4)
 have q0:=HC.out _ B14.out.drew
 have S14:=Lib.hid (Nat.le_refl w14.heap.size)
 go_cut [5]from 47 to 58 (fun z wx=> ∃A1 c1,z= .slice A1 264 c1∧Hid (Own wx w0.heap.size A1 264 c1 (h.front++h.ids 4++Ob.nums ((HD.plus h d).nums 21)++lowB h.ta 4++lowB h.ti 4))∧Hid (Below w0.heap.size w0 wx))
 case first=>
  go_region_held3 (fun W=>W.cell? ⟨w.heap.size,87,none⟩=some (.int .u32 h.ta)∧W.cell? ⟨w.heap.size,88,none⟩=some (.int .u32 h.ti)) (first|(with_reducible exact q0)|(with_reducible exact qa)|(with_reducible exact qg)|(with_reducible exact qz)|(with_reducible exact qy)) (first
   |(go_simp;go_at_call 143;(with_reducible refine(LA.out w14.drew).mono ?_);rintro e wa ⟨Aa,ca,rfl,hoa,hba⟩;have Oa:=Lib.hid hoa;have Fa:=Lib.hid (B14.out.drew.trans (hba.mono B14.out.drew.size));have Pa:=Lib.hid (OB.out.drew.kept hba (Nat.le_refl _));have Sa:=Lib.hid hba.size;have qa:=HC.out _ Fa.out;clear hoa hba)
   |(refine step_append_bytes (o:=⟨some 52,_,_,_,_,_⟩) rfl (.tmp 47) (.tmp 51) rfl w0.heap.size A14 256 c14 _ rfl Pa.out Aa 4 ca _ rfl Oa.out.bytes EA.out (by decide) ?_;intro Ag cg wg hog hbg;have Og:=Lib.hid hog;have Fg:=Lib.hid (Fa.out.trans hbg);have qg:=HC.out _ Fg.out;clear hog hbg)
   |(go_simp;go_at_call 143;(with_reducible refine(LB.out wg).mono ?_);rintro e wh ⟨Ah,ch,rfl,hoh,hbh⟩;have Oh:=Lib.hid hoh;have Fh:=Lib.hid (Fg.out.trans (hbh.mono Fg.out.size));have Ph:=Lib.hid (Og.out.kept hbh (Nat.le_refl _));have qz:=HC.out _ Fh.out;clear hoh hbh)
   |(refine step_append_bytes (o:=⟨some 57,_,_,_,_,_⟩) rfl (.tmp 52) (.tmp 56) rfl w0.heap.size Ag 260 cg _ rfl Ph.out Ah 4 ch _ rfl Oh.out.bytes EB.out (by decide) ?_;intro Az cz wz hoz hbz;have Oz:=Lib.hid hoz;have Fz:=Lib.hid (Fh.out.trans hbz);have qy:=HC.out _ Fz.out;clear hoz hbz))
  all_goals
   go_wp2_with fail
   go_meet
   case rel=>exact⟨Az,cz,rfl,Oz,Fz⟩
 case rest=>
  obtain⟨A1,c1,rfl,ho1,hb1⟩:=hcut
  have Rz:=Lib.hid (R0.out.below hb1.out HL.out)
  have cz:wc.cell? ⟨w.heap.size,89,none⟩=some (.int .u64 h.te):=Rz.out.cell (h.get_te 20)
  have HN3:=Lib.hid fun(W:World) (g:Nat) (hg:W.heap.size=g)=>rnums1 h.te W g ok.te hg
  have E8:=Lib.hid (lowB_len h.te 8)
  have E:=Lib.hid (show(HD.plus h d).bytes 21=h.front++h.ids 4++Ob.nums ((HD.plus h d).nums 21)++lowB h.ta 4++lowB h.ti 4++lowB h.te 8 from rfl)
  clear q0 LA LB HC L4
  go_wp2_with(first
   |(go_at_call 144;((with_reducible refine(HN3.out _ _ rfl).mono ?_);rintro e w15 ⟨X3,x3,rfl,ho15,hb15⟩;have O15:=Lib.hid ho15;have B15:=Lib.hid hb15;clear ho15 hb15))
   |((with_reducible apply at_slot 63);refine wpList_append_bytes rfl (.tmp 58) (.tmp 62) rfl w0.heap.size A1 264 c1 _ rfl (ho1.out.kept B15.out (Nat.le_refl _)) X3 8 x3 _ rfl O15.out.bytes E8.out (by decide) ?_;intro A16 c16 w16 ho16 hb16;have O16:=Lib.hid ho16;have B16:=Lib.hid ((hb1.out.trans (B15.out.mono hb1.out.size)).trans hb16);clear ho16 hb16))
  go_ret
  exact⟨A16,c16,rfl,by rw[E.out];exact Od.Own.base (b2:=w.heap.size) O16.out (Nat.le_of_lt HL.out),b0.out.trans (B16.out.mono (Nat.le_of_lt HL.out))⟩
end Ge
namespace Yd
open Bytes8 Blk8 Own8 OwnE Ob Kf Yc
abbrev entV (s r m:Int)(K:Nat→Int)(x:Int)(A:Option Addr)(n c:Nat):Value:= .agg #[.int .u64 s,.int .u64 r,.int .u64 m,.int .u8 (K 0),.int .u8 (K 1),.int .u8 (K 2),.int .u8 (K 3),.int .u8 (K 4),.int .u8 (K 5),.int .u8 (K 6),.int .u8 (K 7),.int .u8 (K 8),.int .u8 (K 9),.int .u8 (K 10),.int .u8 (K 11),.int .u8 (K 12),.int .u8 (K 13),.int .u8 (K 14),.int .u8 (K 15),.int .u64 x,.slice A n c]
abbrev entC (T:TypeId)(s r m:Int)(K:Nat→Int)(x:Int)(A:Option Addr)(n c:Nat):Obj:= .cells #[.int .u64 s,.int .u64 r,.int .u64 m,.int .u8 (K 0),.int .u8 (K 1),.int .u8 (K 2),.int .u8 (K 3),.int .u8 (K 4),.int .u8 (K 5),.int .u8 (K 6),.int .u8 (K 7),.int .u8 (K 8),.int .u8 (K 9),.int .u8 (K 10),.int .u8 (K 11),.int .u8 (K 12),.int .u8 (K 13),.int .u8 (K 14),.int .u8 (K 15),.int .u64 x,.slice A n c] T
def entL (s r m:Int)(K:Nat→Int)(x:Int)(A:Option Addr)(n c:Nat):List Value:=[.int .u64 s,.int .u64 r,.int .u64 m,.int .u8 (K 0),.int .u8 (K 1),.int .u8 (K 2),.int .u8 (K 3),.int .u8 (K 4),.int .u8 (K 5),.int .u8 (K 6),.int .u8 (K 7),.int .u8 (K 8),.int .u8 (K 9),.int .u8 (K 10),.int .u8 (K 11),.int .u8 (K 12),.int .u8 (K 13),.int .u8 (K 14),.int .u8 (K 15),.int .u64 x,.slice A n c]
theorem ent_id {w:World}{g:Nat}{T:TypeId}{s r m x:Int}{K:Nat→Int}{A:Option Addr}{n c:Nat}(h:Blk w g (entL s r m K x A n c) T)(hK:IdOk K):Bytes w (some ⟨g,3,none⟩) (idL K):=by
 refine⟨idL_all hK,fun i hi=>⟨g,3,rfl,h.lt,?_⟩⟩
 have h16:i<16:=hi
 refine h.cell ?_
 unfold entL idL
 rcases i with _|_|_|_|_|_|_|_|_|_|_|_|_|_|_|_|i
 all_goals first|rfl|omega
def entB (s r m:Int)(K:Nat→Int)(x:Int)(ps:List Int):List Int:=nums [s,r,m]++idL K++nums [x]++nums ps
theorem entB_len (s r m:Int)(K:Nat→Int)(x:Int)(f g:Nat→Int)(k:Nat):(entB s r m K x (prs f g k)).length=48+16*k:=by
 unfold entB
 rw[List.length_append,List.length_append,List.length_append,nums_prs_len,nums_len,nums_len]
 rfl
abbrev arrV (x:Int)(A:Option Addr)(n c:Nat):Value:= .agg #[.int .u64 x,.slice A n c]
abbrev arrC (T:TypeId)(x:Int)(A:Option Addr)(n c:Nat):Obj:= .cells #[.int .u64 x,.slice A n c] T
def arrB (x:Int)(l:List Int):List Int:=nums [x]++nums l
abbrev InsideA (b:Nat)(W:World)(x:Int)(A:Option Addr)(n c:Nat):Prop:=W.cell? ⟨b,0,none⟩=some (.int .u64 x)∧W.cell? ⟨b,1,none⟩=some (.slice A n c)
end Yd
namespace Yk
open Bytes8 Blk8 Own8 OwnE Ob Oc Od Oe Rows2 Kf Yc Yd
def NumsTold (ls:List Int)(z:Nat)(W:World)(e:Ending)(w':World):Prop:= ∃A c,e= .returned (.slice A z c)∧Own w' W.heap.size A z c (nums ls)∧Below W.heap.size W w'
theorem rnums_lit (ls:List Int)(k z:Nat)(N:Array Value)(hN:(ls.map (Value.int .u64)).toArray=N)(W:World)(g:Nat)(hg:W.heap.size=g)(hv:I64 ls)(hk:ls.length=k)(hkm:k≤1000)(hz:8*k=z):
 Calls Tryz.prog 144 #[.slice (some ⟨g,0,none⟩) k k] (W.alloc (.cells N 40)) (NumsTold ls z W):=by
 subst hN hg hz
 have h:=rnums_any W.heap.size k k ls 40 _ (Blk.new W _ _) hv hk hkm
 exact h.mono fun e w' ⟨A,c,h1,h2,h3⟩=>⟨A,c,h1,Own.base h2 (by simp),((Below.refl W.heap.size W).alloc (Nat.le_refl _) _).trans (h3.mono (by simp))⟩
theorem rnums_litd (ls:List Int)(k z:Nat)(N:Array Value)(hN:(ls.map (Value.int .u64)).toArray=N)(W:World)(g:Nat)(hg:W.heap.size=g)(hv:I64 ls)(hk:ls.length=k)(hkm:k≤1000)(hz:8*k=z):
 Calls Tryz.prog 144 #[.slice (some ⟨g,0,none⟩) k k] (W.alloc (.cells N 40)).drew (NumsTold ls z W):=
 (rnums_lit ls k z N hN W.drew g hg hv hk hkm hz).mono fun e w' ⟨A,c,h1,h2,h3⟩=>⟨A,c,h1,h2,(Below.refl W.heap.size W).drew.trans h3⟩
theorem I64_one {x:Int}(h:0≤x∧x≤18446744073709551615):I64 [x]:=by intro v hv;simp at hv;subst hv;exact h
theorem I64_two {x y:Int}(h:0≤x∧x≤18446744073709551615)(h2:0≤y∧y≤18446744073709551615):I64 [x,y]:=by intro v hv;simp at hv;rcases hv with rfl|rfl<;>assumption
theorem rputArray_any (x:Int)(A:Option Addr)(n c:Nat)(f:Nat→Int)(w:World)(hi:InInts .u64 w A n f)(hn:n≤50000)(hx:0≤x∧x≤18446744073709551615):
 Calls Tryz.prog 169 #[arrV x A n c] w (Owned (objB 6 (arrB x (ints f n))) (16+(8+8*n)+padN (8+8*n)) w):=by
 have HI:=Lib.hid hi
 have b0:=Lib.hid ((Below.refl w.heap.size w).alloc (Nat.le_refl _) (arrC 238 x A n c))
 have R0:=Lib.hid (show Blk (w.alloc (arrC 238 x A n c)) w.heap.size [.int .u64 x,.slice A n c] 238 from Blk.new w _ _)
 have i0:=R0.out.drew.cell (i:=0) rfl
 have i1:=R0.out.drew.cell (i:=1) rfl
 have PB:=Lib.hid (R0.out.alloc (.cells #[.int .u64 x] 40)).drew
 have pb0:=PB.out.cell (i:=0) rfl
 have pb1:=PB.out.cell (i:=1) rfl
 have HN:=Lib.hid fun(W:World) (g:Nat) (hg:W.heap.size=g)=>rnums_litd [x] 1 8 _ rfl W g hg (I64_one hx) rfl (by decide) rfl
 dsimp only[List.map]at HN
 have HN2:=Lib.hid fun(W:World) (hb:Below w.heap.size w W)=>rnums_in A n c f W (HI.out.below hb) (by omega)
 have HP:=Lib.hid fun(B:Option Addr) (cb:Nat) (W:World) (base:Nat) (ho:Own W base B (8+8*n) cb (nums [x]++nums (ints f n)))=>rput_yes 6 B _ (8+8*n) cb W (by decide) ho.bytes ho.2.1 (by omega)
 unfold Owned at HP
 unfold NumsTold at HN
 unfold arrB
 generalize padN (8+8*n)=pn at*
 clear hi
 go_enter Tryz.func169,Tryz.ntmps169
 go_wp2
 go_region_held3 (fun W=>InsideA w.heap.size W x A n c) (first|(with_reducible exact⟨i0,i1⟩)|(with_reducible exact⟨pb0,pb1⟩)|(with_reducible exact⟨q0,q1⟩)|(with_reducible exact⟨r0,r1⟩)|(with_reducible exact⟨s0,s1⟩)|(with_reducible exact⟨t0,t1⟩)|go_keep) (first
  |(refine step_append_bytes (o:=⟨some 10,_,_,_,_,_⟩) rfl (.tmp 6) (.tmp 9) rfl (w.heap.size+1) A1 8 c1 (nums [x]) rfl O1.out A2 (8*n) c2 (nums (ints f n)) rfl O2.out.bytes (nums_ints_len f n) (by omega) ?_;intro A3 c3 w3 ho3 hb3;have O3:=Lib.hid ho3;have B3:=Lib.hid (B2.out.trans hb3);have R3:=Lib.hid (R0.out.below B3.out (Nat.lt_succ_self _));have s0:=R3.out.cell (i:=0) rfl;have s1:=R3.out.cell (i:=1) rfl;clear ho3 hb3)
  |(go_at_call 144;(with_reducible refine(HN.out _ _ (by simp)).mono ?_);rintro e w1 ⟨A1,c1,rfl,ho1,hb1⟩;have O1':=Lib.hid (Own.base ho1 (b2:=w.heap.size+1) (by simp));have B1:=Lib.hid (show Below (w.heap.size+1) (w.alloc (arrC 238 x A n c)) w1 from Below.mono hb1 (by simp));have R1:=Lib.hid (R0.out.below B1.out (Nat.lt_succ_self _));have q0:=R1.out.cell (i:=0) rfl;have q1:=R1.out.cell (i:=1) rfl;clear ho1 hb1)
  |(go_at_call 144;(with_reducible refine(HN2.out w1 (b0.out.trans (B1.out.mono (Nat.le_succ _)))).mono ?_);rintro e w2 ⟨A2,c2,rfl,ho2,hb2⟩;have O2:=Lib.hid ho2;have O1:=Lib.hid (O1'.out.kept hb2 (Nat.le_refl _));have B2:=Lib.hid (B1.out.trans (hb2.mono (by have:=B1.out.size;simpa using this)));have R2:=Lib.hid (R0.out.below B2.out (Nat.lt_succ_self _));have r0:=R2.out.cell (i:=0) rfl;have r1:=R2.out.cell (i:=1) rfl;clear ho2 hb2)
  |(go_at_call 167;(with_reducible refine(HP.out _ _ _ _ O3.out).mono ?_);rintro e w4 ⟨A4,c4,rfl,ho4,hb4⟩;have O4:=Lib.hid ho4;have B4:=Lib.hid hb4;have R4:=Lib.hid (R3.out.below hb4 R3.out.lt);have t0:=R4.out.cell (i:=0) rfl;have t1:=R4.out.cell (i:=1) rfl;clear ho4 hb4))
 go_wp2
 go_ret
 have Bw:=b0.out.trans (B3.out.mono (Nat.le_succ _))
 exact⟨A4,c4,rfl,Own.base O4.out Bw.size,Bw.trans (B4.out.mono Bw.size)⟩
theorem rputTable_at (kd:Int)(A:Option Addr)(n c:Nat)(f g:Nat→Int)(w:World)(h:kd=4∨kd=5)(hi:In2 w A n f g)(hn:n≤50000):
 Calls Tryz.prog 142 #[.int .i64 kd,.slice A n c] w (Owned (objB kd (nums (prs f g n))) (16+16*n+padN (16*n)) w):=by
 have HI:=Lib.hid hi
 have HP:=Lib.hid fun(B:Option Addr) (cb:Nat) (W:World) (ho:Own W w.heap.size B (16*n) cb (nums (prs f g n)))=>rput_yes kd B _ (16*n) cb W (by omega) ho.bytes ho.2.1 (by omega)
 unfold Owned at HP
 have HEs:=Lib.hid fun k:Nat=>nums_prs f g k
 generalize padN (16*n)=pn at*
 clear hi
 rcases h with rfl|rfl
 all_goals
  go_enter Tryz.func142,Tryz.ntmps142
  go_wp2
  go_loopw [5,6] (fun z i wr=> ∃(k:Nat) (A':Option Addr) (c':Nat),k≤n∧z= .slice A' (16*k) c'∧i= .int .i64 (k:Int)∧Hid (Own wr w.heap.size A' (16*k) c' (nums (prs f g k)))∧Hid (Below w.heap.size w wr)) (fun _ i _=>n-(intOf i).toNat)
  case atStart=>exact⟨0,none,0,Nat.zero_le _,rfl,rfl,Own.nil w _ (Nat.le_refl _),Lib.hid (Below.refl _ _)⟩
  case round=>
   obtain⟨k,A',c',hk,rfl,rfl,ho,hb⟩:=hrel
   have hsz:=hb.out.size
   by_cases hlt:k<n
   ·obtain⟨b,off,rfl,hlow,c0w,c1w,f01,g01⟩:=HI.out k hlt
    have c0:=(hb.out.cell (p:=⟨b,off+k*2,none⟩) hlow).trans c0w
    have c1':=(hb.out.cell (p:=⟨b,off+k*2+1,none⟩) hlow).trans c1w
    have hblt:b<wr.heap.size:=Nat.lt_of_lt_of_le hlow hsz
    have HLo:=Lib.hid hlow
    have HEk:=Lib.hid (HEs.out k)
    clear c0w c1w hlow
    have HN:=Lib.hid fun(W:World) (g1:Nat) (hg:W.heap.size=g1)=>rnums_litd [f k,g k] 2 16 _ rfl W g1 hg (I64_two f01 g01) rfl (by decide) rfl
    dsimp only[List.map]at HN
    unfold NumsTold at HN
    generalize f k=X at*
    generalize g k=Y at*
    have u0:wr.drew.cell? ⟨b,off+k*2,none⟩=some (.int .u64 X):=c0
    have u1:wr.drew.cell? ⟨b,off+k*2+1,none⟩=some (.int .u64 Y):=c1'
    have hk0:(0:Int)≤(k:Int):=by omega
    have hkn:(k:Int)<(n:Int):=by omega
    have HBl:=Lib.hid hblt
    go_wp2
    go_region_held3 (fun W=>W.cell? ⟨b,off+k*2,none⟩=some (.int .u64 X)∧W.cell? ⟨b,off+k*2+1,none⟩=some (.int .u64 Y)) (first|(with_reducible exact⟨u0,u1⟩)|(with_reducible exact⟨q0,q1⟩)|(with_reducible exact⟨r0,r1⟩)|go_keep) (first
     |(go_at_call 144;(with_reducible refine(HN.out _ _ (by simp)).mono ?_);rintro e w2 ⟨A2,c2,rfl,ho2,hb2⟩;have O2:=Lib.hid ho2;have O3:=Lib.hid (ho.out.kept hb2 (Nat.le_refl _));have B2:=Lib.hid (hb.out.trans (hb2.mono hsz));have q0:=(hb2.cell (p:=⟨b,off+k*2,none⟩) HBl.out).trans u0;have q1:=(hb2.cell (p:=⟨b,off+k*2+1,none⟩) HBl.out).trans u1;clear ho2 hb2)
     |(refine step_append_bytes (o:=⟨some 32,_,_,_,_,_⟩) rfl (.tmp 19) (.tmp 31) rfl w.heap.size A' (16*k) c' _ rfl O3.out A2 16 c2 (nums [X,Y]) rfl O2.out.bytes (by rw[nums_len];rfl) (by omega) ?_;intro A3 c3 w3 ho3 hb3;have HO3:=Lib.hid ho3;have HB3:=Lib.hid (B2.out.trans hb3);have r0:=(hb3.cell (p:=⟨b,off+k*2,none⟩) HLo.out).trans q0;have r1:=(hb3.cell (p:=⟨b,off+k*2+1,none⟩) HLo.out).trans q1;clear ho3 hb3))
    all_goals
     go_wp2
     go_roundw
     case rel=>
      refine⟨k+1,A3,c3,by omega,rfl,by go_num,?_,HB3⟩
      rw[HEk.out]
      exact HO3
     case measure=>simp[intOf];omega
   ·obtain rfl:k=n:=by omega
    go_wp2_with(go_at_call 167;(with_reducible refine(HP.out _ _ _ ho.out).mono ?_);rintro e w5 ⟨A5,c5,rfl,ho5,hb5⟩;have HO5:=Lib.hid ho5;have HB5:=Lib.hid hb5;clear ho5 hb5)
    go_ret
    exact⟨A5,c5,rfl,Own.base HO5.out hb.out.size,hb.out.trans (HB5.out.mono hb.out.size)⟩
theorem rputEntry_any (s r m:Int)(K:Nat→Int)(x:Int)(A:Option Addr)(n c:Nat)(f g:Nat→Int)(w:World)(hi:In2 w A n f g)(hn:n≤50000)(hK:IdOk K)(hs:0≤s∧s≤18446744073709551615)(hr:0≤r∧r≤18446744073709551615)(hm:0≤m∧m≤18446744073709551615)(hx:0≤x∧x≤18446744073709551615):
 Calls Tryz.prog 114 #[entV s r m K x A n c] w (Owned (objB 3 (entB s r m K x (prs f g n))) (16+(48+16*n)+padN (48+16*n)) w):=by
 have HI:=Lib.hid hi
 have b0:=Lib.hid ((Below.refl w.heap.size w).alloc (Nat.le_refl _) (entC 205 s r m K x A n c))
 have R0:=Lib.hid (show Blk (w.alloc (entC 205 s r m K x A n c)) w.heap.size (entL s r m K x A n c) 205 from Blk.new w _ _)
 have hI3:I64 [s,r,m]:=by intro v hv;simp at hv;rcases hv with rfl|rfl|rfl<;>assumption
 have i0:=R0.out.drew.cell (i:=0) rfl
 have i1:=R0.out.drew.cell (i:=1) rfl
 have i2:=R0.out.drew.cell (i:=2) rfl
 have PB:=Lib.hid (R0.out.alloc (.cells #[.int .u64 s,.int .u64 r,.int .u64 m] 40)).drew
 have pb0:=PB.out.cell (i:=0) rfl
 have pb1:=PB.out.cell (i:=1) rfl
 have pb2:=PB.out.cell (i:=2) rfl
 have HLt:=Lib.hid (Nat.lt_succ_self w.heap.size)
 have HN:=Lib.hid fun(W:World) (g:Nat) (hg:W.heap.size=g)=>rnums_litd [s,r,m] 3 24 _ rfl W g hg hI3 rfl (by decide) rfl
 have HNx:=Lib.hid fun(W:World) (g:Nat) (hg:W.heap.size=g)=>rnums_lit [x] 1 8 _ rfl W g hg (I64_one hx) rfl (by decide) rfl
 dsimp only[List.map]at HN HNx
 unfold NumsTold at HN HNx
 have HEs:=Lib.hid fun k:Nat=>show entB s r m K x (prs f g (k+1))=entB s r m K x (prs f g k)++nums [f k,g k]by unfold entB;rw[nums_prs];simp
 have HP:=Lib.hid fun(B:Option Addr) (cb:Nat) (W:World) (ho:Own W (w.heap.size+1) B (48+16*n) cb (entB s r m K x (prs f g n)))=>rput_yes 3 B _ (48+16*n) cb W (by decide) ho.bytes ho.2.1 (by omega)
 unfold Owned at HP
 have hcat:nums [s,r,m]++idL K++nums [x]=entB s r m K x (prs f g 0):=by unfold entB;rw[prs_zero,nums_nil,List.append_nil]
 have HCat:=Lib.hid hcat
 generalize padN (48+16*n)=pn at*
 clear hi hcat hI3
 go_enter Tryz.func114,Tryz.ntmps114
 go_wp2
 go_region_held3 (fun W=>W.cell? ⟨w.heap.size,0,none⟩=some (.int .u64 s)∧W.cell? ⟨w.heap.size,1,none⟩=some (.int .u64 r)∧W.cell? ⟨w.heap.size,2,none⟩=some (.int .u64 m)) (first|(with_reducible exact⟨i0,i1,i2⟩)|(with_reducible exact⟨pb0,pb1,pb2⟩)|(with_reducible exact⟨q0,q1,q2⟩)|(with_reducible exact⟨r0,r1,r2⟩)|go_keep) (first
  |(go_at_call 144;(with_reducible refine(HN.out _ _ (by simp)).mono ?_);rintro e w1 ⟨A1,c1,rfl,ho1,hb1⟩;have O1:=Lib.hid (Own.base ho1 (b2:=w.heap.size+1) (by simp));have B1:=Lib.hid (show Below (w.heap.size+1) (w.alloc (entC 205 s r m K x A n c)) w1 from Below.mono hb1 (by simp));have R1:=Lib.hid (R0.out.below B1.out HLt.out);have HId:=Lib.hid (ent_id R1.out hK);have q0:=R1.out.cell (i:=0) rfl;have q1:=R1.out.cell (i:=1) rfl;have q2:=R1.out.cell (i:=2) rfl;clear ho1 hb1)
  |(refine step_append_bytes (o:=⟨some 15,_,_,_,_,_⟩) rfl (.tmp 12) (.tmp 14) rfl (w.heap.size+1) A1 24 c1 (nums [s,r,m]) rfl O1.out (some ⟨w.heap.size,3,none⟩) 16 16 (idL K) rfl HId.out rfl (by decide) ?_;intro A2 c2 w2 ho2 hb2;have HO2:=Lib.hid ho2;have HB2:=Lib.hid (B1.out.trans hb2);have R2:=Lib.hid (R0.out.below HB2.out HLt.out);have r0:=R2.out.cell (i:=0) rfl;have r1:=R2.out.cell (i:=1) rfl;have r2:=R2.out.cell (i:=2) rfl;have j19:=R2.out.cell (i:=19) rfl;clear ho2 hb2))
 clear i0 i1 i2 pb0 pb1 pb2 q0 q1 q2 r0 r1 r2
 go_wp2_with(first
  |(go_at_call 144;(with_reducible refine(HNx.out _ _ (by simp)).mono ?_);rintro e w3 ⟨A3,c3,rfl,ho3,hb3⟩;have O3:=Lib.hid ho3;have HO2k:=Lib.hid (HO2.out.kept hb3 (Nat.le_refl _));have HB3:=Lib.hid (HB2.out.trans (hb3.mono (by have:=HB2.out.size;simpa using this)));clear ho3 hb3)
  |(at_builtin;refine wpList_append_bytes rfl (.tmp 16) (.tmp 20) rfl (w.heap.size+1) A2 40 c2 _ rfl HO2k.out A3 8 c3 (nums [x]) rfl O3.out.bytes (by rw[nums_len];rfl) (by decide) ?_;intro A4 c4 w4 ho4 hb4;rw[HCat.out]at ho4;have HO4:=Lib.hid ho4;have HB4:=Lib.hid (HB3.out.trans hb4);have R4:=Lib.hid (R0.out.below HB4.out HLt.out);have k20:=R4.out.cell (i:=20) rfl;clear ho4 hb4))
 go_loopw [3,4] (fun z i wr=> ∃(k:Nat) (A':Option Addr) (c':Nat),k≤n∧z= .slice A' (48+16*k) c'∧i= .int .i64 (k:Int)∧Hid (Own wr (w.heap.size+1) A' (48+16*k) c' (entB s r m K x (prs f g k)))∧Hid (Below (w.heap.size+1) (w.alloc (entC 205 s r m K x A n c)) wr)) (fun _ i _=>n-(intOf i).toNat)
 case atStart=>exact⟨0,A4,c4,Nat.zero_le _,rfl,rfl,HO4,HB4⟩
 case round=>
  obtain⟨k,A',c',hk,rfl,rfl,ho,hb⟩:=hrel
  have Bw:=Lib.hid (b0.out.trans (hb.out.mono (Nat.le_succ _)))
  have hsz:w.heap.size+1≤wr.heap.size:=by have:=hb.out.size;simpa using this
  have Rr:=Lib.hid (R0.out.below hb.out HLt.out)
  have l20:=Rr.out.cell (i:=20) rfl
  by_cases hlt:k<n
  ·obtain⟨b,off,rfl,hlow,c0w,c1w,f01,g01⟩:=HI.out k hlt
   have c0:=(Bw.out.cell (p:=⟨b,off+k*2,none⟩) hlow).trans c0w
   have c1':=(Bw.out.cell (p:=⟨b,off+k*2+1,none⟩) hlow).trans c1w
   have hblt:b<wr.heap.size:=by omega
   have hlow1:b<w.heap.size+1:=by omega
   have HLo:=Lib.hid hlow1
   have HEk:=Lib.hid (HEs.out k)
   clear c0w c1w hlow hlow1
   have HN2:=Lib.hid fun(W:World) (g1:Nat) (hg:W.heap.size=g1)=>rnums_litd [f k,g k] 2 16 _ rfl W g1 hg (I64_two f01 g01) rfl (by decide) rfl
   dsimp only[List.map]at HN2
   unfold NumsTold at HN2
   generalize f k=X at*
   generalize g k=Y at*
   have u0:wr.drew.cell? ⟨b,off+k*2,none⟩=some (.int .u64 X):=c0
   have u1:wr.drew.cell? ⟨b,off+k*2+1,none⟩=some (.int .u64 Y):=c1'
   have u2:wr.drew.cell? ⟨w.heap.size,20,none⟩=some (.slice (some ⟨b,off,none⟩) n c):=l20
   have Na:=Lib.hid ((Below.refl wr.heap.size wr).alloc (Nat.le_refl _) (.cells #[.int .u64 X,.int .u64 Y] 40)).drew
   have v0:=(Na.out.cell (p:=⟨b,off+k*2,none⟩) hblt).trans c0
   have v1:=(Na.out.cell (p:=⟨b,off+k*2+1,none⟩) hblt).trans c1'
   have v2:=(Na.out.cell (p:=⟨w.heap.size,20,none⟩) (by show w.heap.size<wr.heap.size;omega)).trans l20
   have hk0:(0:Int)≤(k:Int):=by omega
   have hkn:(k:Int)<(n:Int):=by omega
   have HBl:=Lib.hid hblt
   go_wp2
   go_region_held3 (fun W=>W.cell? ⟨b,off+k*2,none⟩=some (.int .u64 X)∧W.cell? ⟨b,off+k*2+1,none⟩=some (.int .u64 Y)∧W.cell? ⟨w.heap.size,20,none⟩=some (.slice (some ⟨b,off,none⟩) n c)) (first|(with_reducible exact⟨u0,u1,u2⟩)|(with_reducible exact⟨v0,v1,v2⟩)|(with_reducible exact⟨q0,q1,q2⟩)|(with_reducible exact⟨r0,r1,r2⟩)|go_keep) (first
    |(go_at_call 144;(with_reducible refine(HN2.out _ _ (by simp)).mono ?_);rintro e w5 ⟨A5,c5,rfl,ho5,hb5⟩;have O5:=Lib.hid ho5;have O6:=Lib.hid (ho.out.kept hb5 (Nat.le_refl _));have B5:=Lib.hid (hb.out.trans (hb5.mono hsz));have q0:=(hb5.cell (p:=⟨b,off+k*2,none⟩) HBl.out).trans u0;have q1:=(hb5.cell (p:=⟨b,off+k*2+1,none⟩) HBl.out).trans u1;have q2:=(hb5.cell (p:=⟨w.heap.size,20,none⟩) (by show w.heap.size<wr.heap.size;omega)).trans u2;clear ho5 hb5)
    |(refine step_append_bytes (o:=⟨some 44,_,_,_,_,_⟩) rfl (.tmp 29) (.tmp 43) rfl (w.heap.size+1) A' (48+16*k) c' _ rfl O6.out A5 16 c5 (nums [X,Y]) rfl O5.out.bytes (by rw[nums_len];rfl) (by omega) ?_;intro A7 c7 w7 ho7 hb7;have HO7:=Lib.hid ho7;have HB7:=Lib.hid (B5.out.trans hb7);have r0:=(hb7.cell (p:=⟨b,off+k*2,none⟩) HLo.out).trans q0;have r1:=(hb7.cell (p:=⟨b,off+k*2+1,none⟩) HLo.out).trans q1;have r2:=(hb7.cell (p:=⟨w.heap.size,20,none⟩) HLt.out).trans q2;clear ho7 hb7))
   all_goals
    go_wp2
    go_roundw
    case rel=>
     refine⟨k+1,A7,c7,by omega,rfl,by go_num,?_,HB7⟩
     rw[HEk.out]
     exact HO7
    case measure=>simp[intOf];omega
  ·obtain rfl:k=n:=by omega
   go_wp2_with(go_at_call 167;(with_reducible refine(HP.out _ _ _ ho.out).mono ?_);rintro e w5 ⟨A5,c5,rfl,ho5,hb5⟩;have HO5:=Lib.hid ho5;have HB5:=Lib.hid hb5;clear ho5 hb5)
   go_ret
   exact⟨A5,c5,rfl,Own.base HO5.out Bw.out.size,Bw.out.trans (HB5.out.mono Bw.out.size)⟩
end Yk
namespace Ye
open Bytes8 Blk8 Own8 OwnE Ob Oc Og Oi Rows2 Kf Yc Yp
def Bodied2 (l:List Int)(a:Nat)(k:Int)(ah ea:Nat)(w:World)(e:Ending)(w':World):Prop:=
 ∃B m cb,e= .returned (.tuple #[.slice B m cb,.int .i64 (ecode l a k ah ea)])∧Below w.heap.size w w'∧(ecode l a k ah ea=0→Bytes w' B (bodyL l a)∧(bodyL l a).length=m∧m≤cb∧cb≤maxLen∧m≤1000000)
theorem bodyOf_e (A:Option Addr)(l:List Int)(n cap a ah ea:Nat)(k:Int)(w:World)(hb:Bytes w A l)(hL:l.length=n)(hn:n≤1000000)(hc:n≤cap)(hcm:cap≤maxLen)(ha:a≤18446744073709551615)(hah:ah≤1000)(hea:ea≤1000)(he0:0<ea)(hmod:ah%ea=0):
 Calls Tryz.prog 211 #[.slice A n cap,.int .u64 (a:Int),.int .i64 k,.int .i64 (ah:Int),.int .i64 (ea:Int)] w (Bodied2 l a k ah ea w):=by
 have HR:=Lib.hid (read_any A l n cap a w hb hL hn hc hcm ha)
 unfold FrTold at HR
 unfold Bodied2
 have hbc:ecode l a k ah ea=if code l a≠0 then code l a else if kindL l a≠k then 4 else if(bodyL l a).length<ah+ea∨(bodyL l a).length%ea≠0 then 5 else 0:=rfl
 by_cases h1:code l a≠0
 ·rw[if_pos h1]at hbc
  rw[hbc]
  clear hbc
  generalize code l a=cd at*
  generalize kindL l a=kd at*
  generalize sizeL l a=s at*
  have HX:Hid (cd≠0):=Lib.hid h1
  clear hb hL
  go_enter Tryz.func211,Tryz.ntmps211
  go_wp2_with(go_at_call 38;(with_reducible refine HR.out.mono ?_);rintro e w2 ⟨rfl,hbel⟩;have HB:=Lib.hid hbel;clear hbel)
  go_ret2
  exact⟨none,0,0,rfl,HB.out.alloc HB.out.size _,fun h=>absurd h HX.out⟩
 have h0:code l a=0:=by omega
 obtain⟨m,hs,hbl,hfit,hbody,_⟩:=body_there hL h0
 rw[if_neg h1,hbl]at hbc
 have hs2:sizeL l a=16+(m:Int):=by omega
 rw[h0,hs2]at HR
 by_cases h2:kindL l a≠k
 ·rw[if_pos h2]at hbc
  rw[hbc]
  generalize kindL l a=kd at*
  clear hb hL hbc hs hs2 hbl hbody h1 h0
  go_enter Tryz.func211,Tryz.ntmps211
  go_wp2_with(go_at_call 38;(with_reducible refine HR.out.mono ?_);rintro e w2 ⟨rfl,hbel⟩;have HB:=Lib.hid hbel;clear hbel)
  go_ret2
  exact⟨none,0,0,rfl,HB.out.alloc HB.out.size _,fun h=>absurd h (by decide)⟩
 have h2':kindL l a=k:=by omega
 rw[if_neg h2]at hbc
 rw[h2']at HR
 have hcut:=cutu_lh A n cap (a+16) (a+16+m) ((a:Int)+16) ((a:Int)+(16+(m:Int))) (by omega) (by omega) (by omega) (by omega)
 have HBC:=Lib.hid (Bytes.cut hb cap (a+16) m (by omega))
 rw[←hbody]at HBC
 rw[show a+16+m-(a+16)=m by omega]at hcut
 have hcap:m≤cap-(a+16)∧cap-(a+16)≤maxLen:=by omega
 generalize cap-(a+16)=cb at*
 generalize cutA A cap (a+16)=C at*
 have HCap:=Lib.hid hcap
 have HBl:=Lib.hid hbl
 have ham:a+16+m≤1000000:=by omega
 unfold maxLen at hcm
 clear hb hL hs hs2 hbl hbody h1 h0 h2 h2' hcap
 by_cases h3:m<ah+ea
 ·rw[if_pos (Or.inl h3)]at hbc
  rw[hbc]
  have h3':(m:Int)-(ah:Int)<(ea:Int):=by omega
  clear hbc
  go_enter Tryz.func211,Tryz.ntmps211
  go_wp2_with(go_at_call 38;(with_reducible refine HR.out.mono ?_);rintro e w2 ⟨rfl,hbel⟩;have HB:=Lib.hid hbel;clear hbel)
  go_ret2
  exact⟨none,0,0,rfl,HB.out.alloc HB.out.size _,fun h=>absurd h (by decide)⟩
 have h3': ¬(m:Int)-(ah:Int)<(ea:Int):=by omega
 obtain⟨q,hq⟩: ∃q,ah=ea*q:=⟨ah/ea,by have:=Nat.div_add_mod ah ea;omega⟩
 have hmm:(m-ah)%ea=m%ea:=by
  subst hq
  have:m=(m-ea*q)+ea*q:=by omega
  conv=>rhs;rw[this,Nat.add_mul_mod_self_left]
 have hrem:((m:Int)-(ah:Int)).tmod (ea:Int)=((m%ea:Nat):Int):=by
  rw[show(m:Int)-(ah:Int)=((m-ah:Nat):Int)by omega,Int.tmod_eq_emod_of_nonneg (by omega),←hmm]
  omega
 have hea0: ¬(ea:Int)=0:=by omega
 clear hq hmm
 by_cases h4:m%ea=0
 ·rw[if_neg (by omega)]at hbc
  rw[hbc]
  rw[h4]at hrem
  clear hbc
  go_enter Tryz.func211,Tryz.ntmps211
  go_wp2_with(go_at_call 38;(with_reducible refine HR.out.mono ?_);rintro e w2 ⟨rfl,hbel⟩;have HB:=Lib.hid hbel;clear hbel)
  go_ret2
  exact⟨C,m,cb,rfl,HB.out.alloc HB.out.size _,fun _=>⟨HBC.out.below (HB.out.alloc HB.out.size _) (Nat.le_refl _),HBl.out,HCap.out.1,HCap.out.2,by omega⟩⟩
 ·rw[if_pos (Or.inr h4)]at hbc
  rw[hbc]
  obtain⟨R,hR⟩: ∃R:Int,R=((m%ea:Nat):Int):=⟨_,rfl⟩
  rw[←hR]at hrem
  have h4': ¬R=0:=by omega
  have h5:(R==0)=false:=by simpa using h4'
  have h6:(R !=0)=true:=by simpa using h4'
  have h7:decide (R=0)=false:=by simpa using h4'
  clear hbc hR h4
  go_enter Tryz.func211,Tryz.ntmps211
  go_wp2_with(go_at_call 38;(with_reducible refine HR.out.mono ?_);rintro e w2 ⟨rfl,hbel⟩;have HB:=Lib.hid hbel;clear hbel)
  ·go_ret2
   exact⟨none,0,0,rfl,HB.out.alloc HB.out.size _,fun h=>absurd h (by decide)⟩
  all_goals (rename_i hx;trace_state;simp at hx;exact absurd hx h4')
theorem bodyOf_z (A:Option Addr)(l:List Int)(n cap a ah ea:Nat)(k zh ze:Int)(w:World)(hb:Bytes w A l)(hL:l.length=n)(hn:n≤1000000)(hc:n≤cap)(hcm:cap≤maxLen)(ha:a≤18446744073709551615)(hah:ah≤1000)(hea:ea≤1000)(he0:0<ea)(hmod:ah%ea=0)(hzh:zh=(ah:Int))(hze:ze=(ea:Int)):
 Calls Tryz.prog 211 #[.slice A n cap,.int .u64 (a:Int),.int .i64 k,.int .i64 zh,.int .i64 ze] w (Bodied2 l a k ah ea w):=by
 subst hzh hze
 exact bodyOf_e A l n cap a ah ea k w hb hL hn hc hcm ha hah hea he0 hmod
theorem number_e (A:Option Addr)(l:List Int)(n cap i:Nat)(z:Int)(w:World)(hb:Bytes w A l)(hL:l.length=n)(hn:n≤1000000)(hi:i+8≤n)(hz:z=(i:Int)):
 Calls Tryz.prog 212 #[.slice A n cap,.int .i64 z] w fun e w'=>e= .returned (.int .u64 (u8 l i))∧w=w':=by
 subst hz
 have HG:=Lib.hid fun(z:Int) (hz:z=(i:Int))=>get8 A l n cap i z w hz hL hn hb hi
 generalize u8 l i=x at*
 clear hb hL
 go_enter Tryz.func212,Tryz.ntmps212
 go_wp2_with(go_at_call 96;(with_reducible refine(HG.out _ rfl).mono ?_);rintro e w' ⟨rfl,rfl⟩)
 go_ret
 exact⟨rfl,rfl⟩
def Part2 (w:World)(g m k:Nat)(f h:Nat→Int)(T:TypeId):Prop:=
 ∃vs:List Value,Blk w g vs T∧vs.length=m*2∧ ∀i,i<k→vs[i*2]? =some (.int .u64 (f i))∧vs[i*2+1]? =some (.int .u64 (h i))
theorem Part2.new (w:World)(m:Nat)(f h:Nat→Int)(T:TypeId):Part2 (w.alloc (.cells (Array.replicate (m*2) (Value.int .u64 0)) T)) w.heap.size m 0 f h T:=
 ⟨List.replicate (m*2) (.int .u64 0),by have:=Blk.new w (List.replicate (m*2) (.int .u64 0)) T;simpa using this,by simp,fun i hi=>absurd hi (by omega)⟩
theorem Part2.lt {w:World}{g m k:Nat}{f h:Nat→Int}{T:TypeId}(hp:Part2 w g m k f h T):g<w.heap.size:=by
 obtain⟨vs,hb,_⟩:=hp
 exact hb.lt
theorem Part2.cells {w:World}{g m k:Nat}{f h:Nat→Int}{T:TypeId}(hp:Part2 w g m k f h T)(hk:k<m):(∃u v,w.cell? ⟨g,k*2,none⟩=some u∧w.cell? ⟨g,k*2+1,none⟩=some v)∧w.frozen? ⟨g,k*2,none⟩=false∧w.frozen? ⟨g,k*2+1,none⟩=false:=by
 obtain⟨vs,hb,hl,_⟩:=hp
 exact⟨⟨vs[k*2],vs[k*2+1],hb.cell (List.getElem?_eq_getElem (by omega)),hb.cell (List.getElem?_eq_getElem (by omega))⟩,hb.frozen _,hb.frozen _⟩
theorem Part2.step {w:World}{g m k:Nat}{f h:Nat→Int}{T:TypeId}(hp:Part2 w g m k f h T)(hk:k<m):Part2 ((w.setCell ⟨g,k*2,none⟩ (.int .u64 (f k))).setCell ⟨g,k*2+1,none⟩ (.int .u64 (h k))) g m (k+1) f h T:=by
 obtain⟨vs,hb,hl,hv⟩:=hp
 refine⟨_,(hb.set_ (k*2) _).set_ (k*2+1) _,by simp[hl],fun i hi=>?_⟩
 rcases Nat.lt_or_ge i k with h1|h1
 ·obtain⟨e1,e2⟩:=hv i h1
  rw[List.getElem?_set,List.getElem?_set,List.getElem?_set,List.getElem?_set,if_neg (by omega),if_neg (by omega),if_neg (by omega),if_neg (by omega)]
  exact⟨e1,e2⟩
 ·obtain rfl:i=k:=by omega
  rw[List.getElem?_set,List.getElem?_set,List.getElem?_set,if_neg (by omega),if_pos rfl,if_pos (by omega),if_pos rfl,if_pos (by simp;omega)]
  exact⟨rfl,rfl⟩
theorem Part2.in2 {w:World}{g m:Nat}{f h:Nat→Int}{T:TypeId}(hp:Part2 w g m m f h T)(hf: ∀i,0≤f i∧f i≤18446744073709551615)(hh: ∀i,0≤h i∧h i≤18446744073709551615):In2 w (some ⟨g,0,none⟩) m f h:=fun i hi=>by
 obtain⟨vs,hb,hl,hv⟩:=hp
 obtain⟨e1,e2⟩:=hv i hi
 exact⟨g,0,rfl,hb.lt,by rw[Nat.zero_add];exact hb.cell e1,by rw[Nat.zero_add];exact hb.cell e2,hf i,hh i⟩
theorem itemInfo:(Tryz.prog.info? 287).map (fun i=>(i.zero,i.size,i.bytes))=some (some (.agg #[.int .u64 0,.int .u64 0]),2,16):=by kernel_rfl
theorem made_two (p:Nat):madeCells #[Value.int .u64 0,Value.int .u64 0] (p*2)=Array.replicate (p*2) (Value.int .u64 0):=by
 apply Array.ext
 ·simp[madeCells]
 ·intro i h1 h2
  simp only[madeCells,Array.getElem_map,Array.getElem_range,Array.getElem_replicate]
  have:i%2=0∨i%2=1:=by omega
  rcases this with h|h<;>simp[h]
theorem make_two (S T:TypeId)(ht:Tryz.prog.underlying S=some (.slice T))(hinfo:(Tryz.prog.info? T).map (fun i=>(i.zero,i.size,i.bytes))=some (some (.agg #[.int .u64 0,.int .u64 0]),2,16))(p:Nat)(z:Int)(hz:z=(p:Int))(hp:p≤1000000)(w:World):
 (Instr.makeSlice S (.int .i64 z) (.int .i64 z)).run Tryz.prog w= .ok (.slice (some ⟨w.heap.size,0,none⟩) p p) (w.alloc (.cells (Array.replicate (p*2) (Value.int .u64 0)) T)):=by
 subst hz
 obtain⟨i,hi,hzz⟩:=Option.map_eq_some_iff.1 hinfo
 simp only[Prod.mk.injEq]at hzz
 obtain⟨hz,hs,hb⟩:=hzz
 have h:=run_make (P:=Tryz.prog) w S T i _ ht hi hz .i64 .i64 (p:Int) (p:Int) (by omega) (Int.le_refl _) (by rw[hb];omega) (by omega)
 rw[hs,Int.toNat_natCast]at h
 rw[h]
 show Result.ok _ (w.alloc (.cells (madeCells #[Value.int .u64 0,Value.int .u64 0] (p*2)) T))=_
 rw[made_two]
end Ye
end Go.Proofs.YtjecmgkmcfkcjaaGreat
