/-
  Texts beneath the proof.
-/
import Derived.Test.YtjecmgkmcfkcjaaGreatQa45
set_option linter.unusedVariables false
set_option linter.unusedSimpArgs false
set_option maxRecDepth 100000
set_option maxHeartbeats 16000000
open Go.ChangeShapes Go.WideShapes Go.ChangeAt Go.RowKit
namespace Go.Proofs.YtjecmgkmcfkcjaaGreat
namespace ChainSaysW
open Bytes8 Blk8 Own8 OwnM OwnE Rows2 Ob Ga Gb Gj Ma Mg Na Ns Nt Nu Rc Rp Va Vd Vf Vg Wa Wg Wh Ls Seq8 SeqP Xf Xh Xi Xj Fa
open Yp Yh
open Yi (samePlaces_yes)
open Go1 (hcode)
open Rd (dcode)
open Rf (fcode)
theorem tab_slots {h:HD}{l:List Int}{kd:Int}(hk:kd=4∨kd=5)(hl:l.length≤800000):(tCode h l kd=0→0<tNum h l kd∧tNum h l kd≤1000000)∧tNum h l kd≤1000000:=by
 have hb:(bodyL l (tOff h kd)).length≤800000:=by
  unfold bodyL
  rw[List.length_take,List.length_drop]
  omega
 have h1:tNum h l kd≤1000000:=by
  unfold tNum taNum taN
  split
  ·split<;>omega
  ·omega
 refine⟨fun h0=>⟨?_,h1⟩,h1⟩
 unfold tNum
 rw[if_pos h0]
 unfold tCode at h0
 rw[if_pos hk]at h0
 unfold tCd at h0
 by_cases ht:tabC l (tOff h kd) kd≠0
 ·rw[if_pos ht]at h0;exact absurd h0 ht
 ·have ht0:tabC l (tOff h kd) kd=0:=by simpa using ht
  unfold taNum
  rw[if_pos ht0]
  unfold tabC ecode at ht0
  have hit:isTab kd=true:=by rcases hk with rfl|rfl<;>rfl
  rw[if_pos hit]at ht0
  split at ht0
  ·next h2=>exact absurd ht0 h2
  ·split at ht0
   ·cases ht0
   ·split at ht0
    ·cases ht0
    ·next h3=>
     unfold taN
     omega
theorem links_bd (E:Nat)(oC:Nat→Int)(oX:Nat→Nat): ∀(f a last:Nat) (out:List Int),(∀y∈out,0≤y∧y≤(E:Int))→ ∀y∈(links E oC oX f a last out).1,0≤y∧y≤(E:Int)
 |0,a,last,out,h=>h
 |f+1,a,last,out,h=>by
  unfold links
  by_cases h1:nothB E (a:Int)=true
  ·rw[if_pos h1];exact h
  rw[if_neg h1]
  have ha:=Xb.nothB_is h1
  split
  ·exact fun y hy=>by cases hy
  ·split
   ·exact fun y hy=>by cases hy
   ·refine links_bd E oC oX f _ _ _ (fun y hy=>?_)
    rcases List.mem_append.1 hy with h2|h2
    ·exact h y h2
    ·rw[List.mem_singleton]at h2;omega
theorem bucket_bd (h:HD)(l:List Int)(n:Nat)(z:Int):(∀y∈(bucket4 h l n z).1,0≤y∧y≤(n:Int))∧(∀y∈(bucket5 h l n z).1,0≤y∧y≤(n:Int)):=by
 unfold bucket4 bucket5
 constructor
 ·split
  ·exact fun y hy=>by cases hy
  ·split
   ·exact fun y hy=>by cases hy
   ·exact links_bd n _ _ _ _ _ [] (fun y hy=>by cases hy)
 ·split
  ·exact fun y hy=>by cases hy
  ·split
   ·exact fun y hy=>by cases hy
   ·exact links_bd n _ _ _ _ _ [] (fun y hy=>by cases hy)
theorem plR_bd (E:Nat)(ri:Bool)(oC:Nat→Int)(oX:Nat→Nat): ∀(f a:Nat) (la:Option Nat) (out:List Int),(∀y∈out,0≤y∧y≤(E:Int))→(∀y∈(Xb.plR (Xb.yk E ri oC oX f a la) out).1,0≤y∧y≤(E:Int))∧(Xb.plR (Xb.yk E ri oC oX f a la) out).1.length≤out.length+f
 |0,a,la,out,h=>⟨h,by show out.length≤_;omega⟩
 |f+1,a,la,out,h=>by
  unfold Xb.yk
  by_cases h1:nothB E (a:Int)=true
  ·rw[if_pos h1];exact⟨h,by show out.length≤_;omega⟩
  rw[if_neg h1]
  have ha:=Xb.nothB_is h1
  split
  ·exact⟨(fun y hy=>by cases hy),(by show 0≤_;omega)⟩
  ·split
   ·next h3=>
    unfold Xb.plR
    rw[if_pos h3]
    exact⟨(fun y hy=>by cases hy),(by show 0≤_;omega)⟩
   ·unfold Xb.plR
    rw[if_neg (by simp)]
    obtain⟨q1,q2⟩:=plR_bd E ri oC oX f (oX a) (some a) (out++ [(a:Int)]) (fun y hy=>by
     rcases List.mem_append.1 hy with h2|h2
     ·exact h y h2
     ·rw[List.mem_singleton]at h2;omega)
    refine⟨q1,Nat.le_trans q2 ?_⟩
    rw[List.length_append,List.length_singleton]
    omega
theorem links_len (E:Nat)(oC:Nat→Int)(oX:Nat→Nat)(f a last:Nat):(links E oC oX f a last []).1.length≤f:=by
 have h:=(plR_bd E true oC oX f a (some last) [] (fun y hy=>by cases hy)).2
 rw[Xb.plR_links]at h
 simpa using h
theorem bucket_len (h:HD)(l:List Int)(n:Nat)(z:Int):(bucket4 h l n z).1.length≤n+1∧(bucket5 h l n z).1.length≤n+1:=by
 unfold bucket4 bucket5
 constructor
 ·split
  ·show 0≤_;omega
  ·split
   ·show 0≤_;omega
   ·exact links_len ..
 ·split
  ·show 0≤_;omega
  ·split
   ·show 0≤_;omega
   ·exact links_len ..
theorem datas_bd (h:HD)(l:List Int)(n:Nat)(t:List Int):(∀y∈(datasG h l n t).1,0≤y∧y≤(n:Int))∧(datasG h l n t).1.length≤n+2:=by
 unfold datasG
 split
 ·exact⟨(fun y hy=>by cases hy),(by show 0≤_;omega)⟩
 ·have q:=plR_bd n false (dcode h l n) (fun a=>(dN h l n a 2).toNat) (n+2) (fN h l n (find5 h l n t).1.toNat 2).toNat none [] (fun y hy=>by cases hy)
  exact⟨q.1,by simpa using q.2⟩
theorem name_len (i:Nat)(hi:i<6):AllB (nameLs.getD i [])∧(nameLs.getD i []).length≤100:=by
 have hm:nameLs.getD i []∈nameLs:=SeqP.getD_mem hi
 have h:nameLs.all (fun n=>decide (n.length≤100))=true:=by decide+kernel
 exact⟨(names_ok _ hm).1,by simpa using List.all_eq_true.1 h _ hm⟩
theorem value_len (i:Nat)(hi:i<10):AllB (valueLs.getD i [])∧(valueLs.getD i []).length≤256:=values_ok _ (SeqP.getD_mem hi)
def natZ:Value→Nat
 | .int _ z=>(z+1).toNat
 |_=>0
attribute [local irreducible] HD.cells wpList Code.wp
theorem walk_main (a:Option Addr)(len cap:Nat)(f:Nat→Int)(P:Option Addr)(k kc:Nat)(g:Nat→Int)(by_:Int)(Pa:Option Addr)(np cp:Nat)(pp:List Int)(nm:List Int)(sl:Int)(w:World)(hI:InInts .i64 w a len f)(hl:len≤80)(hP:InInts .i64 w P k g)(hk:k≤8)(hy:0≤by_∧by_<256)(hpb:Bytes w Pa pp)(hpl:pp.length=np)(hnp:np≤400)(hcp:np≤cp)(hcpm:cp≤maxLen)(hnm:AllB nm)(hnl:nm.length≤100):
 Calls Tryz.prog 3 #[.slice a len cap,.slice P k kc,.int .u8 by_,.slice Pa np cp,.string (T nm),.int .i64 sl] w fun e w'=>e= .returned (.bool true)∧Below w.heap.size w w':=by
 have d1:decide ((80:Int)<(len:Int))=false:=by simp;omega
 have d2:decide ((8:Int)<(k:Int))=false:=by simp;omega
 have d3:decide ((400:Int)<(np:Int))=false:=by simp;omega
 have d4:decide ((100:Int)<((T nm).size:Int))=false:=by rw[T_size];simp;omega
 have HI:=jH hI
 have HP:=jH hP
 have HPa:=jH hpb
 clear hI hP hpb
 go_enter Tryz.func3,Tryz.ntmps3
 go_upto_region 6 with(go_at_call 12;((with_reducible refine(first_chain _).mono ?_);rintro e w1 ⟨rfl,hb1⟩;have B1:=jH hb1;clear hb1))
 clear d1 d2 d3 d4
 have HIm:=jH (image_made a len cap f 8 w1 (HI.out.below B1.out) (by omega) (by decide))
 unfold Imaged at HIm
 have HP1:=jH (HP.out.below B1.out)
 go_upto_region 7 with(first
  |(go_at_call 14;((refine HIm.out.mono ?_);rintro e w2 ⟨A0,c0,m,rfl,hg2,ho2,hb2⟩;have hlen:=hg2.img.lens;have HO2:=jH ho2;have B2:=jH (B1.out.trans (hb2.mono B1.out.size));have HSp:=jH (spoil_any A0 m.b.length c0 (imgB m) P k kc g by_ w2 ho2.bytes (imgB_len hg2.img) (by omega) (HP1.out.below hb2) (by omega) hy);clear hg2 ho2 hb2))
  |(go_at_call 13;((refine HSp.out.mono ?_);rintro e w3 ⟨A,c,l,rfl,hl3,ho3,hb3⟩;have HO:=jH ho3;have B3:=jH (B2.out.trans (hb3.mono B2.out.size));clear ho3 hb3))
  |fail)
 generalize m.b.length=n at*
 have hb:=HO.out.bytes
 have hcap:=own_cap HO.out
 have HB:=jH hb
 have hL:l.length=n:=hl3
 clear HIm HP HP1 HI HSp HO2 B1 B2 HO hl3
 by_cases hz:hcode l n=0
 ·have hok:=hdOf_ok hb.1 21
  obtain⟨E,hE,hEB,hEn⟩:=fine_end hz hok
  have HOp:=jH fun(W:World) (hW:Bytes W A l)=>open_fine l A n c W hW hL (by omega) hcap.1 hz E hE hEB hEn hok
  have HQ:=jH fun(W:World) (hW:Bytes W A l)=>ropen_fine l A n c W hW hL (by omega) hcap.1 hz E hE hEB hEn hok
  unfold Opened at HOp
  unfold OpenedR at HQ
  have hlE:(l.take E).length≤800000:=by rw[List.length_take];omega
  generalize hdOf l=H at*
  generalize Ob.u8 l 248=dp at*
  clear hb hz hE hEB hok
  go_upto_region 8 with(first
   |(go_at_call 15;((refine(HOp.out _ HB.out).mono ?_);rintro e w4 ⟨gv,Av,cv,rfl,_,hv,hcv,hb4⟩;have HV4:=jH hv;have B4:=jH (B3.out.trans (hb4.mono B3.out.size));have HB4:=jH (HB.out.below hb4 (jR _));clear hv hb4))
   |fail)
  go_upto_region 9 with(first
   |(go_at_call 16;((refine(HQ.out _ HB4.out).mono ?_);rintro e w5 ⟨gw,Aw,cw,rfl,_,hw,hb5⟩;have HW5:=jH hw;have HV5:=jH (HV4.out.below hb5);have B5:=jH (B4.out.trans (hb5.mono B4.out.size));clear hw hb5))
   |fail)
  generalize l.take E=lE at*
  have hEb:E≤800000:=by omega
  have ht4:=tab_slots (h:=H) (l:=lE) (kd:=4) (.inl rfl) hlE
  have ht5:=tab_slots (h:=H) (l:=lE) (kd:=5) (.inr rfl) hlE
  have HPa5:=jH fun(W:World) (hW:Below w5.heap.size w5 W)=>(HPa.out.below (B5.out.trans (hW.mono B5.out.size)) (jR _))
  have HBv4:=jH fun(z:Int) (W:World) (hW:Below w5.heap.size w5 W)=>bucket4_any z W (HV5.out.below hW) hcv
  have HBv5:=jH fun(z:Int) (W:World) (hW:Below w5.heap.size w5 W)=>bucket5_any z W (HV5.out.below hW) hcv
  have HBw4:=jH fun(z:Int) (W:World) (hW:Below w5.heap.size w5 W)=>rbucket4_any z W (HW5.out.below hW) ht4.2
  have HBw5:=jH fun(z:Int) (W:World) (hW:Below w5.heap.size w5 W)=>rbucket5_any z W (HW5.out.below hW) ht5.2
  have HBd:=jH fun(z:Int)=>And.intro (bucket_bd H lE E z) (bucket_len H lE E z)
  have HFv:=jH fun(t:List Int) (hA:AllB t) (hl2:t.length≤800000) (W:World) (hW:Below w5.heap.size w5 W)=>findfield_any t W (HV5.out.below hW) hcv hA hl2 ht5.1
  have HFw:=jH fun(t:List Int) (hA:AllB t) (hl2:t.length≤800000) (W:World) (hW:Below w5.heap.size w5 W)=>rfindfield_any t W (HW5.out.below hW) hA hl2 ht5.1
  have HDv:=jH fun(t:List Int) (hA:AllB t) (hl2:t.length≤800000) (W:World) (hW:Below w5.heap.size w5 W)=>datas_any t W (HV5.out.below hW) hcv hA hl2 ht5.1
  have HDw:=jH fun(t:List Int) (hA:AllB t) (hl2:t.length≤800000) (W:World) (hW:Below w5.heap.size w5 W)=>rdatas_any t W (HW5.out.below hW) hA hl2 ht5.1
  have HDd:=jH fun(t:List Int)=>datas_bd H lE E t
  have HGv:=jH fun(A1:Option Addr) (t:List Int) (m1 c1:Nat) (W:World) (hW:Below w5.heap.size w5 W) (hb1:Bytes W A1 t) (hl1:t.length=m1) (h1:m1≤800000) (h2:m1≤c1) (h3:c1≤maxLen)=>finddata_any A1 t m1 c1 W (HV5.out.below hW) hcv hb1 hl1 h1 h2 h3 ht4.1
  have HGw:=jH fun(A1:Option Addr) (t:List Int) (m1 c1:Nat) (W:World) (hW:Below w5.heap.size w5 W) (hb1:Bytes W A1 t) (hl1:t.length=m1) (h1:m1≤800000) (h2:m1≤c1) (h3:c1≤maxLen)=>Wi.rfinddata_any A1 t m1 c1 W (HW5.out.below hW) hb1 hl1 h1 h2 h3 ht4.1 (ofS_bd _ _ _)
  have HSm:=jH fun(out:List Int) (hF: ∀y∈out,0≤y∧y≤(E:Int)) (hln:out.length≤E+2) (A1 A2:Option Addr) (m1 c1 m2 c2 b1 b2:Nat) (W:World) (o1:OwnE 40 1 W b1 A1 m1 c1 (out.map (Value.int .u64))) (l1:out.length=m1) (o2:OwnE 40 1 W b2 A2 m2 c2 (out.map (Value.int .u64))) (l2:out.length=m2)=>show Calls Tryz.prog 19 #[.slice A1 m1 c1,.slice A2 m2 c2] W fun e w'=>e= .returned (.bool true)∧Below W.heap.size W w' from by
   have h5:m2=m1:=by omega
   subst h5
   have hF2: ∀y∈out,0≤y∧y≤18446744073709551615:=fun y hy=>by have:=hF y hy;omega
   exact samePlaces_yes A1 A2 m2 c1 c2 _ W (tell_ints o1 l1 hF2) (tell_ints o2 l2 hF2) (by omega)
  have HLs:Hid (∀W:World,Below w5.heap.size w5 W→Calls Tryz.prog 17 #[.pointer (some ⟨gv,0,none⟩),.int .i64 sl,.int .i64 sl] W fun e w'=> ∃v x,e= .returned (.tuple #[v,.int .i64 x])∧(sl=4∨sl=5∨x=1)∧Below W.heap.size W w'):=jH fun W hW=>by
   by_cases h4:sl=4
   ·subst h4
    refine(HBv4.out 4 W hW).mono ?_
    rintro e w' ⟨hb,A1,m1,c1,rfl,_⟩
    exact⟨_,_,rfl,.inl rfl,hb⟩
   ·by_cases h5:sl=5
    ·subst h5
     refine(HBv5.out 5 W hW).mono ?_
     rintro e w' ⟨hb,A1,m1,c1,rfl,_⟩
     exact⟨_,_,rfl,.inr (.inl rfl),hb⟩
    ·refine(bucket_other sl sl W (HV5.out.below hW) hcv h4 h5).mono ?_
     rintro e w' ⟨rfl,hb⟩
     exact⟨_,_,rfl,.inr (.inr rfl),hb⟩
  unfold TellL at HBv4 HBv5 HBw4 HBw5 HDv HDw
  have S5:=jH (Below.refl w5.heap.size w5)
  generalize bucket4 H lE E=R4 at*
  generalize bucket5 H lE E=R5 at*
  generalize find4 H lE E=F4 at*
  generalize find5 H lE E=F5 at*
  generalize datasG H lE E=RD at*
  clear HOp HQ HB4 HV4 B3 B4 HB HV5 HW5 ht4 ht5 HPa
  go_upto_region 13 with fail
  go_wp2_with fail
  go_loopw [19] (fun kv wr=>(kv= .int .i64 4∨kv= .int .i64 5∨kv= .int .i64 6)∧Hid (Below w5.heap.size w5 wr)) (fun kv _=>6-natOf kv)
  case atStart=>exact⟨.inl rfl,S5⟩
  case round=>
   obtain⟨rfl|rfl|rfl,hbr⟩:=hrel
   ·skip
    go_upto_region 16 with fail
    go_wp2_with fail
    go_loopw [20] (fun kv wr=> ∃y:Nat,y≤10∧kv= .int .i64 ((y:Int)-1)∧Hid (Below w5.heap.size w5 wr)) (fun kv _=>10-natZ kv)
    case atStart=>exact⟨0,by omega,rfl,hbr⟩
    case round=>
     clear hbr
     obtain⟨y,hy1,rfl,hbs⟩:=hrel
     by_cases hy2:y<10
     ·have ds1:decide ((y:Int)-1<9)=true:=by simp;omega
      have hwy:IntKind.i64.wrap ((y:Int)-1+1)=(y:Int):=by rw[IntKind.wrap_i64];omega
      have hne:((R4 ((y:Int)-1)).2 !=(R4 ((y:Int)-1)).2)=false:=by simp
      have hne2:((R4 ((y:Int)-1)).2==(R4 ((y:Int)-1)).2)=true:=by simp
      have hlt9:(y:Int)-1<9:=by omega
      go_wp2_with(first
       |(go_at_call 17;(refine(HBv4.out _ _ hbs.out).mono ?_);rintro e wa ⟨hba,A6,m6,c6,rfl,ho6,hl6⟩;have SA:=jH (hbs.out.trans (hba.mono hbs.out.size));have O6:=jH ho6;have L6:=jH hl6;clear hba ho6 hl6)
       |(go_at_call 18;(refine(HBw4.out _ _ SA.out).mono ?_);rintro e wb ⟨hbb,A7,m7,c7,rfl,ho7,hl7⟩;have SB:=jH (SA.out.trans (hbb.mono SA.out.size));have HS7:=jH (HSm.out _ (HBd.out _).1.1 (by have:=(HBd.out ((y:Int)-1)).2.1;omega) A6 A7 m6 c6 m7 c7 _ _ wb (O6.out.kept hbb (jR _)) L6.out ho7 hl7);clear hbb ho7 hl7)
       |(go_at_call 19;(refine HS7.out.mono ?_);rintro e wc ⟨rfl,hbc⟩;have SC:=jH (SB.out.trans (hbc.mono SB.out.size));clear hbc)
       |fail)
      go_roundw
      case rel=>exact⟨y+1,by omega,by first|rfl|(congr 1<;>omega),SC⟩
      case measure=>simp[natZ];omega
     ·have ds1:decide ((y:Int)-1<9)=false:=by simp;omega
      have hge9: ¬(y:Int)-1<9:=by omega
      go_wp2_with fail
      go_roundw
      case rel=>exact⟨.inr (.inl rfl),hbs⟩
      case measure=>simp[natOf]
   ·skip
    go_upto_region 16 with fail
    go_wp2_with fail
    go_loopw [20] (fun kv wr=> ∃y:Nat,y≤10∧kv= .int .i64 ((y:Int)-1)∧Hid (Below w5.heap.size w5 wr)) (fun kv _=>10-natZ kv)
    case atStart=>exact⟨0,by omega,rfl,hbr⟩
    case round=>
     clear hbr
     obtain⟨y,hy1,rfl,hbs⟩:=hrel
     by_cases hy2:y<10
     ·have ds1:decide ((y:Int)-1<9)=true:=by simp;omega
      have hwy:IntKind.i64.wrap ((y:Int)-1+1)=(y:Int):=by rw[IntKind.wrap_i64];omega
      have hne:((R5 ((y:Int)-1)).2 !=(R5 ((y:Int)-1)).2)=false:=by simp
      have hne2:((R5 ((y:Int)-1)).2==(R5 ((y:Int)-1)).2)=true:=by simp
      have hlt9:(y:Int)-1<9:=by omega
      go_wp2_with(first
       |(go_at_call 17;(refine(HBv5.out _ _ hbs.out).mono ?_);rintro e wa ⟨hba,A6,m6,c6,rfl,ho6,hl6⟩;have SA:=jH (hbs.out.trans (hba.mono hbs.out.size));have O6:=jH ho6;have L6:=jH hl6;clear hba ho6 hl6)
       |(go_at_call 18;(refine(HBw5.out _ _ SA.out).mono ?_);rintro e wb ⟨hbb,A7,m7,c7,rfl,ho7,hl7⟩;have SB:=jH (SA.out.trans (hbb.mono SA.out.size));have HS7:=jH (HSm.out _ (HBd.out _).1.2 (by have:=(HBd.out ((y:Int)-1)).2.2;omega) A6 A7 m6 c6 m7 c7 _ _ wb (O6.out.kept hbb (jR _)) L6.out ho7 hl7);clear hbb ho7 hl7)
       |(go_at_call 19;(refine HS7.out.mono ?_);rintro e wc ⟨rfl,hbc⟩;have SC:=jH (SB.out.trans (hbc.mono SB.out.size));clear hbc)
       |fail)
      go_roundw
      case rel=>exact⟨y+1,by omega,by first|rfl|(congr 1<;>omega),SC⟩
      case measure=>simp[natZ];omega
     ·have ds1:decide ((y:Int)-1<9)=false:=by simp;omega
      have hge9: ¬(y:Int)-1<9:=by omega
      go_wp2_with fail
      go_roundw
      case rel=>exact⟨.inr (.inr rfl),hbs⟩
      case measure=>simp[natOf]
   go_upto_region 24 with(first
    |(go_at_call 20;(with_reducible refine(names_any _).mono ?_);rintro e w6 ⟨rfl,hN6,hb6,-⟩;have N6:=jH hN6;have S6:=jH (hbr.out.trans (hb6.mono hbr.out.size));clear hN6 hb6)
    |(go_at_call 21;(with_reducible refine(values_any _).mono ?_);rintro e w7 ⟨rfl,hV7,hb7,-⟩;have V7:=jH hV7;have N7:=jH (N6.out.below hb7 N6.out.lt);have S7:=jH (S6.out.trans (hb7.mono S6.out.size));clear hV7 hb7))
   have HNm:=jH fun(i:Nat) (hi:i<6) (W:World) (hW:Below w7.heap.size w7 W)=>text_at (N7.out.below hW N7.out.lt) i hi
   have HVl:=jH fun(i:Nat) (hi:i<10) (W:World) (hW:Below w7.heap.size w7 W)=>text_at (V7.out.below hW V7.out.lt) i hi
   have HPa7:=jH fun(W:World) (hW:Below w7.heap.size w7 W)=>HPa5.out W (S7.out.trans (hW.mono S7.out.size))
   have HFv7:=jH fun(t:List Int) (hA:AllB t) (hl2:t.length≤800000) (W:World) (hW:Below w7.heap.size w7 W)=>HFv.out t hA hl2 W (S7.out.trans (hW.mono S7.out.size))
   have HFw7:=jH fun(t:List Int) (hA:AllB t) (hl2:t.length≤800000) (W:World) (hW:Below w7.heap.size w7 W)=>HFw.out t hA hl2 W (S7.out.trans (hW.mono S7.out.size))
   have HDv7:=jH fun(t:List Int) (hA:AllB t) (hl2:t.length≤800000) (W:World) (hW:Below w7.heap.size w7 W)=>HDv.out t hA hl2 W (S7.out.trans (hW.mono S7.out.size))
   have HDw7:=jH fun(t:List Int) (hA:AllB t) (hl2:t.length≤800000) (W:World) (hW:Below w7.heap.size w7 W)=>HDw.out t hA hl2 W (S7.out.trans (hW.mono S7.out.size))
   have HGv7:=jH fun(A1:Option Addr) (t:List Int) (m1 c1:Nat) (W:World) (hW:Below w7.heap.size w7 W)=>HGv.out A1 t m1 c1 W (S7.out.trans (hW.mono S7.out.size))
   have HGw7:=jH fun(A1:Option Addr) (t:List Int) (m1 c1:Nat) (W:World) (hW:Below w7.heap.size w7 W)=>HGw.out A1 t m1 c1 W (S7.out.trans (hW.mono S7.out.size))
   have HLs7:=jH fun(W:World) (hW:Below w7.heap.size w7 W)=>HLs.out W (S7.out.trans (hW.mono S7.out.size))
   have Bf:=jH fun(W:World) (hW:Below w7.heap.size w7 W)=>show Below w.heap.size w W from(B5.out.trans (S7.out.mono B5.out.size)).trans (hW.mono (B5.out.trans (S7.out.mono B5.out.size)).size)
   have R7:=jH (Below.refl w7.heap.size w7)
   generalize w6.heap.size=gV at*
   generalize wr.heap.size=gN at*
   clear HPa5 HFv HFw HDv HDw HGv HGw HLs B5 S5 hbr N6 S6 V7 N7 S7 HBv4 HBw4 HBv5 HBw5 HBd
   go_upto_region 24 with fail
   go_wp2_with fail
   go_loopw [27] (fun kv wr=> ∃i:Nat,i≤7∧kv= .int .i64 (i:Int)∧Hid (Below w7.heap.size w7 wr)) (fun kv _=>7-natOf kv)
   case atStart=>exact⟨0,by omega,rfl,R7⟩
   case round=>
    obtain⟨i,hi7,rfl,hbi⟩:=hrel
    have hwi:IntKind.i64.wrap ((i:Int)+1)=((i+1:Nat):Int):=by rw[IntKind.wrap_i64];omega
    by_cases hi6:i<6
    ·have ds1:decide ((i:Int)≤6)=true:=by simp;omega
     have ds2:decide ((i:Int)<6)=true:=by simp;omega
     have hle1:(i:Int)≤6:=by omega
     have hlt1:(i:Int)<6:=by omega
     obtain⟨s,hs⟩: ∃s,s=nameLs.getD i []:=⟨_,rfl⟩
     have cS:=HNm.out i hi6 _ hbi.out
     obtain⟨hsA,hsl⟩:=name_len i hi6
     rw[←hs]at cS hsA hsl
     clear hs
     go_upto_region 34 with(first
      |(go_at_call 22;(refine(HFv7.out s hsA (by omega) _ hbi.out).mono ?_);rintro e wa ⟨rfl,hba⟩;have SA:=jH (hbi.out.trans (hba.mono hbi.out.size));clear hba)
      |(go_at_call 23;(refine(HFw7.out s hsA (by omega) _ SA.out).mono ?_);rintro e wb ⟨rfl,hbb⟩;have SB:=jH (SA.out.trans (hbb.mono SA.out.size));clear hbb)
      |(go_at_call 24;(refine(HDv7.out s hsA (by omega) _ SB.out).mono ?_);rintro e wc ⟨hbc,A6,m6,c6,rfl,ho6,hl6⟩;have SC:=jH (SB.out.trans (hbc.mono SB.out.size));have O6:=jH ho6;have L6:=jH hl6;clear hbc ho6 hl6)
      |(go_at_call 25;(refine(HDw7.out s hsA (by omega) _ SC.out).mono ?_);rintro e wd ⟨hbd,A7,m7,c7,rfl,ho7,hl7⟩;have SD:=jH (SC.out.trans (hbd.mono SC.out.size));have HS7:=jH (HSm.out _ (HDd.out s).1 (HDd.out s).2 A6 A7 m6 c6 m7 c7 _ _ wd (O6.out.kept hbd (jR _)) L6.out ho7 hl7);clear hbd ho7 hl7))
     clear hbi O6 L6 SA SB SC
     obtain⟨⟨x1,x2⟩,hx⟩: ∃x,x=F5 s:=⟨_,rfl⟩
     obtain⟨⟨y1,y2⟩,hy⟩: ∃x,x=RD s:=⟨_,rfl⟩
     rw[←hx,←hy]
     clear hx hy
     have n1:(x1 !=x1)=false:=by simp
     have n2:(x2 !=x2)=false:=by simp
     have n3:(y2 !=y2)=false:=by simp
     go_wp2_with(first
      |(go_at_call 19;(refine HS7.out.mono ?_);rintro e we ⟨rfl,hbe⟩;have SE:=jH (SD.out.trans (hbe.mono SD.out.size));clear hbe)
      |fail)
     clear n1 n2 n3 HS7 SD
     go_loopw [37] (fun kv wr=> ∃y:Nat,y≤11∧kv= .int .i64 (y:Int)∧Hid (Below w7.heap.size w7 wr)) (fun kv _=>11-natOf kv)
     case atStart=>exact⟨0,by omega,rfl,SE⟩
     case round=>
      clear SE
      obtain⟨y,hy11,rfl,hby⟩:=hrel
      have hwy:IntKind.i64.wrap ((y:Int)+1)=((y+1:Nat):Int):=by rw[IntKind.wrap_i64];omega
      by_cases hy10:y<10
      ·have ds3:decide ((y:Int)≤10)=true:=by simp;omega
       have ds4:decide ((y:Int)<10)=true:=by simp;omega
       have hle3:(y:Int)≤10:=by omega
       have hlt3:(y:Int)<10:=by omega
       obtain⟨vl,hvl⟩: ∃vl,vl=valueLs.getD y []:=⟨_,rfl⟩
       have cV:=HVl.out y hy10 _ hby.out
       obtain⟨hvA,hvl2⟩:=value_len y hy10
       rw[←hvl]at cV hvA hvl2
       clear hvl
       have hpA:AllB (s++ [61]++vl):=fun z hz=>by
        rcases List.mem_append.1 hz with hz|hz
        ·rcases List.mem_append.1 hz with hz|hz
         ·exact hsA z hz
         ·rw[List.mem_singleton]at hz;omega
        ·exact hvA z hz
       have hpl3:(s++ [61]++vl).length≤400:=by simp;omega
       have r1:=Fc.add_run s [61] (by simp;omega)
       have r2:=Fc.add_run (s++ [61]) vl (by simp;omega)
       rw[←T_one]at r1
       obtain⟨tx,htx⟩: ∃tx,tx=s++ [61]++vl:=⟨_,rfl⟩
       rw[←htx]at hpA hpl3 r2
       clear htx
       generalize T (s++ [61])=S61 at*
       have hml:tx.length≤maxLen:=by unfold maxLen;omega
       go_upto_region 42 with(first
        |((with_reducible apply at_slot 200);refine wpList_textc rfl (.tmp 199) rfl tx hpA tx.length rfl hml _ rfl rfl ?_;intro c8 w8 hc8 hd8 hb8 hbl8;have B8:=jH hb8;have S8:=jH (hby.out.trans (hbl8.mono hby.out.size));clear hb8 hbl8)
        |fail)
       have HGa:=jH (HGv7.out _ tx tx.length c8 _ S8.out B8.out rfl (by omega) hc8 hd8)
       have HGb:=jH fun(W:World) (hW:Below w8.heap.size w8 W)=>HGw7.out _ tx tx.length c8 W (S8.out.trans (hW.mono S8.out.size)) (B8.out.below hW (jR _)) rfl (by omega) hc8 hd8
       clear r1 r2 cV
       obtain⟨⟨x1,x2⟩,hx⟩: ∃x,x=F4 tx:=⟨_,rfl⟩
       rw[←hx]at HGa HGb
       clear hx
       have n1:(x1 !=x1)=false:=by simp
       have n2:(x2 !=x2)=false:=by simp
       go_wp2_with(first
        |(go_at_call 26;(refine HGa.out.mono ?_);rintro e wx ⟨rfl,hbx⟩;have SX:=jH (S8.out.trans (hbx.mono S8.out.size));have HGc:=jH (HGb.out _ hbx);clear hbx)
        |(go_at_call 27;(refine HGc.out.mono ?_);rintro e wz ⟨rfl,hbz⟩;have SZ:=jH (SX.out.trans (hbz.mono SX.out.size));clear hbz)
        |fail)
       go_roundw
       case rel=>exact⟨y+1,by omega,by first|rfl|(congr 1<;>omega),SZ⟩
       case measure=>simp[natOf];omega
      ·by_cases hy9:y=10
       ·have ds3:decide ((y:Int)≤10)=true:=by simp;omega
        have ds4:decide ((y:Int)<10)=false:=by simp;omega
        have hle3:(y:Int)≤10:=by omega
        have hge3: ¬(y:Int)<10:=by omega
        have HGa:=jH (HGv7.out _ pp np cp _ hby.out (HPa7.out _ hby.out) hpl (by omega) hcp hcpm)
        have HGb:=jH fun(W:World) (hW:Below w7.heap.size w7 W)=>HGw7.out _ pp np cp W hW (HPa7.out W hW) hpl (by omega) hcp hcpm
        obtain⟨⟨x1,x2⟩,hx⟩: ∃x,x=F4 pp:=⟨_,rfl⟩
        rw[←hx]at HGa HGb
        clear hx
        have n1:(x1 !=x1)=false:=by simp
        have n2:(x2 !=x2)=false:=by simp
        go_wp2_with(first
         |(go_at_call 26;(refine HGa.out.mono ?_);rintro e wx ⟨rfl,hbx⟩;have SX:=jH (hby.out.trans (hbx.mono hby.out.size));clear hbx)
         |(go_at_call 27;(refine(HGb.out _ SX.out).mono ?_);rintro e wz ⟨rfl,hbz⟩;have SZ:=jH (SX.out.trans (hbz.mono SX.out.size));clear hbz)
         |fail)
        go_roundw
        case rel=>exact⟨y+1,by omega,by first|rfl|(congr 1<;>omega),SZ⟩
        case measure=>simp[natOf];omega
       ·have ds3:decide ((y:Int)≤10)=false:=by simp;omega
        have hgt3: ¬(y:Int)≤10:=by omega
        go_wp2_with fail
        go_roundw
        case rel=>exact⟨i+1,by omega,by first|rfl|(congr 1<;>omega),hby⟩
        case measure=>simp[natOf];omega
    ·by_cases hi:i=6
     ·have ds1:decide ((i:Int)≤6)=true:=by simp;omega
      have ds2:decide ((i:Int)<6)=false:=by simp;omega
      have hle1:(i:Int)≤6:=by omega
      have hge1: ¬(i:Int)<6:=by omega
      go_upto_region 34 with(first
       |(go_at_call 22;(refine(HFv7.out nm hnm (by omega) _ hbi.out).mono ?_);rintro e wa ⟨rfl,hba⟩;have SA:=jH (hbi.out.trans (hba.mono hbi.out.size));clear hba)
       |(go_at_call 23;(refine(HFw7.out nm hnm (by omega) _ SA.out).mono ?_);rintro e wb ⟨rfl,hbb⟩;have SB:=jH (SA.out.trans (hbb.mono SA.out.size));clear hbb)
       |(go_at_call 24;(refine(HDv7.out nm hnm (by omega) _ SB.out).mono ?_);rintro e wc ⟨hbc,A6,m6,c6,rfl,ho6,hl6⟩;have SC:=jH (SB.out.trans (hbc.mono SB.out.size));have O6:=jH ho6;have L6:=jH hl6;clear hbc ho6 hl6)
       |(go_at_call 25;(refine(HDw7.out nm hnm (by omega) _ SC.out).mono ?_);rintro e wd ⟨hbd,A7,m7,c7,rfl,ho7,hl7⟩;have SD:=jH (SC.out.trans (hbd.mono SC.out.size));have HS7:=jH (HSm.out _ (HDd.out nm).1 (HDd.out nm).2 A6 A7 m6 c6 m7 c7 _ _ wd (O6.out.kept hbd (jR _)) L6.out ho7 hl7);clear hbd ho7 hl7))
      clear hbi O6 L6 SA SB SC
      obtain⟨⟨x1,x2⟩,hx⟩: ∃x,x=F5 nm:=⟨_,rfl⟩
      obtain⟨⟨y1,y2⟩,hy⟩: ∃x,x=RD nm:=⟨_,rfl⟩
      rw[←hx,←hy]
      clear hx hy
      have n1:(x1 !=x1)=false:=by simp
      have n2:(x2 !=x2)=false:=by simp
      have n3:(y2 !=y2)=false:=by simp
      go_wp2_with(first
       |(go_at_call 19;(refine HS7.out.mono ?_);rintro e we ⟨rfl,hbe⟩;have SE:=jH (SD.out.trans (hbe.mono SD.out.size));clear hbe)
       |fail)
      clear n1 n2 n3 HS7 SD
      go_loopw [37] (fun kv wr=> ∃y:Nat,y≤11∧kv= .int .i64 (y:Int)∧Hid (Below w7.heap.size w7 wr)) (fun kv _=>11-natOf kv)
      case atStart=>exact⟨0,by omega,rfl,SE⟩
      case round=>
       clear SE
       obtain⟨y,hy11,rfl,hby⟩:=hrel
       have hwy:IntKind.i64.wrap ((y:Int)+1)=((y+1:Nat):Int):=by rw[IntKind.wrap_i64];omega
       by_cases hy10:y<10
       ·have ds3:decide ((y:Int)≤10)=true:=by simp;omega
        have ds4:decide ((y:Int)<10)=true:=by simp;omega
        have hle3:(y:Int)≤10:=by omega
        have hlt3:(y:Int)<10:=by omega
        obtain⟨vl,hvl⟩: ∃vl,vl=valueLs.getD y []:=⟨_,rfl⟩
        have cV:=HVl.out y hy10 _ hby.out
        obtain⟨hvA,hvl2⟩:=value_len y hy10
        rw[←hvl]at cV hvA hvl2
        clear hvl
        have hpA:AllB (nm++ [61]++vl):=fun z hz=>by
         rcases List.mem_append.1 hz with hz|hz
         ·rcases List.mem_append.1 hz with hz|hz
          ·exact hnm z hz
          ·rw[List.mem_singleton]at hz;omega
         ·exact hvA z hz
        have hpl3:(nm++ [61]++vl).length≤400:=by simp;omega
        have r1:=Fc.add_run nm [61] (by simp;omega)
        have r2:=Fc.add_run (nm++ [61]) vl (by simp;omega)
        rw[←T_one]at r1
        obtain⟨tx,htx⟩: ∃tx,tx=nm++ [61]++vl:=⟨_,rfl⟩
        rw[←htx]at hpA hpl3 r2
        clear htx
        generalize T (nm++ [61])=S61 at*
        have hml:tx.length≤maxLen:=by unfold maxLen;omega
        go_upto_region 42 with(first
         |((with_reducible apply at_slot 200);refine wpList_textc rfl (.tmp 199) rfl tx hpA tx.length rfl hml _ rfl rfl ?_;intro c8 w8 hc8 hd8 hb8 hbl8;have B8:=jH hb8;have S8:=jH (hby.out.trans (hbl8.mono hby.out.size));clear hb8 hbl8)
         |fail)
        have HGa:=jH (HGv7.out _ tx tx.length c8 _ S8.out B8.out rfl (by omega) hc8 hd8)
        have HGb:=jH fun(W:World) (hW:Below w8.heap.size w8 W)=>HGw7.out _ tx tx.length c8 W (S8.out.trans (hW.mono S8.out.size)) (B8.out.below hW (jR _)) rfl (by omega) hc8 hd8
        clear r1 r2 cV
        obtain⟨⟨x1,x2⟩,hx⟩: ∃x,x=F4 tx:=⟨_,rfl⟩
        rw[←hx]at HGa HGb
        clear hx
        have n1:(x1 !=x1)=false:=by simp
        have n2:(x2 !=x2)=false:=by simp
        go_wp2_with(first
         |(go_at_call 26;(refine HGa.out.mono ?_);rintro e wx ⟨rfl,hbx⟩;have SX:=jH (S8.out.trans (hbx.mono S8.out.size));have HGc:=jH (HGb.out _ hbx);clear hbx)
         |(go_at_call 27;(refine HGc.out.mono ?_);rintro e wz ⟨rfl,hbz⟩;have SZ:=jH (SX.out.trans (hbz.mono SX.out.size));clear hbz)
         |fail)
        go_roundw
        case rel=>exact⟨y+1,by omega,by first|rfl|(congr 1<;>omega),SZ⟩
        case measure=>simp[natOf];omega
       ·by_cases hy9:y=10
        ·have ds3:decide ((y:Int)≤10)=true:=by simp;omega
         have ds4:decide ((y:Int)<10)=false:=by simp;omega
         have hle3:(y:Int)≤10:=by omega
         have hge3: ¬(y:Int)<10:=by omega
         have HGa:=jH (HGv7.out _ pp np cp _ hby.out (HPa7.out _ hby.out) hpl (by omega) hcp hcpm)
         have HGb:=jH fun(W:World) (hW:Below w7.heap.size w7 W)=>HGw7.out _ pp np cp W hW (HPa7.out W hW) hpl (by omega) hcp hcpm
         obtain⟨⟨x1,x2⟩,hx⟩: ∃x,x=F4 pp:=⟨_,rfl⟩
         rw[←hx]at HGa HGb
         clear hx
         have n1:(x1 !=x1)=false:=by simp
         have n2:(x2 !=x2)=false:=by simp
         go_wp2_with(first
          |(go_at_call 26;(refine HGa.out.mono ?_);rintro e wx ⟨rfl,hbx⟩;have SX:=jH (hby.out.trans (hbx.mono hby.out.size));clear hbx)
          |(go_at_call 27;(refine(HGb.out _ SX.out).mono ?_);rintro e wz ⟨rfl,hbz⟩;have SZ:=jH (SX.out.trans (hbz.mono SX.out.size));clear hbz)
          |fail)
         go_roundw
         case rel=>exact⟨y+1,by omega,by first|rfl|(congr 1<;>omega),SZ⟩
         case measure=>simp[natOf];omega
        ·have ds3:decide ((y:Int)≤10)=false:=by simp;omega
         have hgt3: ¬(y:Int)≤10:=by omega
         go_wp2_with fail
         go_roundw
         case rel=>exact⟨i+1,by omega,by first|rfl|(congr 1<;>omega),hby⟩
         case measure=>simp[natOf];omega
     ·have ds1:decide ((i:Int)≤6)=false:=by simp;omega
      have hgt1: ¬(i:Int)≤6:=by omega
      clear HFv7 HFw7 HDv7 HDw7 HGv7 HGw7 HSm HNm HVl HPa7
      by_cases h4:sl=4
      ·subst h4
       go_wp2_with(first
        |(go_at_call 17;(refine(HLs7.out _ hbi.out).mono ?_);rintro e wz ⟨vz,xz,rfl,hxz,hbz⟩;have SZ:=jH (hbi.out.trans (hbz.mono hbi.out.size));clear hbz)
        |fail)
       go_ret
       exact⟨rfl,Bf.out _ SZ.out⟩
      by_cases h5:sl=5
      ·subst h5
       go_wp2_with(first
        |(go_at_call 17;(refine(HLs7.out _ hbi.out).mono ?_);rintro e wz ⟨vz,xz,rfl,hxz,hbz⟩;have SZ:=jH (hbi.out.trans (hbz.mono hbi.out.size));clear hbz)
        |fail)
       go_ret
       exact⟨rfl,Bf.out _ SZ.out⟩
      have e4:(sl==4)=false:=by simpa using h4
      have e5:(sl==5)=false:=by simpa using h5
      go_wp2_with(first
       |(go_at_call 17;(refine(HLs7.out _ hbi.out).mono ?_);rintro e wz ⟨vz,xz,rfl,hxz,hbz⟩;have SZ:=jH (hbi.out.trans (hbz.mono hbi.out.size));obtain rfl:=(hxz.resolve_left h4).resolve_left h5;clear hbz)
       |fail)
      go_ret
      exact⟨rfl,Bf.out _ SZ.out⟩
 ·have HOp:=jH fun(W:World) (hW:Bytes W A l)=>open_bad l A n c W hW hL (by omega) hcap.1 hz
  have HQ:=jH fun(W:World) (hW:Bytes W A l)=>ropen_bad l A n c W hW hL (by omega) hcap.1 hz
  have d2:(hcode l n !=0)=true:=by simpa using hz
  have d3:(hcode l n !=hcode l n)=false:=by simp
  generalize hcode l n=cd at*
  clear hb
  go_wp2_with(first
   |(go_at_call 15;((refine(HOp.out _ HB.out).mono ?_);rintro e w4 ⟨rfl,hb4⟩;have B4:=jH (B3.out.trans (hb4.mono B3.out.size));have HB4:=jH (HB.out.below hb4 (jR _));clear hb4))
   |(go_at_call 16;((refine(HQ.out _ HB4.out).mono ?_);rintro e w5 ⟨rfl,hb5⟩;have B5:=jH (B4.out.trans (hb5.mono B4.out.size));clear hb5))
   |fail)
  go_ret
  exact⟨rfl,B5.out⟩
theorem walk (a:Option Addr)(len cap:Nat)(z:List Int)(P:Option Addr)(k kc:Nat)(zp:List Int)(y:Int)(Pa:Option Addr)(np cp:Nat)(zb:List Int)(S:ByteArray)(sl:Int)(w:World)(h:IsRow .i64 w a len cap z)(hp:IsRow .i64 w P k kc zp)(hy:(Lit.int .u8 y).wf=true)(hb:IsRow .u8 w Pa np cp zb)(hS:S.size≤maxLen)(hsl:(Lit.int .i64 sl).wf=true):
 Calls Tryz.prog 3 #[.slice a len cap,.slice P k kc,.int .u8 y,.slice Pa np cp,.string S,.int .i64 sl] w fun e w'=>e= .returned (.bool true)∧Below w.heap.size w w':=by
 obtain⟨hI,h2,h3⟩:=ints_in h
 obtain⟨hP,h4,h5⟩:=ints_in hp
 obtain⟨hpb,hpl,hcp,hcpm,_⟩:=hb.bytes
 have hy0:0≤y∧y<256:=by
  simp[Lit.wf,IntKind.min,IntKind.max,IntKind.signed,IntKind.bits]at hy
  omega
 by_cases h1:len≤80
 ·by_cases h6:k≤8
  ·by_cases h7:np≤400
   ·by_cases h8:S.size≤100
    ·have q:=walk_main a len cap _ P k kc _ y Pa np cp _ (num S) sl w hI h1 hP h6 hy0 hpb hpl h7 hcp hcpm (num_all S) (by rw[num_len];exact h8)
     rw[T_num]at q
     exact q
    ·have d1:decide ((80:Int)<(len:Int))=false:=by simp;omega
     have d2:decide ((8:Int)<(k:Int))=false:=by simp;omega
     have d3:decide ((400:Int)<(np:Int))=false:=by simp;omega
     have d4:decide ((100:Int)<(S.size:Int))=true:=by simp;omega
     clear h hp hI hP hb hpb hpl
     go_enter Tryz.func3,Tryz.ntmps3
     go_wp2_with(go_at_call 12;((with_reducible refine(first_chain _).mono ?_);rintro e w1 ⟨rfl,hb1⟩;have B1:=jH hb1;clear hb1))
     go_ret
     exact⟨rfl,B1.out⟩
   ·have d1:decide ((80:Int)<(len:Int))=false:=by simp;omega
    have d2:decide ((8:Int)<(k:Int))=false:=by simp;omega
    have d3:decide ((400:Int)<(np:Int))=true:=by simp;omega
    clear h hp hI hP hb hpb hpl
    go_enter Tryz.func3,Tryz.ntmps3
    go_wp2_with(go_at_call 12;((with_reducible refine(first_chain _).mono ?_);rintro e w1 ⟨rfl,hb1⟩;have B1:=jH hb1;clear hb1))
    go_ret
    exact⟨rfl,B1.out⟩
  ·have d1:decide ((80:Int)<(len:Int))=false:=by simp;omega
   have d2:decide ((8:Int)<(k:Int))=true:=by simp;omega
   clear h hp hI hP hb hpb hpl
   go_enter Tryz.func3,Tryz.ntmps3
   go_wp2_with(go_at_call 12;((with_reducible refine(first_chain _).mono ?_);rintro e w1 ⟨rfl,hb1⟩;have B1:=jH hb1;clear hb1))
   go_ret
   exact⟨rfl,B1.out⟩
 ·have d1:decide ((80:Int)<(len:Int))=true:=by simp;omega
  clear h hp hI hP hb hpb hpl
  go_enter Tryz.func3,Tryz.ntmps3
  go_wp2_with(go_at_call 12;((with_reducible refine(first_chain _).mono ?_);rintro e w1 ⟨rfl,hb1⟩;have B1:=jH hb1;clear hb1))
  go_ret
  exact⟨rfl,B1.out⟩
end ChainSaysW
end Go.Proofs.YtjecmgkmcfkcjaaGreat
