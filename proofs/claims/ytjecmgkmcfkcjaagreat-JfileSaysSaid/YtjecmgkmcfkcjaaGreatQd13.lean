/-
  Texts beneath the proof.
-/
import Derived.Test.YtjecmgkmcfkcjaaGreatQd12
set_option linter.unusedVariables false
set_option linter.unusedSimpArgs false
set_option maxRecDepth 100000
set_option maxHeartbeats 4000000
open Go.ChangeShapes Go.WideShapes Go.ChangeAt Go.RowKit
namespace Go.Proofs.YtjecmgkmcfkcjaaGreat
namespace Yk
open Bytes8 Blk8 Own8 OwnE Ob Oc Od Oe Rows2 Kf Yc Yd
def NumsTold (ls:List Int)(z:Nat)(W:World)(e:Ending)(w':World):Prop:= ∃A c,e= .returned (.slice A z c)∧Own w' W.heap.size A z c (nums ls)∧Below W.heap.size W w'
theorem rnums_lit (ls:List Int)(k z:Nat)(N:Array Value)(hN:(ls.map (Value.int .u64)).toArray=N)(W:World)(g:Nat)(hg:W.heap.size=g)(hv:I64 ls)(hk:ls.length=k)(hkm:k≤1000)(hz:8*k=z):
 Calls Tryz.prog 144 #[.slice (some ⟨g,0,none⟩) k k] (W.alloc (.cells N 40)) (NumsTold ls z W):=by
 subst hN hg hz
 have h:=rnums_any W.heap.size k k ls 40 _ (Blk.new W _ _) hv hk hkm
 exact h.mono fun e w' ⟨A,c,h1,h2,h3⟩=>⟨A,c,h1,Own.base h2 (by simp),((Below.refl W.heap.size W).alloc (Nat.le_refl _) _).trans (h3.mono (by simp))⟩
theorem rnums_litd (ls:List Int)(k z:Nat)(N:Array Value)(hN:(ls.map (Value.int .u64)).toArray=N)(W:World)(g:Nat)(hg:W.heap.size=g)(hv:I64 ls)(hk:ls.length=k)(hkm:k≤1000)(hz:8*k=z):
 Calls Tryz.prog 144 #[.slice (some ⟨g,0,none⟩) k k] (W.alloc (.cells N 40)).drew (NumsTold ls z W):=
 (rnums_lit ls k z N hN W.drew g hg hv hk hkm hz).mono fun e w' ⟨A,c,h1,h2,h3⟩=>⟨A,c,h1,h2,(Below.refl W.heap.size W).drew.trans h3⟩
theorem I64_one {x:Int}(h:0≤x∧x≤18446744073709551615):I64 [x]:=by intro v hv;simp at hv;subst hv;exact h
theorem I64_two {x y:Int}(h:0≤x∧x≤18446744073709551615)(h2:0≤y∧y≤18446744073709551615):I64 [x,y]:=by intro v hv;simp at hv;rcases hv with rfl|rfl<;>assumption
theorem rputArray_any (x:Int)(A:Option Addr)(n c:Nat)(f:Nat→Int)(w:World)(hi:InInts .u64 w A n f)(hn:n≤50000)(hx:0≤x∧x≤18446744073709551615):
 Calls Tryz.prog 169 #[arrV x A n c] w (Owned (objB 6 (arrB x (ints f n))) (16+(8+8*n)+padN (8+8*n)) w):=by
 have HI:=Lib.hid hi
 have b0:=Lib.hid ((Below.refl w.heap.size w).alloc (Nat.le_refl _) (arrC 238 x A n c))
 have R0:=Lib.hid (show Blk (w.alloc (arrC 238 x A n c)) w.heap.size [.int .u64 x,.slice A n c] 238 from Blk.new w _ _)
 have i0:=R0.out.drew.cell (i:=0) rfl
 have i1:=R0.out.drew.cell (i:=1) rfl
 have PB:=Lib.hid (R0.out.alloc (.cells #[.int .u64 x] 40)).drew
 have pb0:=PB.out.cell (i:=0) rfl
 have pb1:=PB.out.cell (i:=1) rfl
 have HN:=Lib.hid fun(W:World) (g:Nat) (hg:W.heap.size=g)=>rnums_litd [x] 1 8 _ rfl W g hg (I64_one hx) rfl (by decide) rfl
 dsimp only[List.map]at HN
 have HN2:=Lib.hid fun(W:World) (hb:Below w.heap.size w W)=>rnums_in A n c f W (HI.out.below hb) (by omega)
 have HP:=Lib.hid fun(B:Option Addr) (cb:Nat) (W:World) (base:Nat) (ho:Own W base B (8+8*n) cb (nums [x]++nums (ints f n)))=>rput_yes 6 B _ (8+8*n) cb W (by decide) ho.bytes ho.2.1 (by omega)
 unfold Owned at HP
 unfold NumsTold at HN
 unfold arrB
 generalize padN (8+8*n)=pn at*
 clear hi
 go_enter Tryz.func169,Tryz.ntmps169
 go_wp2
 go_region_held3 (fun W=>InsideA w.heap.size W x A n c) (first|(with_reducible exact⟨i0,i1⟩)|(with_reducible exact⟨pb0,pb1⟩)|(with_reducible exact⟨q0,q1⟩)|(with_reducible exact⟨r0,r1⟩)|(with_reducible exact⟨s0,s1⟩)|(with_reducible exact⟨t0,t1⟩)|go_keep) (first
  |(refine step_append_bytes (o:=⟨some 10,_,_,_,_,_⟩) rfl (.tmp 6) (.tmp 9) rfl (w.heap.size+1) A1 8 c1 (nums [x]) rfl O1.out A2 (8*n) c2 (nums (ints f n)) rfl O2.out.bytes (nums_ints_len f n) (by omega) ?_;intro A3 c3 w3 ho3 hb3;have O3:=Lib.hid ho3;have B3:=Lib.hid (B2.out.trans hb3);have R3:=Lib.hid (R0.out.below B3.out (Nat.lt_succ_self _));have s0:=R3.out.cell (i:=0) rfl;have s1:=R3.out.cell (i:=1) rfl;clear ho3 hb3)
  |(go_at_call 144;(with_reducible refine(HN.out _ _ (by simp)).mono ?_);rintro e w1 ⟨A1,c1,rfl,ho1,hb1⟩;have O1':=Lib.hid (Own.base ho1 (b2:=w.heap.size+1) (by simp));have B1:=Lib.hid (show Below (w.heap.size+1) (w.alloc (arrC 238 x A n c)) w1 from Below.mono hb1 (by simp));have R1:=Lib.hid (R0.out.below B1.out (Nat.lt_succ_self _));have q0:=R1.out.cell (i:=0) rfl;have q1:=R1.out.cell (i:=1) rfl;clear ho1 hb1)
  |(go_at_call 144;(with_reducible refine(HN2.out w1 (b0.out.trans (B1.out.mono (Nat.le_succ _)))).mono ?_);rintro e w2 ⟨A2,c2,rfl,ho2,hb2⟩;have O2:=Lib.hid ho2;have O1:=Lib.hid (O1'.out.kept hb2 (Nat.le_refl _));have B2:=Lib.hid (B1.out.trans (hb2.mono (by have:=B1.out.size;simpa using this)));have R2:=Lib.hid (R0.out.below B2.out (Nat.lt_succ_self _));have r0:=R2.out.cell (i:=0) rfl;have r1:=R2.out.cell (i:=1) rfl;clear ho2 hb2)
  |(go_at_call 167;(with_reducible refine(HP.out _ _ _ _ O3.out).mono ?_);rintro e w4 ⟨A4,c4,rfl,ho4,hb4⟩;have O4:=Lib.hid ho4;have B4:=Lib.hid hb4;have R4:=Lib.hid (R3.out.below hb4 R3.out.lt);have t0:=R4.out.cell (i:=0) rfl;have t1:=R4.out.cell (i:=1) rfl;clear ho4 hb4))
 go_wp2
 go_ret
 have Bw:=b0.out.trans (B3.out.mono (Nat.le_succ _))
 exact⟨A4,c4,rfl,Own.base O4.out Bw.size,Bw.trans (B4.out.mono Bw.size)⟩
theorem rputTable_at (kd:Int)(A:Option Addr)(n c:Nat)(f g:Nat→Int)(w:World)(h:kd=4∨kd=5)(hi:In2 w A n f g)(hn:n≤50000):
 Calls Tryz.prog 142 #[.int .i64 kd,.slice A n c] w (Owned (objB kd (nums (prs f g n))) (16+16*n+padN (16*n)) w):=by
 have HI:=Lib.hid hi
 have HP:=Lib.hid fun(B:Option Addr) (cb:Nat) (W:World) (ho:Own W w.heap.size B (16*n) cb (nums (prs f g n)))=>rput_yes kd B _ (16*n) cb W (by omega) ho.bytes ho.2.1 (by omega)
 unfold Owned at HP
 have HEs:=Lib.hid fun k:Nat=>nums_prs f g k
 generalize padN (16*n)=pn at*
 clear hi
 rcases h with rfl|rfl
 all_goals
  go_enter Tryz.func142,Tryz.ntmps142
  go_wp2
  go_loopw [5,6] (fun z i wr=> ∃(k:Nat) (A':Option Addr) (c':Nat),k≤n∧z= .slice A' (16*k) c'∧i= .int .i64 (k:Int)∧Hid (Own wr w.heap.size A' (16*k) c' (nums (prs f g k)))∧Hid (Below w.heap.size w wr)) (fun _ i _=>n-(intOf i).toNat)
  case atStart=>exact⟨0,none,0,Nat.zero_le _,rfl,rfl,Own.nil w _ (Nat.le_refl _),Lib.hid (Below.refl _ _)⟩
  case round=>
   obtain⟨k,A',c',hk,rfl,rfl,ho,hb⟩:=hrel
   have hsz:=hb.out.size
   by_cases hlt:k<n
   ·obtain⟨b,off,rfl,hlow,c0w,c1w,f01,g01⟩:=HI.out k hlt
    have c0:=(hb.out.cell (p:=⟨b,off+k*2,none⟩) hlow).trans c0w
    have c1':=(hb.out.cell (p:=⟨b,off+k*2+1,none⟩) hlow).trans c1w
    have hblt:b<wr.heap.size:=Nat.lt_of_lt_of_le hlow hsz
    have HLo:=Lib.hid hlow
    have HEk:=Lib.hid (HEs.out k)
    clear c0w c1w hlow
    have HN:=Lib.hid fun(W:World) (g1:Nat) (hg:W.heap.size=g1)=>rnums_litd [f k,g k] 2 16 _ rfl W g1 hg (I64_two f01 g01) rfl (by decide) rfl
    dsimp only[List.map]at HN
    unfold NumsTold at HN
    generalize f k=X at*
    generalize g k=Y at*
    have u0:wr.drew.cell? ⟨b,off+k*2,none⟩=some (.int .u64 X):=c0
    have u1:wr.drew.cell? ⟨b,off+k*2+1,none⟩=some (.int .u64 Y):=c1'
    have hk0:(0:Int)≤(k:Int):=by omega
    have hkn:(k:Int)<(n:Int):=by omega
    have HBl:=Lib.hid hblt
    go_wp2
    go_region_held3 (fun W=>W.cell? ⟨b,off+k*2,none⟩=some (.int .u64 X)∧W.cell? ⟨b,off+k*2+1,none⟩=some (.int .u64 Y)) (first|(with_reducible exact⟨u0,u1⟩)|(with_reducible exact⟨q0,q1⟩)|(with_reducible exact⟨r0,r1⟩)|go_keep) (first
     |(go_at_call 144;(with_reducible refine(HN.out _ _ (by simp)).mono ?_);rintro e w2 ⟨A2,c2,rfl,ho2,hb2⟩;have O2:=Lib.hid ho2;have O3:=Lib.hid (ho.out.kept hb2 (Nat.le_refl _));have B2:=Lib.hid (hb.out.trans (hb2.mono hsz));have q0:=(hb2.cell (p:=⟨b,off+k*2,none⟩) HBl.out).trans u0;have q1:=(hb2.cell (p:=⟨b,off+k*2+1,none⟩) HBl.out).trans u1;clear ho2 hb2)
     |(refine step_append_bytes (o:=⟨some 32,_,_,_,_,_⟩) rfl (.tmp 19) (.tmp 31) rfl w.heap.size A' (16*k) c' _ rfl O3.out A2 16 c2 (nums [X,Y]) rfl O2.out.bytes (by rw[nums_len];rfl) (by omega) ?_;intro A3 c3 w3 ho3 hb3;have HO3:=Lib.hid ho3;have HB3:=Lib.hid (B2.out.trans hb3);have r0:=(hb3.cell (p:=⟨b,off+k*2,none⟩) HLo.out).trans q0;have r1:=(hb3.cell (p:=⟨b,off+k*2+1,none⟩) HLo.out).trans q1;clear ho3 hb3))
    all_goals
     go_wp2
     go_roundw
     case rel=>
      refine⟨k+1,A3,c3,by omega,rfl,by go_num,?_,HB3⟩
      rw[HEk.out]
      exact HO3
     case measure=>simp[intOf];omega
   ·obtain rfl:k=n:=by omega
    go_wp2_with(go_at_call 167;(with_reducible refine(HP.out _ _ _ ho.out).mono ?_);rintro e w5 ⟨A5,c5,rfl,ho5,hb5⟩;have HO5:=Lib.hid ho5;have HB5:=Lib.hid hb5;clear ho5 hb5)
    go_ret
    exact⟨A5,c5,rfl,Own.base HO5.out hb.out.size,hb.out.trans (HB5.out.mono hb.out.size)⟩
theorem rputEntry_any (s r m:Int)(K:Nat→Int)(x:Int)(A:Option Addr)(n c:Nat)(f g:Nat→Int)(w:World)(hi:In2 w A n f g)(hn:n≤50000)(hK:IdOk K)(hs:0≤s∧s≤18446744073709551615)(hr:0≤r∧r≤18446744073709551615)(hm:0≤m∧m≤18446744073709551615)(hx:0≤x∧x≤18446744073709551615):
 Calls Tryz.prog 114 #[entV s r m K x A n c] w (Owned (objB 3 (entB s r m K x (prs f g n))) (16+(48+16*n)+padN (48+16*n)) w):=by
 have HI:=Lib.hid hi
 have b0:=Lib.hid ((Below.refl w.heap.size w).alloc (Nat.le_refl _) (entC 205 s r m K x A n c))
 have R0:=Lib.hid (show Blk (w.alloc (entC 205 s r m K x A n c)) w.heap.size (entL s r m K x A n c) 205 from Blk.new w _ _)
 have hI3:I64 [s,r,m]:=by intro v hv;simp at hv;rcases hv with rfl|rfl|rfl<;>assumption
 have i0:=R0.out.drew.cell (i:=0) rfl
 have i1:=R0.out.drew.cell (i:=1) rfl
 have i2:=R0.out.drew.cell (i:=2) rfl
 have PB:=Lib.hid (R0.out.alloc (.cells #[.int .u64 s,.int .u64 r,.int .u64 m] 40)).drew
 have pb0:=PB.out.cell (i:=0) rfl
 have pb1:=PB.out.cell (i:=1) rfl
 have pb2:=PB.out.cell (i:=2) rfl
 have HLt:=Lib.hid (Nat.lt_succ_self w.heap.size)
 have HN:=Lib.hid fun(W:World) (g:Nat) (hg:W.heap.size=g)=>rnums_litd [s,r,m] 3 24 _ rfl W g hg hI3 rfl (by decide) rfl
 have HNx:=Lib.hid fun(W:World) (g:Nat) (hg:W.heap.size=g)=>rnums_lit [x] 1 8 _ rfl W g hg (I64_one hx) rfl (by decide) rfl
 dsimp only[List.map]at HN HNx
 unfold NumsTold at HN HNx
 have HEs:=Lib.hid fun k:Nat=>show entB s r m K x (prs f g (k+1))=entB s r m K x (prs f g k)++nums [f k,g k]by unfold entB;rw[nums_prs];simp
 have HP:=Lib.hid fun(B:Option Addr) (cb:Nat) (W:World) (ho:Own W (w.heap.size+1) B (48+16*n) cb (entB s r m K x (prs f g n)))=>rput_yes 3 B _ (48+16*n) cb W (by decide) ho.bytes ho.2.1 (by omega)
 unfold Owned at HP
 have hcat:nums [s,r,m]++idL K++nums [x]=entB s r m K x (prs f g 0):=by unfold entB;rw[prs_zero,nums_nil,List.append_nil]
 have HCat:=Lib.hid hcat
 generalize padN (48+16*n)=pn at*
 clear hi hcat hI3
 go_enter Tryz.func114,Tryz.ntmps114
 go_wp2
 go_region_held3 (fun W=>W.cell? ⟨w.heap.size,0,none⟩=some (.int .u64 s)∧W.cell? ⟨w.heap.size,1,none⟩=some (.int .u64 r)∧W.cell? ⟨w.heap.size,2,none⟩=some (.int .u64 m)) (first|(with_reducible exact⟨i0,i1,i2⟩)|(with_reducible exact⟨pb0,pb1,pb2⟩)|(with_reducible exact⟨q0,q1,q2⟩)|(with_reducible exact⟨r0,r1,r2⟩)|go_keep) (first
  |(go_at_call 144;(with_reducible refine(HN.out _ _ (by simp)).mono ?_);rintro e w1 ⟨A1,c1,rfl,ho1,hb1⟩;have O1:=Lib.hid (Own.base ho1 (b2:=w.heap.size+1) (by simp));have B1:=Lib.hid (show Below (w.heap.size+1) (w.alloc (entC 205 s r m K x A n c)) w1 from Below.mono hb1 (by simp));have R1:=Lib.hid (R0.out.below B1.out HLt.out);have HId:=Lib.hid (ent_id R1.out hK);have q0:=R1.out.cell (i:=0) rfl;have q1:=R1.out.cell (i:=1) rfl;have q2:=R1.out.cell (i:=2) rfl;clear ho1 hb1)
  |(refine step_append_bytes (o:=⟨some 15,_,_,_,_,_⟩) rfl (.tmp 12) (.tmp 14) rfl (w.heap.size+1) A1 24 c1 (nums [s,r,m]) rfl O1.out (some ⟨w.heap.size,3,none⟩) 16 16 (idL K) rfl HId.out rfl (by decide) ?_;intro A2 c2 w2 ho2 hb2;have HO2:=Lib.hid ho2;have HB2:=Lib.hid (B1.out.trans hb2);have R2:=Lib.hid (R0.out.below HB2.out HLt.out);have r0:=R2.out.cell (i:=0) rfl;have r1:=R2.out.cell (i:=1) rfl;have r2:=R2.out.cell (i:=2) rfl;have j19:=R2.out.cell (i:=19) rfl;clear ho2 hb2))
 clear i0 i1 i2 pb0 pb1 pb2 q0 q1 q2 r0 r1 r2
 go_wp2_with(first
  |(go_at_call 144;(with_reducible refine(HNx.out _ _ (by simp)).mono ?_);rintro e w3 ⟨A3,c3,rfl,ho3,hb3⟩;have O3:=Lib.hid ho3;have HO2k:=Lib.hid (HO2.out.kept hb3 (Nat.le_refl _));have HB3:=Lib.hid (HB2.out.trans (hb3.mono (by have:=HB2.out.size;simpa using this)));clear ho3 hb3)
  |(at_builtin;refine wpList_append_bytes rfl (.tmp 16) (.tmp 20) rfl (w.heap.size+1) A2 40 c2 _ rfl HO2k.out A3 8 c3 (nums [x]) rfl O3.out.bytes (by rw[nums_len];rfl) (by decide) ?_;intro A4 c4 w4 ho4 hb4;rw[HCat.out]at ho4;have HO4:=Lib.hid ho4;have HB4:=Lib.hid (HB3.out.trans hb4);have R4:=Lib.hid (R0.out.below HB4.out HLt.out);have k20:=R4.out.cell (i:=20) rfl;clear ho4 hb4))
 go_loopw [3,4] (fun z i wr=> ∃(k:Nat) (A':Option Addr) (c':Nat),k≤n∧z= .slice A' (48+16*k) c'∧i= .int .i64 (k:Int)∧Hid (Own wr (w.heap.size+1) A' (48+16*k) c' (entB s r m K x (prs f g k)))∧Hid (Below (w.heap.size+1) (w.alloc (entC 205 s r m K x A n c)) wr)) (fun _ i _=>n-(intOf i).toNat)
 case atStart=>exact⟨0,A4,c4,Nat.zero_le _,rfl,rfl,HO4,HB4⟩
 case round=>
  obtain⟨k,A',c',hk,rfl,rfl,ho,hb⟩:=hrel
  have Bw:=Lib.hid (b0.out.trans (hb.out.mono (Nat.le_succ _)))
  have hsz:w.heap.size+1≤wr.heap.size:=by have:=hb.out.size;simpa using this
  have Rr:=Lib.hid (R0.out.below hb.out HLt.out)
  have l20:=Rr.out.cell (i:=20) rfl
  by_cases hlt:k<n
  ·obtain⟨b,off,rfl,hlow,c0w,c1w,f01,g01⟩:=HI.out k hlt
   have c0:=(Bw.out.cell (p:=⟨b,off+k*2,none⟩) hlow).trans c0w
   have c1':=(Bw.out.cell (p:=⟨b,off+k*2+1,none⟩) hlow).trans c1w
   have hblt:b<wr.heap.size:=by omega
   have hlow1:b<w.heap.size+1:=by omega
   have HLo:=Lib.hid hlow1
   have HEk:=Lib.hid (HEs.out k)
   clear c0w c1w hlow hlow1
   have HN2:=Lib.hid fun(W:World) (g1:Nat) (hg:W.heap.size=g1)=>rnums_litd [f k,g k] 2 16 _ rfl W g1 hg (I64_two f01 g01) rfl (by decide) rfl
   dsimp only[List.map]at HN2
   unfold NumsTold at HN2
   generalize f k=X at*
   generalize g k=Y at*
   have u0:wr.drew.cell? ⟨b,off+k*2,none⟩=some (.int .u64 X):=c0
   have u1:wr.drew.cell? ⟨b,off+k*2+1,none⟩=some (.int .u64 Y):=c1'
   have u2:wr.drew.cell? ⟨w.heap.size,20,none⟩=some (.slice (some ⟨b,off,none⟩) n c):=l20
   have Na:=Lib.hid ((Below.refl wr.heap.size wr).alloc (Nat.le_refl _) (.cells #[.int .u64 X,.int .u64 Y] 40)).drew
   have v0:=(Na.out.cell (p:=⟨b,off+k*2,none⟩) hblt).trans c0
   have v1:=(Na.out.cell (p:=⟨b,off+k*2+1,none⟩) hblt).trans c1'
   have v2:=(Na.out.cell (p:=⟨w.heap.size,20,none⟩) (by show w.heap.size<wr.heap.size;omega)).trans l20
   have hk0:(0:Int)≤(k:Int):=by omega
   have hkn:(k:Int)<(n:Int):=by omega
   have HBl:=Lib.hid hblt
   go_wp2
   go_region_held3 (fun W=>W.cell? ⟨b,off+k*2,none⟩=some (.int .u64 X)∧W.cell? ⟨b,off+k*2+1,none⟩=some (.int .u64 Y)∧W.cell? ⟨w.heap.size,20,none⟩=some (.slice (some ⟨b,off,none⟩) n c)) (first|(with_reducible exact⟨u0,u1,u2⟩)|(with_reducible exact⟨v0,v1,v2⟩)|(with_reducible exact⟨q0,q1,q2⟩)|(with_reducible exact⟨r0,r1,r2⟩)|go_keep) (first
    |(go_at_call 144;(with_reducible refine(HN2.out _ _ (by simp)).mono ?_);rintro e w5 ⟨A5,c5,rfl,ho5,hb5⟩;have O5:=Lib.hid ho5;have O6:=Lib.hid (ho.out.kept hb5 (Nat.le_refl _));have B5:=Lib.hid (hb.out.trans (hb5.mono hsz));have q0:=(hb5.cell (p:=⟨b,off+k*2,none⟩) HBl.out).trans u0;have q1:=(hb5.cell (p:=⟨b,off+k*2+1,none⟩) HBl.out).trans u1;have q2:=(hb5.cell (p:=⟨w.heap.size,20,none⟩) (by show w.heap.size<wr.heap.size;omega)).trans u2;clear ho5 hb5)
    |(refine step_append_bytes (o:=⟨some 44,_,_,_,_,_⟩) rfl (.tmp 29) (.tmp 43) rfl (w.heap.size+1) A' (48+16*k) c' _ rfl O6.out A5 16 c5 (nums [X,Y]) rfl O5.out.bytes (by rw[nums_len];rfl) (by omega) ?_;intro A7 c7 w7 ho7 hb7;have HO7:=Lib.hid ho7;have HB7:=Lib.hid (B5.out.trans hb7);have r0:=(hb7.cell (p:=⟨b,off+k*2,none⟩) HLo.out).trans q0;have r1:=(hb7.cell (p:=⟨b,off+k*2+1,none⟩) HLo.out).trans q1;have r2:=(hb7.cell (p:=⟨w.heap.size,20,none⟩) HLt.out).trans q2;clear ho7 hb7))
   all_goals
    go_wp2
    go_roundw
    case rel=>
     refine⟨k+1,A7,c7,by omega,rfl,by go_num,?_,HB7⟩
     rw[HEk.out]
     exact HO7
    case measure=>simp[intOf];omega
  ·obtain rfl:k=n:=by omega
   go_wp2_with(go_at_call 167;(with_reducible refine(HP.out _ _ _ ho.out).mono ?_);rintro e w5 ⟨A5,c5,rfl,ho5,hb5⟩;have HO5:=Lib.hid ho5;have HB5:=Lib.hid hb5;clear ho5 hb5)
   go_ret
   exact⟨A5,c5,rfl,Own.base HO5.out Bw.out.size,Bw.out.trans (HB5.out.mono Bw.out.size)⟩
end Yk
namespace Ye
open Bytes8 Blk8 Own8 OwnE Ob Oc Og Oi Rows2 Kf Yc Yp
def Bodied2 (l:List Int)(a:Nat)(k:Int)(ah ea:Nat)(w:World)(e:Ending)(w':World):Prop:=
 ∃B m cb,e= .returned (.tuple #[.slice B m cb,.int .i64 (ecode l a k ah ea)])∧Below w.heap.size w w'∧(ecode l a k ah ea=0→Bytes w' B (bodyL l a)∧(bodyL l a).length=m∧m≤cb∧cb≤maxLen∧m≤1000000)
theorem bodyOf_e (A:Option Addr)(l:List Int)(n cap a ah ea:Nat)(k:Int)(w:World)(hb:Bytes w A l)(hL:l.length=n)(hn:n≤1000000)(hc:n≤cap)(hcm:cap≤maxLen)(ha:a≤18446744073709551615)(hah:ah≤1000)(hea:ea≤1000)(he0:0<ea)(hmod:ah%ea=0):
 Calls Tryz.prog 211 #[.slice A n cap,.int .u64 (a:Int),.int .i64 k,.int .i64 (ah:Int),.int .i64 (ea:Int)] w (Bodied2 l a k ah ea w):=by
 have HR:=Lib.hid (read_any A l n cap a w hb hL hn hc hcm ha)
 unfold FrTold at HR
 unfold Bodied2
 have hbc:ecode l a k ah ea=if code l a≠0 then code l a else if kindL l a≠k then 4 else if(bodyL l a).length<ah+ea∨(bodyL l a).length%ea≠0 then 5 else 0:=rfl
 by_cases h1:code l a≠0
 ·rw[if_pos h1]at hbc
  rw[hbc]
  clear hbc
  generalize code l a=cd at*
  generalize kindL l a=kd at*
  generalize sizeL l a=s at*
  have HX:Hid (cd≠0):=Lib.hid h1
  clear hb hL
  go_enter Tryz.func211,Tryz.ntmps211
  go_wp2_with(go_at_call 38;(with_reducible refine HR.out.mono ?_);rintro e w2 ⟨rfl,hbel⟩;have HB:=Lib.hid hbel;clear hbel)
  go_ret2
  exact⟨none,0,0,rfl,HB.out.alloc HB.out.size _,fun h=>absurd h HX.out⟩
 have h0:code l a=0:=by omega
 obtain⟨m,hs,hbl,hfit,hbody,_⟩:=body_there hL h0
 rw[if_neg h1,hbl]at hbc
 have hs2:sizeL l a=16+(m:Int):=by omega
 rw[h0,hs2]at HR
 by_cases h2:kindL l a≠k
 ·rw[if_pos h2]at hbc
  rw[hbc]
  generalize kindL l a=kd at*
  clear hb hL hbc hs hs2 hbl hbody h1 h0
  go_enter Tryz.func211,Tryz.ntmps211
  go_wp2_with(go_at_call 38;(with_reducible refine HR.out.mono ?_);rintro e w2 ⟨rfl,hbel⟩;have HB:=Lib.hid hbel;clear hbel)
  go_ret2
  exact⟨none,0,0,rfl,HB.out.alloc HB.out.size _,fun h=>absurd h (by decide)⟩
 have h2':kindL l a=k:=by omega
 rw[if_neg h2]at hbc
 rw[h2']at HR
 have hcut:=cutu_lh A n cap (a+16) (a+16+m) ((a:Int)+16) ((a:Int)+(16+(m:Int))) (by omega) (by omega) (by omega) (by omega)
 have HBC:=Lib.hid (Bytes.cut hb cap (a+16) m (by omega))
 rw[←hbody]at HBC
 rw[show a+16+m-(a+16)=m by omega]at hcut
 have hcap:m≤cap-(a+16)∧cap-(a+16)≤maxLen:=by omega
 generalize cap-(a+16)=cb at*
 generalize cutA A cap (a+16)=C at*
 have HCap:=Lib.hid hcap
 have HBl:=Lib.hid hbl
 have ham:a+16+m≤1000000:=by omega
 unfold maxLen at hcm
 clear hb hL hs hs2 hbl hbody h1 h0 h2 h2' hcap
 by_cases h3:m<ah+ea
 ·rw[if_pos (Or.inl h3)]at hbc
  rw[hbc]
  have h3':(m:Int)-(ah:Int)<(ea:Int):=by omega
  clear hbc
  go_enter Tryz.func211,Tryz.ntmps211
  go_wp2_with(go_at_call 38;(with_reducible refine HR.out.mono ?_);rintro e w2 ⟨rfl,hbel⟩;have HB:=Lib.hid hbel;clear hbel)
  go_ret2
  exact⟨none,0,0,rfl,HB.out.alloc HB.out.size _,fun h=>absurd h (by decide)⟩
 have h3': ¬(m:Int)-(ah:Int)<(ea:Int):=by omega
 obtain⟨q,hq⟩: ∃q,ah=ea*q:=⟨ah/ea,by have:=Nat.div_add_mod ah ea;omega⟩
 have hmm:(m-ah)%ea=m%ea:=by
  subst hq
  have:m=(m-ea*q)+ea*q:=by omega
  conv=>rhs;rw[this,Nat.add_mul_mod_self_left]
 have hrem:((m:Int)-(ah:Int)).tmod (ea:Int)=((m%ea:Nat):Int):=by
  rw[show(m:Int)-(ah:Int)=((m-ah:Nat):Int)by omega,Int.tmod_eq_emod_of_nonneg (by omega),←hmm]
  omega
 have hea0: ¬(ea:Int)=0:=by omega
 clear hq hmm
 by_cases h4:m%ea=0
 ·rw[if_neg (by omega)]at hbc
  rw[hbc]
  rw[h4]at hrem
  clear hbc
  go_enter Tryz.func211,Tryz.ntmps211
  go_wp2_with(go_at_call 38;(with_reducible refine HR.out.mono ?_);rintro e w2 ⟨rfl,hbel⟩;have HB:=Lib.hid hbel;clear hbel)
  go_ret2
  exact⟨C,m,cb,rfl,HB.out.alloc HB.out.size _,fun _=>⟨HBC.out.below (HB.out.alloc HB.out.size _) (Nat.le_refl _),HBl.out,HCap.out.1,HCap.out.2,by omega⟩⟩
 ·rw[if_pos (Or.inr h4)]at hbc
  rw[hbc]
  obtain⟨R,hR⟩: ∃R:Int,R=((m%ea:Nat):Int):=⟨_,rfl⟩
  rw[←hR]at hrem
  have h4': ¬R=0:=by omega
  have h5:(R==0)=false:=by simpa using h4'
  have h6:(R !=0)=true:=by simpa using h4'
  have h7:decide (R=0)=false:=by simpa using h4'
  clear hbc hR h4
  go_enter Tryz.func211,Tryz.ntmps211
  go_wp2_with(go_at_call 38;(with_reducible refine HR.out.mono ?_);rintro e w2 ⟨rfl,hbel⟩;have HB:=Lib.hid hbel;clear hbel)
  ·go_ret2
   exact⟨none,0,0,rfl,HB.out.alloc HB.out.size _,fun h=>absurd h (by decide)⟩
  all_goals (rename_i hx;trace_state;simp at hx;exact absurd hx h4')
theorem bodyOf_z (A:Option Addr)(l:List Int)(n cap a ah ea:Nat)(k zh ze:Int)(w:World)(hb:Bytes w A l)(hL:l.length=n)(hn:n≤1000000)(hc:n≤cap)(hcm:cap≤maxLen)(ha:a≤18446744073709551615)(hah:ah≤1000)(hea:ea≤1000)(he0:0<ea)(hmod:ah%ea=0)(hzh:zh=(ah:Int))(hze:ze=(ea:Int)):
 Calls Tryz.prog 211 #[.slice A n cap,.int .u64 (a:Int),.int .i64 k,.int .i64 zh,.int .i64 ze] w (Bodied2 l a k ah ea w):=by
 subst hzh hze
 exact bodyOf_e A l n cap a ah ea k w hb hL hn hc hcm ha hah hea he0 hmod
theorem number_e (A:Option Addr)(l:List Int)(n cap i:Nat)(z:Int)(w:World)(hb:Bytes w A l)(hL:l.length=n)(hn:n≤1000000)(hi:i+8≤n)(hz:z=(i:Int)):
 Calls Tryz.prog 212 #[.slice A n cap,.int .i64 z] w fun e w'=>e= .returned (.int .u64 (u8 l i))∧w=w':=by
 subst hz
 have HG:=Lib.hid fun(z:Int) (hz:z=(i:Int))=>get8 A l n cap i z w hz hL hn hb hi
 generalize u8 l i=x at*
 clear hb hL
 go_enter Tryz.func212,Tryz.ntmps212
 go_wp2_with(go_at_call 96;(with_reducible refine(HG.out _ rfl).mono ?_);rintro e w' ⟨rfl,rfl⟩)
 go_ret
 exact⟨rfl,rfl⟩
def Part2 (w:World)(g m k:Nat)(f h:Nat→Int)(T:TypeId):Prop:=
 ∃vs:List Value,Blk w g vs T∧vs.length=m*2∧ ∀i,i<k→vs[i*2]? =some (.int .u64 (f i))∧vs[i*2+1]? =some (.int .u64 (h i))
theorem Part2.new (w:World)(m:Nat)(f h:Nat→Int)(T:TypeId):Part2 (w.alloc (.cells (Array.replicate (m*2) (Value.int .u64 0)) T)) w.heap.size m 0 f h T:=
 ⟨List.replicate (m*2) (.int .u64 0),by have:=Blk.new w (List.replicate (m*2) (.int .u64 0)) T;simpa using this,by simp,fun i hi=>absurd hi (by omega)⟩
theorem Part2.lt {w:World}{g m k:Nat}{f h:Nat→Int}{T:TypeId}(hp:Part2 w g m k f h T):g<w.heap.size:=by
 obtain⟨vs,hb,_⟩:=hp
 exact hb.lt
theorem Part2.cells {w:World}{g m k:Nat}{f h:Nat→Int}{T:TypeId}(hp:Part2 w g m k f h T)(hk:k<m):(∃u v,w.cell? ⟨g,k*2,none⟩=some u∧w.cell? ⟨g,k*2+1,none⟩=some v)∧w.frozen? ⟨g,k*2,none⟩=false∧w.frozen? ⟨g,k*2+1,none⟩=false:=by
 obtain⟨vs,hb,hl,_⟩:=hp
 exact⟨⟨vs[k*2],vs[k*2+1],hb.cell (List.getElem?_eq_getElem (by omega)),hb.cell (List.getElem?_eq_getElem (by omega))⟩,hb.frozen _,hb.frozen _⟩
theorem Part2.step {w:World}{g m k:Nat}{f h:Nat→Int}{T:TypeId}(hp:Part2 w g m k f h T)(hk:k<m):Part2 ((w.setCell ⟨g,k*2,none⟩ (.int .u64 (f k))).setCell ⟨g,k*2+1,none⟩ (.int .u64 (h k))) g m (k+1) f h T:=by
 obtain⟨vs,hb,hl,hv⟩:=hp
 refine⟨_,(hb.set_ (k*2) _).set_ (k*2+1) _,by simp[hl],fun i hi=>?_⟩
 rcases Nat.lt_or_ge i k with h1|h1
 ·obtain⟨e1,e2⟩:=hv i h1
  rw[List.getElem?_set,List.getElem?_set,List.getElem?_set,List.getElem?_set,if_neg (by omega),if_neg (by omega),if_neg (by omega),if_neg (by omega)]
  exact⟨e1,e2⟩
 ·obtain rfl:i=k:=by omega
  rw[List.getElem?_set,List.getElem?_set,List.getElem?_set,if_neg (by omega),if_pos rfl,if_pos (by omega),if_pos rfl,if_pos (by simp;omega)]
  exact⟨rfl,rfl⟩
theorem Part2.in2 {w:World}{g m:Nat}{f h:Nat→Int}{T:TypeId}(hp:Part2 w g m m f h T)(hf: ∀i,0≤f i∧f i≤18446744073709551615)(hh: ∀i,0≤h i∧h i≤18446744073709551615):In2 w (some ⟨g,0,none⟩) m f h:=fun i hi=>by
 obtain⟨vs,hb,hl,hv⟩:=hp
 obtain⟨e1,e2⟩:=hv i hi
 exact⟨g,0,rfl,hb.lt,by rw[Nat.zero_add];exact hb.cell e1,by rw[Nat.zero_add];exact hb.cell e2,hf i,hh i⟩
theorem itemInfo:(Tryz.prog.info? 287).map (fun i=>(i.zero,i.size,i.bytes))=some (some (.agg #[.int .u64 0,.int .u64 0]),2,16):=by kernel_rfl
theorem made_two (p:Nat):madeCells #[Value.int .u64 0,Value.int .u64 0] (p*2)=Array.replicate (p*2) (Value.int .u64 0):=by
 apply Array.ext
 ·simp[madeCells]
 ·intro i h1 h2
  simp only[madeCells,Array.getElem_map,Array.getElem_range,Array.getElem_replicate]
  have:i%2=0∨i%2=1:=by omega
  rcases this with h|h<;>simp[h]
theorem make_two (S T:TypeId)(ht:Tryz.prog.underlying S=some (.slice T))(hinfo:(Tryz.prog.info? T).map (fun i=>(i.zero,i.size,i.bytes))=some (some (.agg #[.int .u64 0,.int .u64 0]),2,16))(p:Nat)(z:Int)(hz:z=(p:Int))(hp:p≤1000000)(w:World):
 (Instr.makeSlice S (.int .i64 z) (.int .i64 z)).run Tryz.prog w= .ok (.slice (some ⟨w.heap.size,0,none⟩) p p) (w.alloc (.cells (Array.replicate (p*2) (Value.int .u64 0)) T)):=by
 subst hz
 obtain⟨i,hi,hzz⟩:=Option.map_eq_some_iff.1 hinfo
 simp only[Prod.mk.injEq]at hzz
 obtain⟨hz,hs,hb⟩:=hzz
 have h:=run_make (P:=Tryz.prog) w S T i _ ht hi hz .i64 .i64 (p:Int) (p:Int) (by omega) (Int.le_refl _) (by rw[hb];omega) (by omega)
 rw[hs,Int.toNat_natCast]at h
 rw[h]
 show Result.ok _ (w.alloc (.cells (madeCells #[Value.int .u64 0,Value.int .u64 0] (p*2)) T))=_
 rw[made_two]
end Ye
namespace Yf
open Bytes8 Blk8 Own8 OwnE Ob Rows2 Kf Yc Yp Ye
def New2 (f h:Nat→Int)(m:Nat)(w:World)(A:Option Addr)(w':World):Prop:= ∃g,A=some ⟨g,0,none⟩∧w.heap.size≤g∧g<w'.heap.size∧In2 w' A m f h
theorem itemsOf_any (A:Option Addr)(l:List Int)(n cap m:Nat)(w:World)(hb:Bytes w A l)(hL:l.length=n)(hn:n≤1000000)(hm:n/16=m):
 Calls Tryz.prog 227 #[.slice A n cap] w fun e w'=> ∃A',e= .returned (.slice A' m m)∧New2 (taA l) (taB l) m w A' w'∧Below w.heap.size w w':=by
 have hq:IntKind.i64.wrap ((n:Int).tdiv 16)=(m:Int):=by rw[Int.tdiv_eq_ediv_of_nonneg (by omega),IntKind.wrap_i64];omega
 have hq1:(n:Int).tdiv 16=(m:Int):=by rw[Int.tdiv_eq_ediv_of_nonneg (by omega)];omega
 have hmk:=make_two 283 287 Tryz.underlying283 itemInfo m (m:Int) rfl (by omega)
 have P0:=Lib.hid (Part2.new w m (taA l) (taB l) 287)
 have B0:=Lib.hid ((Below.refl w.heap.size w).alloc (Nat.le_refl _) (.cells (Array.replicate (m*2) (Value.int .u64 0)) 287))
 have HN:=Lib.hid fun(W:World) (i:Nat) (z:Int) (h:Below w.heap.size w W) (hi:i+8≤n) (hz:z=(i:Int))=>number_e A l n cap i z W (hb.below h (Nat.le_refl _)) hL hn hi hz
 have HA:=Lib.hid hb.1
 clear hb hL
 unfold New2
 go_enter Tryz.func227,Tryz.ntmps227
 go_wp2
 go_loopw [11] (fun i wr=> ∃k:Nat,k≤m∧i= .int .i64 (k:Int)∧Hid (Part2 wr w.heap.size m k (taA l) (taB l) 287)∧Hid (Below w.heap.size w wr)) (fun i _=>m-(intOf i).toNat)
 case atStart=>exact⟨0,Nat.zero_le _,rfl,P0,B0⟩
 case round=>
  obtain⟨k,hk,rfl,hp,hb⟩:=hrel
  by_cases hlt:k<m
  ·obtain⟨⟨v1,v2,c1,c2⟩,f1,f2⟩:=hp.out.cells hlt
   have HS:=Lib.hid (hp.out.step hlt)
   have hp1:taA l k=u8 l (16*k):=rfl
   have hp2:taB l k=u8 l (16*k+8):=rfl
   rw[hp1,hp2]at HS
   go_wp2_with(first
    |(go_at_call 212;(with_reducible refine(HN.out _ (16*k) _ hb.out (by omega) (by omega)).mono ?_);rintro e w' ⟨rfl,rfl⟩)
    |(go_at_call 212;(with_reducible refine(HN.out _ (16*k+8) _ hb.out (by omega) (by omega)).mono ?_);rintro e w' ⟨rfl,rfl⟩))
   go_roundw
   case rel=>exact⟨k+1,by omega,by go_num,HS,Lib.hid ((hb.out.setCell (Nat.le_refl _) _).setCell (Nat.le_refl _) _)⟩
   case measure=>simp[intOf];omega
  ·obtain rfl:k=m:=by omega
   go_wp2
   go_ret
   exact⟨_,rfl,⟨w.heap.size,rfl,Nat.le_refl _,hp.out.lt,hp.out.in2 (fun i=>u8_bd HA.out _) (fun i=>u8_bd HA.out _)⟩,hb.out⟩
theorem rise_any (A:Option Addr)(n cap:Nat)(f h:Nat→Int)(w:World)(hi:In2 w A n f h)(hn:n≤1000000):
 Calls Tryz.prog 228 #[.slice A n cap] w fun e w'=>e= .returned (.bool (risB f n))∧Below w.heap.size w w':=by
 have HI:=Lib.hid hi
 obtain⟨z,hz⟩: ∃z,z=risB f n:=⟨_,rfl⟩
 rw[←hz]
 have HZ:=Lib.hid hz
 clear hi hz
 go_enter Tryz.func228,Tryz.ntmps228
 go_wp2
 go_loopw [3] (fun i wr=> ∃k:Nat,1≤k∧(k≤n∨k=1)∧i= .int .i64 (k:Int)∧Hid (risB f k=true)∧Hid (Below w.heap.size w wr)) (fun i _=>n-(intOf i).toNat)
 case atStart=>exact⟨1,Nat.le_refl _,.inr rfl,rfl,Lib.hid rfl,Lib.hid (Below.refl _ _)⟩
 case round=>
  obtain⟨k,hk1,hk,rfl,hr,hb⟩:=hrel
  by_cases hlt:k<n
  ·obtain⟨j,rfl⟩: ∃j,k=j+1:=⟨k-1,by omega⟩
   obtain⟨b,off,ea,hb1,c1,_,_,_⟩:=(HI.out.keep hb.out) (j+1) hlt
   obtain⟨b2,off2,eb,_,d1,_,_,_⟩:=(HI.out.keep hb.out) j (by omega)
   rw[ea]at eb
   simp at eb
   obtain⟨rfl,rfl⟩:=eb
   subst ea
   have hs:=risB_succ f (j+1) (by omega)
   rw[hr.out,Bool.true_and]at hs
   have hm:=fun h=>risB_mono (f:=f) (n:=n) (m:=j+2) h (by omega)
   have c1':=(show wr.drew.cell? ⟨b,off+(j+1)*2,none⟩=some (.int .u64 (f (j+1)))from c1)
   have d1':=(show wr.drew.cell? ⟨b,off+j*2,none⟩=some (.int .u64 (f j))from d1)
   have hw:IntKind.i64.wrap (((j+1:Nat):Int)-1)=(j:Int):=by rw[IntKind.wrap_i64];omega
   have hw1:((j+1:Nat):Int)-1=(j:Int):=by omega
   have hnn:(0:Int)≤((j+1:Nat):Int):=by omega
   by_cases hle:f (j+1)≤f j
   ·have hf:risB f n=false:=by
     cases hq:risB f n with
     |false=>rfl
     |true=>have:=hm hq;rw[hs]at this;simp at this;omega
    have hzf:z=false:=HZ.out.trans hf
    subst hzf
    clear hf hm hs hr
    go_wp2
    go_region
    all_goals
     go_wp2
     go_ret
     exact⟨rfl,hb.out.drew⟩
   ·have hs2:risB f (j+2)=true:=by rw[hs];simp;omega
    have HS2:=Lib.hid hs2
    clear hs2 hs hm
    go_wp2
    go_region
    all_goals
     go_wp2
     go_roundw
     case rel=>exact⟨j+2,by omega,by omega,by go_num,HS2,Lib.hid hb.out.drew⟩
     case measure=>simp[intOf];omega
  ·have:risB f n=true:=by
    rcases hk with h|h
    ·obtain rfl:k=n:=by omega
     exact hr.out
    ·subst h
     have:n=0∨n=1:=by omega
     rcases this with rfl|rfl<;>rfl
   have hzf:z=true:=HZ.out.trans this
   subst hzf
   clear this
   go_wp2
   go_ret
   exact⟨rfl,hb.out⟩
end Yf
end Go.Proofs.YtjecmgkmcfkcjaaGreat
