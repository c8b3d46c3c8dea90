/-
  Texts beneath.
-/
import Derived.Test.YteaikbodkgjkdaaGreatQl11
set_option linter.unusedVariables false
set_option linter.unusedSimpArgs false
set_option maxRecDepth 100000
set_option maxHeartbeats 4000000
open Go.ChangeShapes Go.WideShapes Go.ChangeAt Go.RowKit
namespace Go.Proofs.YteaikbodkgjkdaaGreat
namespace Yk
open Bytes8 Blk8 Own8 OwnE Ob Oc Od Oe Rows2 Kf Yc Yd
def NumsTold (ls:List Int)(z:Nat)(W:World)(e:Ending)(w':World):Prop:= ∃A c,e= .returned (.slice A z c)∧Own w' W.heap.size A z c (nums ls)∧Below W.heap.size W w'
theorem aFY (a:List Int)(k z:Nat)(N:Array Value)(j:(a.map (Value.int .u64)).toArray=N)(W:World)(g:Nat)(i:W.heap.size=g)(f:I64 a)(d:a.length=k)(b:k≤1000)(l:8*k=z):
 Calls Tryz.prog 105 #[.slice (some ⟨g,0,none⟩) k k] (W.alloc (.cells N 59)) (NumsTold a z W):=by
 subst j i l
 have h:=aEj W.heap.size k k a 59 _ (Blk.new W _ _) f d b
 exact h.mono fun e w' ⟨A,c,h1,h2,h3⟩=>⟨A,c,h1,Own.base h2 (by simp),((yB W.heap.size W).alloc (yR _) _).trans (h3.mono (by simp))⟩
theorem aBW (a:List Int)(k z:Nat)(N:Array Value)(j:(a.map (Value.int .u64)).toArray=N)(W:World)(g:Nat)(i:W.heap.size=g)(f:I64 a)(d:a.length=k)(b:k≤1000)(l:8*k=z):
 Calls Tryz.prog 105 #[.slice (some ⟨g,0,none⟩) k k] (W.alloc (.cells N 59)).drew (NumsTold a z W):=
 (aFY a k z N j W.drew g i f d b l).mono fun e w' ⟨A,c,h1,h2,h3⟩=>⟨A,c,h1,h2,(yB W.heap.size W).drew.trans h3⟩
theorem aKb {x:Int}(h:0≤x∧x≤18446744073709551615):I64 [x]:=by intro v a;simp at a;subst a;exact h
theorem aKc {x y:Int}(h:0≤x∧x≤18446744073709551615)(b:0≤y∧y≤18446744073709551615):I64 [x,y]:=by intro v a;simp at a;rcases a with rfl|rfl<;>assumption
theorem aFb (x:Int)(A:Option Addr)(n c:Nat)(f:Nat→Int)(w:World)(H:InInts .u64 w A n f)(hn:n≤50000)(hx:0≤x∧x≤18446744073709551615):
 Calls Tryz.prog 117 #[arrV x A n c] w (Owned (objB 6 (arrB x (ints f n))) (16+(8+8*n)+padN (8+8*n)) w):=by
 have HI:=yH H
 have b0:=yH ((yB w.heap.size w).alloc (yR _) (arrC 183 x A n c))
 have d:=yH (show Blk (w.alloc (arrC 183 x A n c)) w.heap.size [.int .u64 x,.slice A n c] 183 from Blk.new w _ _)
 have i0:=d.out.drew.cell (i:=0) rfl
 have i1:=d.out.drew.cell (i:=1) rfl
 have G:=yH (d.out.alloc (.cells #[.int .u64 x] 59)).drew
 have t:=G.out.cell (i:=0) rfl
 have y:=G.out.cell (i:=1) rfl
 have z:=yH fun(W:World) (g:Nat) (hg:W.heap.size=g)=>aBW [x] 1 8 _ rfl W g hg (aKb hx) rfl (by decide) rfl
 dsimp only[List.map]at z
 have u:=yH fun(W:World) (hb:Below w.heap.size w W)=>rnums_in A n c f W (HI.out.below hb) (by omega)
 have L:=yH fun(B:Option Addr) (cb:Nat) (W:World) (base:Nat) (ho:Own W base B (8+8*n) cb (nums [x]++nums (ints f n)))=>aCQ 6 B _ (8+8*n) cb W (by decide) ho.bytes ho.2.1 (by omega)
 unfold Owned at L
 unfold NumsTold at z
 unfold arrB
 generalize padN (8+8*n)=pn at*
 clear H
 go_enter Tryz.func117,Tryz.ntmps117
 go_wp2
 go_region_held3 (fun W=>InsideA w.heap.size W x A n c) (first|(with_reducible exact⟨i0,i1⟩)|(with_reducible exact⟨t,y⟩)|(with_reducible exact⟨M,V⟩)|(with_reducible exact⟨r0,r1⟩)|(with_reducible exact⟨X,s1⟩)|(with_reducible exact⟨Z,t1⟩)|go_keep) (first
  |(refine aAg (o:=⟨some 10,_,_,_,_,_⟩) rfl (.tmp 6) (.tmp 9) rfl (w.heap.size+1) R 8 Y (nums [x]) rfl O1.out A2 (8*n) c2 (nums (ints f n)) rfl O2.out.bytes (aFP f n) (by omega) ?_;intro A3 c3 w3 j q;have N:=yH j;have F:=yH (J.out.trans q);have r:=yH (d.out.below F.out (Nat.lt_succ_self _));have X:=r.out.cell (i:=0) rfl;have s1:=r.out.cell (i:=1) rfl;clear j q)
  |(go_at_call 105;(with_reducible refine(z.out _ _ (by simp)).mono ?_);rintro e w1 ⟨R,Y,rfl,l,m⟩;have v:=yH (Own.base l (b2:=w.heap.size+1) (by simp));have s:=yH (show Below (w.heap.size+1) (w.alloc (arrC 183 x A n c)) w1 from Below.mono m (by simp));have E:=yH (d.out.below s.out (Nat.lt_succ_self _));have M:=E.out.cell (i:=0) rfl;have V:=E.out.cell (i:=1) rfl;clear l m)
  |(go_at_call 105;(with_reducible refine(u.out w1 (b0.out.trans (s.out.mono (Nat.le_succ _)))).mono ?_);rintro e w2 ⟨A2,c2,rfl,p,a⟩;have O2:=yH p;have O1:=yH (v.out.kept a (yR _));have J:=yH (s.out.trans (a.mono (by have:=s.out.size;simpa using this)));have D:=yH (d.out.below J.out (Nat.lt_succ_self _));have r0:=D.out.cell (i:=0) rfl;have r1:=D.out.cell (i:=1) rfl;clear p a)
  |(go_at_call 115;(with_reducible refine(L.out _ _ _ _ N.out).mono ?_);rintro e w4 ⟨A4,c4,rfl,k,b⟩;have O4:=yH k;have B4:=yH b;have I:=yH (r.out.below b r.out.lt);have Z:=I.out.cell (i:=0) rfl;have t1:=I.out.cell (i:=1) rfl;clear k b))
 go_wp2
 go_ret
 have C:=b0.out.trans (F.out.mono (Nat.le_succ _))
 exact⟨A4,c4,rfl,Own.base O4.out C.size,C.trans (B4.out.mono C.size)⟩
theorem aDm (t:Int)(A:Option Addr)(n c:Nat)(f g:Nat→Int)(w:World)(h:t=4∨t=5)(hi:In2 w A n f g)(hn:n≤50000):
 Calls Tryz.prog 79 #[.int .i64 t,.slice A n c] w (Owned (objB t (nums (prs f g n))) (16+16*n+padN (16*n)) w):=by
 have HI:=yH hi
 have HP:=yH fun(B:Option Addr) (cb:Nat) (W:World) (E:Own W w.heap.size B (16*n) cb (nums (prs f g n)))=>aCQ t B _ (16*n) cb W (by omega) E.bytes E.2.1 (by omega)
 unfold Owned at HP
 have Z:=yH fun k:Nat=>aIX f g k
 generalize padN (16*n)=pn at*
 clear hi
 rcases h with rfl|rfl
 all_goals
  go_enter Tryz.func79,Tryz.ntmps79
  go_wp2
  go_loopw [5,6] (fun z i wr=> ∃(k:Nat) (H:Option Addr) (G:Nat),k≤n∧z= .slice H (16*k) G∧i= .int .i64 (k:Int)∧Hid (Own wr w.heap.size H (16*k) G (nums (prs f g k)))∧Hid (Below w.heap.size w wr)) (fun _ i _=>n-(intOf i).toNat)
  case atStart=>exact⟨0,none,0,Nat.zero_le _,rfl,rfl,Own.nil w _ (yR _),yH (yB _ _)⟩
  case round=>
   obtain⟨k,H,G,hk,rfl,rfl,E,m⟩:=hrel
   have C:=m.out.size
   by_cases J:k<n
   ·obtain⟨b,a,rfl,d,r,u,V,aa⟩:=HI.out k J
    have c0:=(m.out.cell (p:=⟨b,a+k*2,none⟩) d).trans r
    have L:=(m.out.cell (p:=⟨b,a+k*2+1,none⟩) d).trans u
    have q:b<wr.heap.size:=yL d C
    have x:=yH d
    have I:=yH (Z.out k)
    clear r u d
    have HN:=yH fun(W:World) (g1:Nat) (hg:W.heap.size=g1)=>aBW [f k,g k] 2 16 _ rfl W g1 hg (aKc V aa) rfl (by decide) rfl
    dsimp only[List.map]at HN
    unfold NumsTold at HN
    generalize f k=X at*
    generalize g k=Y at*
    have u0:wr.drew.cell? ⟨b,a+k*2,none⟩=some (.int .u64 X):=c0
    have u1:wr.drew.cell? ⟨b,a+k*2+1,none⟩=some (.int .u64 Y):=L
    have ad:(0:Int)≤(k:Int):=by omega
    have ac:(k:Int)<(n:Int):=by omega
    have D:=yH q
    go_wp2
    go_region_held3 (fun W=>W.cell? ⟨b,a+k*2,none⟩=some (.int .u64 X)∧W.cell? ⟨b,a+k*2+1,none⟩=some (.int .u64 Y)) (first|(with_reducible exact⟨u0,u1⟩)|(with_reducible exact⟨q0,q1⟩)|(with_reducible exact⟨r0,r1⟩)|go_keep) (first
     |(go_at_call 105;(with_reducible refine(HN.out _ _ (by simp)).mono ?_);rintro e w2 ⟨A2,c2,rfl,F,j⟩;have O2:=yH F;have O3:=yH (E.out.kept j (yR _));have B2:=yH (m.out.trans (j.mono C));have q0:=(j.cell (p:=⟨b,a+k*2,none⟩) D.out).trans u0;have q1:=(j.cell (p:=⟨b,a+k*2+1,none⟩) D.out).trans u1;clear F j)
     |(refine aAg (o:=⟨some 32,_,_,_,_,_⟩) rfl (.tmp 19) (.tmp 31) rfl w.heap.size H (16*k) G _ rfl O3.out A2 16 c2 (nums [X,Y]) rfl O2.out.bytes (by rw[nums_len];rfl) (by omega) ?_;intro A3 c3 w3 s l;have R:=yH s;have M:=yH (B2.out.trans l);have r0:=(l.cell (p:=⟨b,a+k*2,none⟩) x.out).trans q0;have r1:=(l.cell (p:=⟨b,a+k*2+1,none⟩) x.out).trans q1;clear s l))
    all_goals
     go_wp2
     go_roundw
     case rel=>
      refine⟨k+1,A3,c3,by omega,rfl,by go_num,?_,M⟩
      rw[I.out]
      exact R
     case measure=>simp[intOf];omega
   ·obtain rfl:k=n:=by omega
    go_wp2_with(go_at_call 115;(with_reducible refine(HP.out _ _ _ E.out).mono ?_);rintro e w5 ⟨A5,c5,rfl,v,y⟩;have ab:=yH v;have N:=yH y;clear v y)
    go_ret
    exact⟨A5,c5,rfl,Own.base ab.out m.out.size,m.out.trans (N.out.mono m.out.size)⟩
theorem aFc (s r m:Int)(K:Nat→Int)(x:Int)(A:Option Addr)(n c:Nat)(f g:Nat→Int)(w:World)(hi:In2 w A n f g)(hn:n≤50000)(hK:IdOk K)(hs:0≤s∧s≤18446744073709551615)(hr:0≤r∧r≤18446744073709551615)(hm:0≤m∧m≤18446744073709551615)(hx:0≤x∧x≤18446744073709551615):
 Calls Tryz.prog 69 #[entV s r m K x A n c] w (Owned (objB 3 (entB s r m K x (prs f g n))) (16+(48+16*n)+padN (48+16*n)) w):=by
 have HI:=yH hi
 have b0:=yH ((yB w.heap.size w).alloc (yR _) (entC 150 s r m K x A n c))
 have C:=yH (show Blk (w.alloc (entC 150 s r m K x A n c)) w.heap.size (entL s r m K x A n c) 150 from Blk.new w _ _)
 have ai:I64 [s,r,m]:=by intro v hv;simp at hv;rcases hv with rfl|rfl|rfl<;>assumption
 have i0:=C.out.drew.cell (i:=0) rfl
 have i1:=C.out.drew.cell (i:=1) rfl
 have i2:=C.out.drew.cell (i:=2) rfl
 have PB:=yH (C.out.alloc (.cells #[.int .u64 s,.int .u64 r,.int .u64 m] 59)).drew
 have J:=PB.out.cell (i:=0) rfl
 have ac:=PB.out.cell (i:=1) rfl
 have L:=PB.out.cell (i:=2) rfl
 have q:=yH (Nat.lt_succ_self w.heap.size)
 have HN:=yH fun(W:World) (g:Nat) (hg:W.heap.size=g)=>aBW [s,r,m] 3 24 _ rfl W g hg ai rfl (by decide) rfl
 have E:=yH fun(W:World) (g:Nat) (hg:W.heap.size=g)=>aFY [x] 1 8 _ rfl W g hg (aKb hx) rfl (by decide) rfl
 dsimp only[List.map]at HN E
 unfold NumsTold at HN E
 have ar:=yH fun k:Nat=>show entB s r m K x (prs f g (k+1))=entB s r m K x (prs f g k)++nums [f k,g k]by unfold entB;rw[aIX];simp
 have HP:=yH fun(B:Option Addr) (cb:Nat) (W:World) (R:Own W (w.heap.size+1) B (48+16*n) cb (entB s r m K x (prs f g n)))=>aCQ 3 B _ (48+16*n) cb W (by decide) R.bytes R.2.1 (by omega)
 unfold Owned at HP
 have D:nums [s,r,m]++idL K++nums [x]=entB s r m K x (prs f g 0):=by unfold entB;rw[aNR,aMS,List.append_nil]
 have Z:=yH D
 generalize padN (48+16*n)=pn at*
 clear hi D ai
 go_enter Tryz.func69,Tryz.ntmps69
 go_wp2
 go_region_held3 (fun W=>W.cell? ⟨w.heap.size,0,none⟩=some (.int .u64 s)∧W.cell? ⟨w.heap.size,1,none⟩=some (.int .u64 r)∧W.cell? ⟨w.heap.size,2,none⟩=some (.int .u64 m)) (first|(with_reducible exact⟨i0,i1,i2⟩)|(with_reducible exact⟨J,ac,L⟩)|(with_reducible exact⟨q0,q1,q2⟩)|(with_reducible exact⟨r0,r1,r2⟩)|go_keep) (first
  |(go_at_call 105;(with_reducible refine(HN.out _ _ (by simp)).mono ?_);rintro e w1 ⟨A1,c1,rfl,V,am⟩;have O1:=yH (Own.base V (b2:=w.heap.size+1) (by simp));have B1:=yH (show Below (w.heap.size+1) (w.alloc (entC 150 s r m K x A n c)) w1 from Below.mono am (by simp));have R1:=yH (C.out.below B1.out q.out);have aD:=yH (aPF R1.out hK);have q0:=R1.out.cell (i:=0) rfl;have q1:=R1.out.cell (i:=1) rfl;have q2:=R1.out.cell (i:=2) rfl;clear V am)
  |(refine aAg (o:=⟨some 15,_,_,_,_,_⟩) rfl (.tmp 12) (.tmp 14) rfl (w.heap.size+1) A1 24 c1 (nums [s,r,m]) rfl O1.out (some ⟨w.heap.size,3,none⟩) 16 16 (idL K) rfl aD.out rfl (by decide) ?_;intro A2 c2 w2 an aj;have az:=yH an;have H:=yH (B1.out.trans aj);have R2:=yH (C.out.below H.out q.out);have r0:=R2.out.cell (i:=0) rfl;have r1:=R2.out.cell (i:=1) rfl;have r2:=R2.out.cell (i:=2) rfl;have aH:=R2.out.cell (i:=19) rfl;clear an aj))
 clear i0 i1 i2 J ac L q0 q1 q2 r0 r1 r2
 go_wp2_with(first
  |(go_at_call 105;(with_reducible refine(E.out _ _ (by simp)).mono ?_);rintro e w3 ⟨A3,c3,rfl,ae,I⟩;have O3:=yH ae;have ak:=yH (az.out.kept I (yR _));have ao:=yH (H.out.trans (I.mono (by have:=H.out.size;simpa using this)));clear ae I)
  |(at_builtin;refine aAd rfl (.tmp 16) (.tmp 20) rfl (w.heap.size+1) A2 40 c2 _ rfl ak.out A3 8 c3 (nums [x]) rfl O3.out.bytes (by rw[nums_len];rfl) (by decide) ?_;intro A4 c4 w4 G al;rw[Z.out]at G;have aC:=yH G;have ab:=yH (ao.out.trans al);have R4:=yH (C.out.below ab.out q.out);have aF:=R4.out.cell (i:=20) rfl;clear G al))
 go_loopw [3,4] (fun z i wr=> ∃(k:Nat) (A':Option Addr) (c':Nat),k≤n∧z= .slice A' (48+16*k) c'∧i= .int .i64 (k:Int)∧Hid (Own wr (w.heap.size+1) A' (48+16*k) c' (entB s r m K x (prs f g k)))∧Hid (Below (w.heap.size+1) (w.alloc (entC 150 s r m K x A n c)) wr)) (fun _ i _=>n-(intOf i).toNat)
 case atStart=>exact⟨0,A4,c4,Nat.zero_le _,rfl,rfl,aC,ab⟩
 case round=>
  obtain⟨k,A',c',hk,rfl,rfl,R,hb⟩:=hrel
  have Bw:=yH (b0.out.trans (hb.out.mono (Nat.le_succ _)))
  have ap:w.heap.size+1≤wr.heap.size:=by have:=hb.out.size;simpa using this
  have Rr:=yH (C.out.below hb.out q.out)
  have aa:=Rr.out.cell (i:=20) rfl
  by_cases ax:k<n
  ·obtain⟨b,a,rfl,j,M,af,aA,au⟩:=HI.out k ax
   have c0:=(Bw.out.cell (p:=⟨b,a+k*2,none⟩) j).trans M
   have ad:=(Bw.out.cell (p:=⟨b,a+k*2+1,none⟩) j).trans af
   have t:b<wr.heap.size:=by omega
   have y:b<w.heap.size+1:=by omega
   have N:=yH y
   have aw:=yH (ar.out k)
   clear M af j y
   have F:=yH fun(W:World) (g1:Nat) (hg:W.heap.size=g1)=>aBW [f k,g k] 2 16 _ rfl W g1 hg (aKc aA au) rfl (by decide) rfl
   dsimp only[List.map]at F
   unfold NumsTold at F
   generalize f k=X at*
   generalize g k=Y at*
   have u0:wr.drew.cell? ⟨b,a+k*2,none⟩=some (.int .u64 X):=c0
   have u1:wr.drew.cell? ⟨b,a+k*2+1,none⟩=some (.int .u64 Y):=ad
   have u2:wr.drew.cell? ⟨w.heap.size,20,none⟩=some (.slice (some ⟨b,a,none⟩) n c):=aa
   have Na:=yH ((yB wr.heap.size wr).alloc (yR _) (.cells #[.int .u64 X,.int .u64 Y] 59)).drew
   have v0:=(Na.out.cell (p:=⟨b,a+k*2,none⟩) t).trans c0
   have v1:=(Na.out.cell (p:=⟨b,a+k*2+1,none⟩) t).trans ad
   have v2:=(Na.out.cell (p:=⟨w.heap.size,20,none⟩) (by show w.heap.size<wr.heap.size;omega)).trans aa
   have aG:(0:Int)≤(k:Int):=by omega
   have aE:(k:Int)<(n:Int):=by omega
   have ag:=yH t
   go_wp2
   go_region_held3 (fun W=>W.cell? ⟨b,a+k*2,none⟩=some (.int .u64 X)∧W.cell? ⟨b,a+k*2+1,none⟩=some (.int .u64 Y)∧W.cell? ⟨w.heap.size,20,none⟩=some (.slice (some ⟨b,a,none⟩) n c)) (first|(with_reducible exact⟨u0,u1,u2⟩)|(with_reducible exact⟨v0,v1,v2⟩)|(with_reducible exact⟨q0,q1,q2⟩)|(with_reducible exact⟨r0,r1,r2⟩)|go_keep) (first
    |(go_at_call 105;(with_reducible refine(F.out _ _ (by simp)).mono ?_);rintro e w5 ⟨A5,c5,rfl,l,d⟩;have O5:=yH l;have O6:=yH (R.out.kept d (yR _));have B5:=yH (hb.out.trans (d.mono ap));have q0:=(d.cell (p:=⟨b,a+k*2,none⟩) ag.out).trans u0;have q1:=(d.cell (p:=⟨b,a+k*2+1,none⟩) ag.out).trans u1;have q2:=(d.cell (p:=⟨w.heap.size,20,none⟩) (by show w.heap.size<wr.heap.size;omega)).trans u2;clear l d)
    |(refine aAg (o:=⟨some 44,_,_,_,_,_⟩) rfl (.tmp 29) (.tmp 43) rfl (w.heap.size+1) A' (48+16*k) c' _ rfl O6.out A5 16 c5 (nums [X,Y]) rfl O5.out.bytes (by rw[nums_len];rfl) (by omega) ?_;intro A7 c7 w7 ah u;have aB:=yH ah;have aq:=yH (B5.out.trans u);have r0:=(u.cell (p:=⟨b,a+k*2,none⟩) N.out).trans q0;have r1:=(u.cell (p:=⟨b,a+k*2+1,none⟩) N.out).trans q1;have r2:=(u.cell (p:=⟨w.heap.size,20,none⟩) q.out).trans q2;clear ah u))
   all_goals
    go_wp2
    go_roundw
    case rel=>
     refine⟨k+1,A7,c7,by omega,rfl,by go_num,?_,aq⟩
     rw[aw.out]
     exact aB
    case measure=>simp[intOf];omega
  ·obtain rfl:k=n:=by omega
   go_wp2_with(go_at_call 115;(with_reducible refine(HP.out _ _ _ R.out).mono ?_);rintro e w5 ⟨A5,c5,rfl,l,d⟩;have av:=yH l;have ay:=yH d;clear l d)
   go_ret
   exact⟨A5,c5,rfl,Own.base av.out Bw.out.size,Bw.out.trans (ay.out.mono Bw.out.size)⟩
end Yk
namespace Ye
open Bytes8 Blk8 Own8 OwnE Ob Oc Og Oi Rows2 Kf Yc Yp
def Bodied2 (l:List Int)(a:Nat)(k:Int)(ah ea:Nat)(w:World)(e:Ending)(w':World):Prop:=
 ∃B m cb,e= .returned (.tuple #[.slice B m cb,.int .i64 (ecode l a k ah ea)])∧Below w.heap.size w w'∧(ecode l a k ah ea=0→Bytes w' B (bodyL l a)∧(bodyL l a).length=m∧m≤cb∧cb≤maxLen∧m≤1000000)
theorem aMr (A:Option Addr)(l:List Int)(n f a i d:Nat)(k:Int)(w:World)(B:Bytes w A l)(E:l.length=n)(hn:n≤1000000)(hc:n≤f)(y:f≤maxLen)(ha:a≤18446744073709551615)(Y:i≤1000)(ab:d≤1000)(Z:0<d)(N:i%d=0):
 Calls Tryz.prog 210 #[.slice A n f,.int .u64 (a:Int),.int .i64 k,.int .i64 (i:Int),.int .i64 (d:Int)] w (Bodied2 l a k i d w):=by
 have u:=yH (aIS A l n f a w B E hn hc y ha)
 unfold FrTold at u
 unfold Bodied2
 have c:ecode l a k i d=if code l a≠0 then code l a else if kindL l a≠k then 4 else if(bodyL l a).length<i+d∨(bodyL l a).length%d≠0 then 5 else 0:=rfl
 by_cases D:code l a≠0
 ·rw[if_pos D]at c
  rw[c]
  clear c
  generalize code l a=cd at*
  generalize kindL l a=kd at*
  generalize sizeL l a=s at*
  have HX:Hid (cd≠0):=yH D
  clear B E
  go_enter Tryz.func210,Tryz.ntmps210
  go_wp2_with(go_at_call 228;(with_reducible refine u.out.mono ?_);rintro e w2 ⟨rfl,b⟩;have g:=yH b;clear b)
  go_ret2
  exact⟨none,0,0,rfl,g.out.alloc g.out.size _,fun h=>absurd h HX.out⟩
 have H:code l a=0:=by omega
 obtain⟨m,hs,o,V,j,_⟩:=aDh E H
 rw[if_neg D,o]at c
 have x:sizeL l a=16+(m:Int):=by omega
 rw[H,x]at u
 by_cases h2:kindL l a≠k
 ·rw[if_pos h2]at c
  rw[c]
  generalize kindL l a=kd at*
  clear B E c hs x o j D H
  go_enter Tryz.func210,Tryz.ntmps210
  go_wp2_with(go_at_call 228;(with_reducible refine u.out.mono ?_);rintro e w2 ⟨rfl,b⟩;have g:=yH b;clear b)
  go_ret2
  exact⟨none,0,0,rfl,g.out.alloc g.out.size _,fun h=>absurd h (by decide)⟩
 have F:kindL l a=k:=by omega
 rw[if_neg h2]at c
 rw[F]at u
 have hcut:=aHM A n f (a+16) (a+16+m) ((a:Int)+16) ((a:Int)+(16+(m:Int))) (by omega) (by omega) (by omega) (by omega)
 have G:=yH (Bytes.cut B f (a+16) m (by omega))
 rw[←j]at G
 rw[show a+16+m-(a+16)=m by omega]at hcut
 have t:m≤f-(a+16)∧f-(a+16)≤maxLen:=by omega
 generalize f-(a+16)=cb at*
 generalize cutA A f (a+16)=C at*
 have r:=yH t
 have I:=yH o
 have aa:a+16+m≤1000000:=by omega
 unfold maxLen at y
 clear B E hs x o j D H h2 F t
 by_cases h3:m<i+d
 ·rw[if_pos (Or.inl h3)]at c
  rw[c]
  have J:(m:Int)-(i:Int)<(d:Int):=by omega
  clear c
  go_enter Tryz.func210,Tryz.ntmps210
  go_wp2_with(go_at_call 228;(with_reducible refine u.out.mono ?_);rintro e w2 ⟨rfl,b⟩;have g:=yH b;clear b)
  go_ret2
  exact⟨none,0,0,rfl,g.out.alloc g.out.size _,fun h=>absurd h (by decide)⟩
 have J: ¬(m:Int)-(i:Int)<(d:Int):=by omega
 obtain⟨q,M⟩: ∃q,i=d*q:=⟨i/d,by have:=Nat.div_add_mod i d;omega⟩
 have z:(m-i)%d=m%d:=by
  subst M
  have:m=(m-d*q)+d*q:=by omega
  conv=>rhs;rw[this,Nat.add_mul_mod_self_left]
 have v:((m:Int)-(i:Int)).tmod (d:Int)=((m%d:Nat):Int):=by
  rw[show(m:Int)-(i:Int)=((m-i:Nat):Int)by omega,Int.tmod_eq_emod_of_nonneg (by omega),←z]
  omega
 have L: ¬(d:Int)=0:=by omega
 clear M z
 by_cases h4:m%d=0
 ·rw[if_neg (by omega)]at c
  rw[c]
  rw[h4]at v
  clear c
  go_enter Tryz.func210,Tryz.ntmps210
  go_wp2_with(go_at_call 228;(with_reducible refine u.out.mono ?_);rintro e w2 ⟨rfl,b⟩;have g:=yH b;clear b)
  go_ret2
  exact⟨C,m,cb,rfl,g.out.alloc g.out.size _,fun _=>⟨G.out.below (g.out.alloc g.out.size _) (yR _),I.out,r.out.1,r.out.2,by omega⟩⟩
 ·rw[if_pos (Or.inr h4)]at c
  rw[c]
  obtain⟨R,X⟩: ∃R:Int,R=((m%d:Nat):Int):=⟨_,rfl⟩
  rw[←X]at v
  have p: ¬R=0:=by omega
  have h5:(R==0)=false:=by simpa using p
  have h6:(R !=0)=true:=by simpa using p
  have h7:decide (R=0)=false:=by simpa using p
  clear c X h4
  go_enter Tryz.func210,Tryz.ntmps210
  go_wp2_with(go_at_call 228;(with_reducible refine u.out.mono ?_);rintro e w2 ⟨rfl,b⟩;have g:=yH b;clear b)
  ·go_ret2
   exact⟨none,0,0,rfl,g.out.alloc g.out.size _,fun h=>absurd h (by decide)⟩
  all_goals (rename_i hx;trace_state;simp at hx;exact absurd hx p)
theorem aIc (A:Option Addr)(l:List Int)(n b a d c:Nat)(k p q:Int)(w:World)(r:Bytes w A l)(u:l.length=n)(s:n≤1000000)(v:n≤b)(g:b≤maxLen)(t:a≤18446744073709551615)(f:d≤1000)(m:c≤1000)(i:0<c)(e:d%c=0)(o:p=(d:Int))(j:q=(c:Int)):
 Calls Tryz.prog 210 #[.slice A n b,.int .u64 (a:Int),.int .i64 k,.int .i64 p,.int .i64 q] w (Bodied2 l a k d c w):=by
 subst o j
 exact aMr A l n b a d c k w r u s v g t f m i e
theorem aFd (A:Option Addr)(l:List Int)(n a i:Nat)(z:Int)(w:World)(c:Bytes w A l)(d:l.length=n)(g:n≤1000000)(f:i+8≤n)(b:z=(i:Int)):
 Calls Tryz.prog 211 #[.slice A n a,.int .i64 z] w fun e w'=>e= .returned (.int .u64 (u8 l i))∧w=w':=by
 subst b
 have j:=yH fun(z:Int) (b:z=(i:Int))=>get8 A l n a i z w b d g c f
 generalize u8 l i=x at*
 clear c d
 go_enter Tryz.func211,Tryz.ntmps211
 go_wp2_with(go_at_call 183;(with_reducible refine(j.out _ rfl).mono ?_);rintro e w' ⟨rfl,rfl⟩)
 go_ret
 exact⟨rfl,rfl⟩
def Part2 (w:World)(g m k:Nat)(f h:Nat→Int)(T:TypeId):Prop:=
 ∃vs:List Value,Blk w g vs T∧vs.length=m*2∧ ∀i,i<k→vs[i*2]? =some (.int .u64 (f i))∧vs[i*2+1]? =some (.int .u64 (h i))
theorem Part2.new (w:World)(m:Nat)(f h:Nat→Int)(T:TypeId):Part2 (w.alloc (.cells (Array.replicate (m*2) (Value.int .u64 0)) T)) w.heap.size m 0 f h T:=
 ⟨List.replicate (m*2) (.int .u64 0),by have:=Blk.new w (List.replicate (m*2) (.int .u64 0)) T;simpa using this,by simp,fun i hi=>absurd hi (by omega)⟩
theorem Part2.lt {w:World}{g m k:Nat}{f h:Nat→Int}{T:TypeId}(a:Part2 w g m k f h T):g<w.heap.size:=by
 obtain⟨c,b,_⟩:=a
 exact b.lt
theorem Part2.cells {w:World}{g m k:Nat}{f h:Nat→Int}{T:TypeId}(c:Part2 w g m k f h T)(d:k<m):(∃u v,w.cell? ⟨g,k*2,none⟩=some u∧w.cell? ⟨g,k*2+1,none⟩=some v)∧w.frozen? ⟨g,k*2,none⟩=false∧w.frozen? ⟨g,k*2+1,none⟩=false:=by
 obtain⟨b,a,e,_⟩:=c
 exact⟨⟨b[k*2],b[k*2+1],a.cell (yG (by omega)),a.cell (yG (by omega))⟩,a.frozen _,a.frozen _⟩
theorem Part2.step {w:World}{g m k:Nat}{f h:Nat→Int}{T:TypeId}(b:Part2 w g m k f h T)(n:k<m):Part2 ((w.setCell ⟨g,k*2,none⟩ (.int .u64 (f k))).setCell ⟨g,k*2+1,none⟩ (.int .u64 (h k))) g m (k+1) f h T:=by
 obtain⟨o,j,e,d⟩:=b
 refine⟨_,(j.set_ (k*2) _).set_ (k*2+1) _,by simp[e],fun i hi=>?_⟩
 rcases Nat.lt_or_ge i k with a|a
 ·obtain⟨c,l⟩:=d i a
  rw[List.getElem?_set,List.getElem?_set,List.getElem?_set,List.getElem?_set,if_neg (by omega),if_neg (by omega),if_neg (by omega),if_neg (by omega)]
  exact⟨c,l⟩
 ·obtain rfl:i=k:=by omega
  rw[List.getElem?_set,List.getElem?_set,List.getElem?_set,if_neg (by omega),if_pos rfl,if_pos (by omega),if_pos rfl,if_pos (by simp;omega)]
  exact⟨rfl,rfl⟩
theorem Part2.in2 {w:World}{g m:Nat}{f h:Nat→Int}{T:TypeId}(b:Part2 w g m m f h T)(c: ∀i,0≤f i∧f i≤18446744073709551615)(j: ∀i,0≤h i∧h i≤18446744073709551615):In2 w (some ⟨g,0,none⟩) m f h:=fun i hi=>by
 obtain⟨l,a,n,e⟩:=b
 obtain⟨d,k⟩:=e i hi
 exact⟨g,0,rfl,a.lt,by rw[Nat.zero_add];exact a.cell d,by rw[Nat.zero_add];exact a.cell k,c i,j i⟩
theorem aMs:(Tryz.prog.info? 302).map (fun i=>(i.zero,i.size,i.bytes))=some (some (.agg #[.int .u64 0,.int .u64 0]),2,16):=by kernel_rfl
theorem aMt (p:Nat):madeCells #[Value.int .u64 0,Value.int .u64 0] (p*2)=Array.replicate (p*2) (Value.int .u64 0):=by
 apply Array.ext
 ·simp[madeCells]
 ·intro i a b
  simp only[madeCells,Array.getElem_map,Array.getElem_range,Array.getElem_replicate]
  have:i%2=0∨i%2=1:=by omega
  rcases this with h|h<;>simp[h]
theorem aMu (S T:TypeId)(d:Tryz.prog.underlying S=some (.slice T))(a:(Tryz.prog.info? T).map (fun i=>(i.zero,i.size,i.bytes))=some (some (.agg #[.int .u64 0,.int .u64 0]),2,16))(p:Nat)(z:Int)(c:z=(p:Int))(g:p≤1000000)(w:World):
 (Instr.makeSlice S (.int .i64 z) (.int .i64 z)).run Tryz.prog w= .ok (.slice (some ⟨w.heap.size,0,none⟩) p p) (w.alloc (.cells (Array.replicate (p*2) (Value.int .u64 0)) T)):=by
 subst c
 obtain⟨i,f,b⟩:=Option.map_eq_some_iff.1 a
 simp only[Prod.mk.injEq]at b
 obtain⟨c,hs,e⟩:=b
 have h:=run_make (P:=Tryz.prog) w S T i _ d f c .i64 .i64 (p:Int) (p:Int) (by omega) (Int.le_refl _) (by rw[e];omega) (by omega)
 rw[hs,Int.toNat_natCast]at h
 rw[h]
 show Result.ok _ (w.alloc (.cells (madeCells #[Value.int .u64 0,Value.int .u64 0] (p*2)) T))=_
 rw[aMt]
end Ye
namespace Yf
open Bytes8 Blk8 Own8 OwnE Ob Rows2 Kf Yc Yp Ye
def New2 (f h:Nat→Int)(m:Nat)(w:World)(A:Option Addr)(w':World):Prop:= ∃g,A=some ⟨g,0,none⟩∧w.heap.size≤g∧g<w'.heap.size∧In2 w' A m f h
theorem aHc (A:Option Addr)(l:List Int)(n c m:Nat)(w:World)(a:Bytes w A l)(q:l.length=n)(v:n≤1000000)(C:n/16=m):
 Calls Tryz.prog 220 #[.slice A n c] w fun e w'=> ∃A',e= .returned (.slice A' m m)∧New2 (taA l) (taB l) m w A' w'∧Below w.heap.size w w':=by
 have E:IntKind.i64.wrap ((n:Int).tdiv 16)=(m:Int):=by rw[Int.tdiv_eq_ediv_of_nonneg (by omega),IntKind.wrap_i64];omega
 have s:(n:Int).tdiv 16=(m:Int):=by rw[Int.tdiv_eq_ediv_of_nonneg (by omega)];omega
 have u:=aMu 297 302 Tryz.underlying297 aMs m (m:Int) rfl (by omega)
 have t:=yH (Part2.new w m (taA l) (taB l) 302)
 have r:=yH ((yB w.heap.size w).alloc (yR _) (.cells (Array.replicate (m*2) (Value.int .u64 0)) 302))
 have j:=yH fun(W:World) (i:Nat) (z:Int) (h:Below w.heap.size w W) (hi:i+8≤n) (hz:z=(i:Int))=>aFd A l n c i z W (a.below h (yR _)) q v hi hz
 have p:=yH a.1
 clear a q
 unfold New2
 go_enter Tryz.func220,Tryz.ntmps220
 go_wp2
 go_loopw [11] (fun i wr=> ∃k:Nat,k≤m∧i= .int .i64 (k:Int)∧Hid (Part2 wr w.heap.size m k (taA l) (taB l) 302)∧Hid (Below w.heap.size w wr)) (fun i _=>m-(intOf i).toNat)
 case atStart=>exact⟨0,Nat.zero_le _,rfl,t,r⟩
 case round=>
  obtain⟨k,D,rfl,d,a⟩:=hrel
  by_cases b:k<m
  ·obtain⟨⟨G,y,H,x⟩,F,B⟩:=d.out.cells b
   have o:=yH (d.out.step b)
   have f:taA l k=u8 l (16*k):=rfl
   have g:taB l k=u8 l (16*k+8):=rfl
   rw[f,g]at o
   go_wp2_with(first
    |(go_at_call 211;(with_reducible refine(j.out _ (16*k) _ a.out (by omega) (by omega)).mono ?_);rintro e w' ⟨rfl,rfl⟩)
    |(go_at_call 211;(with_reducible refine(j.out _ (16*k+8) _ a.out (by omega) (by omega)).mono ?_);rintro e w' ⟨rfl,rfl⟩))
   go_roundw
   case rel=>exact⟨k+1,by omega,by go_num,o,yH ((a.out.setCell (yR _) _).setCell (yR _) _)⟩
   case measure=>simp[intOf];omega
  ·obtain rfl:k=m:=by omega
   go_wp2
   go_ret
   exact⟨_,rfl,⟨w.heap.size,rfl,yR _,d.out.lt,d.out.in2 (fun i=>aCE p.out _) (fun i=>aCE p.out _)⟩,a.out⟩
theorem aMv (A:Option Addr)(n p:Nat)(f h:Nat→Int)(w:World)(x:In2 w A n f h)(R:n≤1000000):
 Calls Tryz.prog 221 #[.slice A n p] w fun e w'=>e= .returned (.bool (risB f n))∧Below w.heap.size w w':=by
 have C:=yH x
 obtain⟨z,r⟩: ∃z,z=risB f n:=⟨_,rfl⟩
 rw[←r]
 have y:=yH r
 clear x r
 go_enter Tryz.func221,Tryz.ntmps221
 go_wp2
 go_loopw [3] (fun i wr=> ∃k:Nat,1≤k∧(k≤n∨k=1)∧i= .int .i64 (k:Int)∧Hid (risB f k=true)∧Hid (Below w.heap.size w wr)) (fun i _=>n-(intOf i).toNat)
 case atStart=>exact⟨1,yR _,.inr rfl,rfl,yH rfl,yH (yB _ _)⟩
 case round=>
  obtain⟨k,E,G,rfl,s,c⟩:=hrel
  by_cases l:k<n
  ·obtain⟨j,rfl⟩: ∃j,k=j+1:=⟨k-1,by omega⟩
   obtain⟨b,d,B,M,c1,_,_,_⟩:=(C.out.keep c.out) (j+1) l
   obtain⟨b2,v,q,_,d1,_,_,_⟩:=(C.out.keep c.out) j (by omega)
   rw[B]at q
   simp at q
   obtain⟨rfl,rfl⟩:=q
   subst B
   have hs:=aGT f (j+1) (by omega)
   rw[s.out,Bool.true_and]at hs
   have t:=fun h=>aGU (f:=f) (n:=n) (m:=j+2) h (by omega)
   have F:=(show wr.drew.cell? ⟨b,d+(j+1)*2,none⟩=some (.int .u64 (f (j+1)))from c1)
   have D:=(show wr.drew.cell? ⟨b,d+j*2,none⟩=some (.int .u64 (f j))from d1)
   have N:IntKind.i64.wrap (((j+1:Nat):Int)-1)=(j:Int):=by rw[IntKind.wrap_i64];omega
   have I:((j+1:Nat):Int)-1=(j:Int):=by omega
   have J:(0:Int)≤((j+1:Nat):Int):=by omega
   by_cases L:f (j+1)≤f j
   ·have u:risB f n=false:=by
     cases H:risB f n with
     |false=>rfl
     |true=>have:=t H;rw[hs]at this;simp at this;omega
    have a:z=false:=y.out.trans u
    subst a
    clear u t hs s
    go_wp2
    go_region
    all_goals
     go_wp2
     go_ret
     exact⟨rfl,c.out.drew⟩
   ·have g:risB f (j+2)=true:=by rw[hs];simp;omega
    have o:=yH g
    clear g hs t
    go_wp2
    go_region
    all_goals
     go_wp2
     go_roundw
     case rel=>exact⟨j+2,by omega,by omega,by go_num,o,yH c.out.drew⟩
     case measure=>simp[intOf];omega
  ·have:risB f n=true:=by
    rcases G with h|h
    ·obtain rfl:k=n:=by omega
     exact s.out
    ·subst h
     have:n=0∨n=1:=by omega
     rcases this with rfl|rfl<;>rfl
   have a:z=true:=y.out.trans this
   subst a
   clear this
   go_wp2
   go_ret
   exact⟨rfl,c.out⟩
end Yf
end Go.Proofs.YteaikbodkgjkdaaGreat
