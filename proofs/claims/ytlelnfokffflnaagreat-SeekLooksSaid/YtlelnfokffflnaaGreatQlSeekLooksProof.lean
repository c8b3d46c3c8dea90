/-
  In any journal of the document's writer, of however many entries out of any numbers, a number is found by so few looks as halves need.
-/
import Derived.Test.YtlelnfokffflnaaGreatQlSeekLooks1
set_option linter.unusedVariables false
open Go.ChangeShapes Go.WideShapes Go.ChangeAt Go.RowKit
namespace Go.Proofs.YtlelnfokffflnaaGreat
namespace seekLooks
open Go.ChangeMaps (open_string shut_string)
theorem own:ownKnob Tryz.prog.godebug=none:=by kernel_rfl
theorem laidOut:laidOutB Tryz.prog=true:=by kernel_rfl
set_option maxRecDepth 100000 in
theorem lifted (r:Os)(b:r.Started)(H:Type)(enc:TypeId×Value→H):
 ReturnsInHanded {} Tryz.checked r 8 .any (Rows.seekLooksSpec.pre6 enc Tryz.prog Tryz.f8 Rows.seekLooksRow.domain false) (Rows.seekLooksSpec.post enc Tryz.prog Tryz.f8 false true false false):=by
 refine returnsInHanded_of_change (C:=Tryz.checked) own b (by kernel_rfl) Tryz.func8
  (ChangeSpec.witness6 (enc:=enc) (C:=Tryz.checked) false ⟨#[],#[.int .i64 0,.int .u64 0],[]⟩ 8 (by kernel_rfl) (by kernel_rfl) (by kernel_rfl) (by kernel_rfl)) ?_
 intro W base args ds M g d hW m _
 have c: ∀(j:Nat) t v,Tryz.f8.params[j]? =some t→args[j]? =some v→Value.okWide Tryz.prog W .any base t v:=d
 have k:=hW
 obtain⟨p,q,f,s,rfl,E,G⟩:=hW
 have o:DataW.TrodAll enc Tryz.prog W 0 (fun _=>true) true Tryz.f8.params.toList args.toList ds p:=f
 rw[Tryz.params8]at o c
 obtain⟨l,A,N,D,R,V,i,rfl,rfl,F,r0⟩:=trodAll_cons o
 obtain⟨n,B,J,u,I,L,rfl,rfl,rfl,x,r1⟩:=trodAll_cons r0
 obtain⟨rfl,rfl,rfl⟩:=trodAll_nil r1
 obtain rfl:args= #[l,n]:=by cases args;simp_all
 obtain⟨rfl,rfl⟩:=trodVars_none s
 obtain⟨y,rfl,rfl,rfl,w0⟩:=open_int Tryz.underlying3 (c 0 3 l rfl rfl) F
 obtain⟨z,rfl,rfl,rfl,w1⟩:=open_int Tryz.underlying27 (c 1 27 n rfl rfl) x
 clear f d
 refine(SeekLooksW.walk y z W w0 w1).mono fun e W' ⟨he,bel⟩=>?_
 subst he
 exact⟨_,rfl,_,_,_,[],_,[],k,trodAll_mk1 (shut_bool Tryz.underlying4 _),(trodAll_cons_mk (shut_int Tryz.underlying3 w0) (trodAll_cons_mk (shut_int Tryz.underlying27 w1) trodAll_mk0)),rfl,bel.frame _,fun h=>by cases h⟩
theorem all_inputs:Rows.seekLooksRow.holds Tryz.pinned (OpenSpec.ofChange Rows.seekLooksSpec):=
 OpenClaim.holds_of_wide 8 Tryz.f8 rfl rfl rfl rfl rfl rfl rfl ⟨rfl,rfl,rfl,rfl,rfl⟩ rfl rfl rfl rfl rfl (by kernel_rfl) Tryz.func8 (by kernel_rfl)
  (of_decide_eq_true (by kernel_rfl)) (by unfold Func.isWrapper;first|(rw[if_pos (by decide+kernel)];kernel_rfl)|(rw[if_neg (by decide+kernel)];exact⟨rfl,rfl⟩))
  (fun os started H enc _=>lifted os started H enc)
theorem proved:Rows.SeekLooksSaid:=all_inputs
#print axioms proved
end seekLooks
end Go.Proofs.YtlelnfokffflnaaGreat
