/-
  A number is found by so few looks as halves need, in a journal of any length (SeekLooks), at all arguments.
-/
import Derived.Test.YteaikbodkgjkdaaGreatQlSeekLooks1
set_option linter.unusedVariables false
open Go.ChangeShapes Go.WideShapes Go.ChangeAt Go.RowKit
namespace Go.Proofs.YteaikbodkgjkdaaGreat
namespace seekLooks
open Go.ChangeMaps (open_string shut_string)
theorem own:ownKnob Tryz.prog.godebug=none:=by kernel_rfl
theorem laidOut:laidOutB Tryz.prog=true:=by kernel_rfl
set_option maxRecDepth 100000 in
theorem lifted (k:Os)(a:k.Started)(H:Type)(enc:TypeId×Value→H):
 ReturnsInHanded {} Tryz.checked k 8 .any (Rows.seekLooksSpec.pre6 enc Tryz.prog Tryz.f8 Rows.seekLooksRow.domain false) (Rows.seekLooksSpec.post enc Tryz.prog Tryz.f8 false true false false):=by
 refine returnsInHanded_of_change (C:=Tryz.checked) own a (by kernel_rfl) Tryz.func8
  (ChangeSpec.witness6 (enc:=enc) (C:=Tryz.checked) false ⟨#[],#[.int .i64 0,.int .u64 0],[]⟩ 8 (by kernel_rfl) (by kernel_rfl) (by kernel_rfl) (by kernel_rfl)) ?_
 intro W base args ds J f c hW n _
 have b: ∀(j:Nat) t v,Tryz.f8.params[j]? =some t→args[j]? =some v→Value.okWide Tryz.prog W .any base t v:=c
 have i:=hW
 obtain⟨p,q,d,E,rfl,D,y⟩:=hW
 have m:DataW.TrodAll enc Tryz.prog W 0 (fun _=>true) true Tryz.f8.params.toList args.toList ds p:=d
 rw[Tryz.params8]at m b
 obtain⟨o,A,L,u,N,F,g,rfl,rfl,s,r0⟩:=trodAll_cons m
 obtain⟨l,r,I,x,M,G,rfl,rfl,rfl,w,r1⟩:=trodAll_cons r0
 obtain⟨rfl,rfl,rfl⟩:=trodAll_nil r1
 obtain rfl:args= #[o,l]:=by cases args;simp_all
 obtain⟨rfl,rfl⟩:=trodVars_none E
 obtain⟨z,rfl,rfl,rfl,w0⟩:=open_int Tryz.underlying3 (b 0 3 o rfl rfl) s
 obtain⟨B,rfl,rfl,rfl,w1⟩:=open_int Tryz.underlying59 (b 1 59 l rfl rfl) w
 clear d c
 refine(SeekLooksW.walk z B W w0 w1).mono fun e W' ⟨he,bel⟩=>?_
 subst he
 exact⟨_,rfl,_,_,_,[],_,[],i,trodAll_mk1 (shut_bool Tryz.underlying4 _),(trodAll_cons_mk (shut_int Tryz.underlying3 w0) (trodAll_cons_mk (shut_int Tryz.underlying59 w1) trodAll_mk0)),rfl,bel.frame _,fun h=>by cases h⟩
theorem all_inputs:Rows.seekLooksRow.holds Tryz.pinned (OpenSpec.ofChange Rows.seekLooksSpec):=
 OpenClaim.holds_of_wide 8 Tryz.f8 rfl rfl rfl rfl rfl rfl rfl ⟨rfl,rfl,rfl,rfl,rfl⟩ rfl rfl rfl rfl rfl (by kernel_rfl) Tryz.func8 (by kernel_rfl)
  (of_decide_eq_true (by kernel_rfl)) (by unfold Func.isWrapper;first|(rw[if_pos (by decide+kernel)];kernel_rfl)|(rw[if_neg (by decide+kernel)];exact⟨rfl,rfl⟩))
  (fun os started H enc _=>lifted os started H enc)
theorem proved:Rows.SeekLooksSaid:=all_inputs
#print axioms proved
end seekLooks
end Go.Proofs.YteaikbodkgjkdaaGreat
