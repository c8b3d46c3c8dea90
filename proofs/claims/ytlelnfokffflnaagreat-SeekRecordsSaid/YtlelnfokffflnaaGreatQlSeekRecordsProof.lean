/-
  In any journal of the document's writer out of any numbers, each right entry is told by its place, and is found by its number.
-/
import Derived.Test.YtlelnfokffflnaaGreatQlSeekRecordsb1
set_option linter.unusedVariables false
open Go.ChangeShapes Go.WideShapes Go.ChangeAt Go.RowKit
namespace Go.Proofs.YtlelnfokffflnaaGreat
namespace seekRecords
open Go.ChangeMaps (open_string shut_string)
open Blk8
theorem own:ownKnob Tryz.prog.godebug=none:=by kernel_rfl
theorem laidOut:laidOutB Tryz.prog=true:=by kernel_rfl
set_option maxRecDepth 100000 in
theorem lifted (z:Os)(c:z.Started)(H:Type)(enc:TypeId×Value→H):
 ReturnsInHanded {} Tryz.checked z 7 .any (Rows.seekRecordsSpec.pre6 enc Tryz.prog Tryz.f7 Rows.seekRecordsRow.domain false) (Rows.seekRecordsSpec.post enc Tryz.prog Tryz.f7 false true false false):=by
 refine returnsInHanded_of_change (C:=Tryz.checked) own c (by kernel_rfl) Tryz.func7
  (ChangeSpec.witness6 (enc:=enc) (C:=Tryz.checked) false ⟨#[],#[.slice none 0 0,.int .i64 0],[]⟩ 8 (by kernel_rfl) (by kernel_rfl) (by kernel_rfl) (by kernel_rfl)) ?_
 intro W base args ds gs i a hW w _
 have b: ∀(j:Nat) t v,Tryz.f7.params[j]? =some t→args[j]? =some v→Value.okWide Tryz.prog W .any base t v:=a
 have n:=hW
 obtain⟨p,q,g,G,rfl,B,J⟩:=hW
 have u:DataW.TrodAll enc Tryz.prog W 0 (fun _=>true) true Tryz.f7.params.toList args.toList ds p:=g
 rw[Tryz.params7]at u b
 obtain⟨s,A,Y,M,R,q0,k,rfl,rfl,o,r0⟩:=trodAll_cons u
 obtain⟨r,D,Z,E,X,q1,rfl,rfl,rfl,N,r1⟩:=trodAll_cons r0
 obtain⟨rfl,rfl,rfl⟩:=trodAll_nil r1
 obtain rfl:args= #[s,r]:=by cases args;simp_all
 obtain⟨rfl,rfl⟩:=trodVars_none G
 obtain⟨L,d,f,rfl⟩:=okWide_slice Tryz.underlying22 (b 0 22 s rfl rfl)
 have y:=o
 have l: ∀x∈R,x.block<W.heap.size:=by obtain⟨m,I⟩:=y;exact DataW.trod_lt m _ _ _ I
 obtain⟨V,w0⟩:=aH5 Tryz.underlying22 Tryz.underlying3 (by kernel_rfl) o
 obtain⟨F,rfl,rfl,rfl,w1⟩:=open_int Tryz.underlying3 (b 1 3 r rfl rfl) N
 clear g a
 refine(SeekRecordsW.walk L d f V F W w0 w1).mono fun e W' ⟨he,bel⟩=>?_
 subst he
 exact⟨_,rfl,_,_,_,[],_,[],n,trodAll_mk1 (shut_bool Tryz.underlying4 _),(trodAll_cons_mk (Below.trod laidOut (by kernel_rfl) (of_decide_eq_true (by kernel_rfl)) y bel l) (trodAll_cons_mk (shut_int Tryz.underlying3 w1) trodAll_mk0)),rfl,bel.frame _,fun h=>by cases h⟩
theorem all_inputs:Rows.seekRecordsRow.holds Tryz.pinned (OpenSpec.ofChange Rows.seekRecordsSpec):=
 OpenClaim.holds_of_wide 7 Tryz.f7 rfl rfl rfl rfl rfl rfl rfl ⟨rfl,rfl,rfl,rfl,rfl⟩ rfl rfl rfl rfl rfl (by kernel_rfl) Tryz.func7 (by kernel_rfl)
  (of_decide_eq_true (by kernel_rfl)) (by unfold Func.isWrapper;first|(rw[if_pos (by decide+kernel)];kernel_rfl)|(rw[if_neg (by decide+kernel)];exact⟨rfl,rfl⟩))
  (fun os started H enc _=>lifted os started H enc)
theorem proved:Rows.SeekRecordsSaid:=all_inputs
#print axioms proved
end seekRecords
end Go.Proofs.YtlelnfokffflnaaGreat
