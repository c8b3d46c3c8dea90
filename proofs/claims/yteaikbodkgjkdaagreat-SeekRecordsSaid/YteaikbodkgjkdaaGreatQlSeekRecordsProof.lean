/-
  Each right entry of a journal is told by its place, and is found by its number (SeekRecords), at all arguments.
-/
import Derived.Test.YteaikbodkgjkdaaGreatQlSeekRecordsb1
set_option linter.unusedVariables false
open Go.ChangeShapes Go.WideShapes Go.ChangeAt Go.RowKit
namespace Go.Proofs.YteaikbodkgjkdaaGreat
namespace seekRecords
open Go.ChangeMaps (open_string shut_string)
open Blk8
theorem own:ownKnob Tryz.prog.godebug=none:=by kernel_rfl
theorem laidOut:laidOutB Tryz.prog=true:=by kernel_rfl
set_option maxRecDepth 100000 in
theorem lifted (r:Os)(a:r.Started)(H:Type)(enc:TypeId×Value→H):
 ReturnsInHanded {} Tryz.checked r 7 .any (Rows.seekRecordsSpec.pre6 enc Tryz.prog Tryz.f7 Rows.seekRecordsRow.domain false) (Rows.seekRecordsSpec.post enc Tryz.prog Tryz.f7 false true false false):=by
 refine returnsInHanded_of_change (C:=Tryz.checked) own a (by kernel_rfl) Tryz.func7
  (ChangeSpec.witness6 (enc:=enc) (C:=Tryz.checked) false ⟨#[],#[.slice none 0 0,.int .i64 0],[]⟩ 8 (by kernel_rfl) (by kernel_rfl) (by kernel_rfl) (by kernel_rfl)) ?_
 intro W base args ds gs i c hW y _
 have b: ∀(j:Nat) t v,Tryz.f7.params[j]? =some t→args[j]? =some v→Value.okWide Tryz.prog W .any base t v:=c
 have n:=hW
 obtain⟨p,q,f,V,rfl,R,F⟩:=hW
 have w:DataW.TrodAll enc Tryz.prog W 0 (fun _=>true) true Tryz.f7.params.toList args.toList ds p:=f
 rw[Tryz.params7]at w b
 obtain⟨z,M,d0,B,L,X,l,rfl,rfl,o,r0⟩:=trodAll_cons w
 obtain⟨u,A,Z,E,p1,Y,rfl,rfl,rfl,D,r1⟩:=trodAll_cons r0
 obtain⟨rfl,rfl,rfl⟩:=trodAll_nil r1
 obtain rfl:args= #[z,u]:=by cases args;simp_all
 obtain⟨rfl,rfl⟩:=trodVars_none V
 obtain⟨J,g,d,rfl⟩:=okWide_slice Tryz.underlying22 (b 0 22 z rfl rfl)
 have s:=o
 have k: ∀x∈L,x.block<W.heap.size:=by obtain⟨m,I⟩:=s;exact DataW.trod_lt m _ _ _ I
 obtain⟨G,w0⟩:=aH5 Tryz.underlying22 Tryz.underlying3 (by kernel_rfl) o
 obtain⟨N,rfl,rfl,rfl,w1⟩:=open_int Tryz.underlying3 (b 1 3 u rfl rfl) D
 clear f c
 refine(SeekRecordsW.walk J g d G N W w0 w1).mono fun e W' ⟨he,bel⟩=>?_
 subst he
 exact⟨_,rfl,_,_,_,[],_,[],n,trodAll_mk1 (shut_bool Tryz.underlying4 _),(trodAll_cons_mk (Below.trod laidOut (by kernel_rfl) (of_decide_eq_true (by kernel_rfl)) s bel k) (trodAll_cons_mk (shut_int Tryz.underlying3 w1) trodAll_mk0)),rfl,bel.frame _,fun h=>by cases h⟩
theorem all_inputs:Rows.seekRecordsRow.holds Tryz.pinned (OpenSpec.ofChange Rows.seekRecordsSpec):=
 OpenClaim.holds_of_wide 7 Tryz.f7 rfl rfl rfl rfl rfl rfl rfl ⟨rfl,rfl,rfl,rfl,rfl⟩ rfl rfl rfl rfl rfl (by kernel_rfl) Tryz.func7 (by kernel_rfl)
  (of_decide_eq_true (by kernel_rfl)) (by unfold Func.isWrapper;first|(rw[if_pos (by decide+kernel)];kernel_rfl)|(rw[if_neg (by decide+kernel)];exact⟨rfl,rfl⟩))
  (fun os started H enc _=>lifted os started H enc)
theorem proved:Rows.SeekRecordsSaid:=all_inputs
#print axioms proved
end seekRecords
end Go.Proofs.YteaikbodkgjkdaaGreat
