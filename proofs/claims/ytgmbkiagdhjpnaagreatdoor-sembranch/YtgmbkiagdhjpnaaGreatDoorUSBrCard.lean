/-
  SemBranch returns true: a branch goes to one block of a number that is not 0, to the other one of 0.
  Conditions: errors.errorType and math/bits.deBruijn64tab hold what the program's text lays (the card ties them); the tie speaks of the pruned copy of the project that this seat loads.
-/
import Derived.Test.YtgmbkiagdhjpnaaGreatDoorU12
import Derived.Test.YtgmbkiagdhjpnaaGreatDoorUSBrLaw
import Derived.Test.YtgmbkiagdhjpnaaGreatDoorU04
namespace Go.Proofs.YtgmbkiagdhjpnaaGreatDoor
open Go.ChangeShapes Go.WideShapes Go.ChangeAt Go.RowKit
set_option maxRecDepth 100000 in
theorem br_contract(H:Type)(enc:TypeId × Value→H)(W:World)(base:Nat)(args:Array Value)(ds gs:List (DataW H))(before:List MemPlace)
  (hval:∀ (j:Nat) t v,Tryz.f8.params[j]? = some t→args[j]? = some v→Value.okWide Tryz.prog W .any base t v)
  (hW:DataW.Whole enc Tryz.prog Tryz.f8.params.toList Rows.semBranchSpec.vars false W args.toList ds gs before) (hL:laidMetH Tryz.prog Rows.semBranchRow.laid W):
  Calls Tryz.prog 8 args W fun e W'=>∃ v,e=.returned v∧Rows.semBranchSpec.post enc Tryz.prog Tryz.f8 false true false false W args v W':=by
 have hW':=hW
 obtain ⟨p,q,hA0,hV,rfl,hfz,hnd⟩:=hW
 have hA:DataW.TrodAll enc Tryz.prog W 0 (fun _=>true) true Tryz.f8.params.toList args.toList ds p:=hA0
 rw[Tryz.params8] at hA hval
 obtain ⟨v0,vs0,d0,ds0,p0,q0,hargs,rfl,rfl,h0,r0⟩:=trodAll_cons hA
 obtain ⟨rfl,rfl,rfl⟩:=trodAll_nil r0
 obtain rfl:args=#[v0]:=by cases args;simp_all
 obtain ⟨rfl,rfl⟩:=trodVars_none hV
 obtain ⟨n0,rfl,rfl,rfl,wn0⟩:=open_int Tryz.underlying2 (hval 0 2 v0 rfl rfl) h0
 clear hA0
 refine (semBranch_walk n0 W (zaA hL) (zaa hL) (zku wn0)).mono fun e W' ⟨he,hk⟩=> ?_
 subst he
 have bel:Below W.heap.size W W':=hk.below (Nat.le_refl _) (by simp)
 exact ⟨_,rfl,_,_,_,[],_,[],hW',trodAll_mk1 (shut_bool Tryz.underlying4 _),(trodAll_cons_mk (shut_int Tryz.underlying2 wn0) trodAll_mk0),rfl,bel.frame _,fun h=>by cases h⟩
theorem br_laid_met(os:Os):laidMetH Tryz.prog Rows.semBranchRow.laid ((Q3 Tryz.prog os).forCall (fun _ _=>0) ⟨#[],(#[Value.int .i64 0]:Array Value),[]⟩).memory:=
 laidMetH_of_parts (laidMet_of_run' 8 (by kernel_rfl) (by kernel_rfl)) (by kernel_rfl)
theorem br_reads(os:Os){H:Type}(enc:TypeId × Value→H):∃ places,DataW.whole enc Tryz.prog ((Q3 Tryz.prog os).forCall (fun _ _=>0) ⟨#[],(#[Value.int .i64 0]:Array Value),[]⟩).memory Tryz.f8.params.toList Rows.semBranchSpec.vars false (#[Value.int .i64 0]:Array Value).toList 8=some ([.lit (.int .i64 0)],[],places):=
 ⟨[],by kernel_rfl⟩
set_option maxRecDepth 100000 in
theorem br_lifted(os:Os)(started:os.Started)(H:Type)(enc:TypeId × Value→H)(F:Stop.Interp):
  ReturnsInHanded {} Tryz.checked os 8 .any ((OpenSpec.ofChange Rows.semBranchSpec).preRow enc Tryz.prog Tryz.f8 Rows.semBranchRow.domain false Rows.semBranchRow.laid) (((OpenSpec.ofChange Rows.semBranchSpec).at F).post enc Tryz.prog Tryz.f8 false true false false):=by
 obtain ⟨places,hx⟩:=br_reads os enc
 refine returnsInHanded_of_row (C:=Tryz.checked) (s:=(OpenSpec.ofChange Rows.semBranchSpec)) own started (by kernel_rfl) Tryz.func8
  (witness_row_at (enc:=enc) (C:=Tryz.checked) false (Q3 Tryz.prog os) (#[Value.int .i64 0]:Array Value) rfl (by kernel_rfl) (by kernel_rfl) (by kernel_rfl)
   (OpenSpec.preRow_of_cond 8 hx (by kernel_rfl) (fun k hk=>by cases hk) (by kernel_rfl) (br_laid_met os))) ?_
 intro W base args ds gs before hval hW _ _ _ hL _ _
 exact br_contract H enc W base args ds gs before hval hW hL
theorem br_andI{a b:Bool}(h:a=true)(k:b=true):(a && b)=true:=by rw[h,k];rfl
set_option maxHeartbeats 8000000 in
theorem br_closed:joinedFacts Tryz.pinned.checked.prog 8 Tryz.f8 (OpenSpec.ofChange Rows.semBranchSpec).bare Rows.semBranchRow=true:=by
 unfold joinedFacts
 repeat' (with_reducible refine br_andI ?_ ?_)
 all_goals (as_aux_lemma=>kernel_rfl)
theorem br_said:Rows.SemBranchSaid:=
 OpenClaim.holds_of_cond 8 Tryz.f8 rfl rfl rfl rfl rfl rfl rfl ⟨rfl,rfl,rfl,rfl,rfl⟩ rfl rfl rfl rfl rfl (by kernel_rfl) Tryz.func8 br_closed
  (of_decide_eq_true (by kernel_rfl)) (by unfold Func.isWrapper;first | (rw[if_pos (by decide +kernel)];kernel_rfl) | (rw[if_neg (by decide +kernel)];exact ⟨rfl,rfl⟩))
  (fun os started H enc _ F=>by rw[OpenClaim.pre_eq_preRow];exact br_lifted os started H enc F)
theorem br_plain(f:FuncId)(fn:Func)(hf:Tryz.pinned.checked.prog.funcNamed "haruspex/haruspexlaw14.SemBranch" = some f)(hfn:Tryz.pinned.checked.prog.funcs[f]? = some fn):
  true=Tryz.pinned.checked.prog.looks []∧∀ (j:Nat) t,fn.params[j]? = some t→Tryz.pinned.checked.prog.wantsStandIn t=false:=by
 obtain rfl:f=8:=Option.some.inj ((show Tryz.prog.funcNamed "haruspex/haruspexlaw14.SemBranch" = some 8 by kernel_rfl).symm.trans hf) |>.symm
 obtain rfl:fn=Tryz.f8:=(Option.some.inj (Tryz.func8.symm.trans hfn)).symm
 refine ⟨by kernel_rfl,fun j t ht=> ?_⟩
 rw[Tryz.params8] at ht
 obtain rfl:t=2:=by simpa using Array.mem_of_getElem? ht
 exact (show Tryz.prog.wantsStandIn 2=false by kernel_rfl)
theorem semBranch_card:Rows.SemBranchCardSaid:=
 Claim7.holds_tied_plain_at .later [] _ _ _ _ br_said (fun _ h=>by cases h) (by kernel_rfl) (fun _ h=>by cases h) semBranch_row_tie rfl ⟨rfl,rfl⟩ (by kernel_rfl) rfl br_plain (by kernel_rfl)
#print axioms semBranch_card
end Go.Proofs.YtgmbkiagdhjpnaaGreatDoor
