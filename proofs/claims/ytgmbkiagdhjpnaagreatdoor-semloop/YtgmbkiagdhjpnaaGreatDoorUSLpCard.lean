/-
  SemLoop returns true: a loop goes round as often as what comes from without is not 0.
  Conditions: errors.errorType and math/bits.deBruijn64tab hold what the program's text lays (the card ties them); the tie speaks of the pruned copy of the project that this seat loads.
-/
import Derived.Test.YtgmbkiagdhjpnaaGreatDoorU12
import Derived.Test.YtgmbkiagdhjpnaaGreatDoorUSLpLaw
import Derived.Test.YtgmbkiagdhjpnaaGreatDoorU04
namespace Go.Proofs.YtgmbkiagdhjpnaaGreatDoor
open Go.ChangeShapes Go.WideShapes Go.ChangeAt Go.RowKit
set_option maxRecDepth 100000 in
theorem lp_contract(H:Type)(enc:TypeId × Value→H)(W:World)(base:Nat)(args:Array Value)(ds gs:List (DataW H))(before:List MemPlace)
  (hval:∀ (j:Nat) t v,Tryz.f9.params[j]? = some t→args[j]? = some v→Value.okWide Tryz.prog W .any base t v)
  (hW:DataW.Whole enc Tryz.prog Tryz.f9.params.toList Rows.semLoopSpec.vars false W args.toList ds gs before) (hL:laidMetH Tryz.prog Rows.semLoopRow.laid W):
  Calls Tryz.prog 9 args W fun e W'=>∃ v,e=.returned v∧Rows.semLoopSpec.post enc Tryz.prog Tryz.f9 false true false false W args v W':=by
 have hW':=hW
 obtain ⟨p,q,hA0,hV,rfl,hfz,hnd⟩:=hW
 have hA:DataW.TrodAll enc Tryz.prog W 0 (fun _=>true) true Tryz.f9.params.toList args.toList ds p:=hA0
 rw[Tryz.params9] at hA hval
 obtain ⟨v0,vs0,d0,ds0,p0,q0,hargs,rfl,rfl,h0,r0⟩:=trodAll_cons hA
 obtain ⟨rfl,rfl,rfl⟩:=trodAll_nil r0
 obtain rfl:args=#[v0]:=by cases args;simp_all
 obtain ⟨rfl,rfl⟩:=trodVars_none hV
 obtain ⟨n0,rfl,rfl,rfl,wn0⟩:=open_int Tryz.underlying3 (hval 0 3 v0 rfl rfl) h0
 clear hA0
 refine (semLoop_walk n0 W (zaA hL) (zaa hL) (zku wn0)).mono fun e W' ⟨he,hk⟩=> ?_
 subst he
 have bel:Below W.heap.size W W':=hk.below (Nat.le_refl _) (by simp)
 exact ⟨_,rfl,_,_,_,[],_,[],hW',trodAll_mk1 (shut_bool Tryz.underlying4 _),(trodAll_cons_mk (shut_int Tryz.underlying3 wn0) trodAll_mk0),rfl,bel.frame _,fun h=>by cases h⟩
theorem lp_laid_met(os:Os):laidMetH Tryz.prog Rows.semLoopRow.laid ((Q3 Tryz.prog os).forCall (fun _ _=>0) ⟨#[],(#[Value.int .i64 0]:Array Value),[]⟩).memory:=
 laidMetH_of_parts (laidMet_of_run' 8 (by kernel_rfl) (by kernel_rfl)) (by kernel_rfl)
theorem lp_reads(os:Os){H:Type}(enc:TypeId × Value→H):∃ places,DataW.whole enc Tryz.prog ((Q3 Tryz.prog os).forCall (fun _ _=>0) ⟨#[],(#[Value.int .i64 0]:Array Value),[]⟩).memory Tryz.f9.params.toList Rows.semLoopSpec.vars false (#[Value.int .i64 0]:Array Value).toList 8=some ([.lit (.int .i64 0)],[],places):=
 ⟨[],by kernel_rfl⟩
set_option maxRecDepth 100000 in
theorem lp_lifted(os:Os)(started:os.Started)(H:Type)(enc:TypeId × Value→H)(F:Stop.Interp):
  ReturnsInHanded {} Tryz.checked os 9 .any ((OpenSpec.ofChange Rows.semLoopSpec).preRow enc Tryz.prog Tryz.f9 Rows.semLoopRow.domain false Rows.semLoopRow.laid) (((OpenSpec.ofChange Rows.semLoopSpec).at F).post enc Tryz.prog Tryz.f9 false true false false):=by
 obtain ⟨places,hx⟩:=lp_reads os enc
 refine returnsInHanded_of_row (C:=Tryz.checked) (s:=(OpenSpec.ofChange Rows.semLoopSpec)) own started (by kernel_rfl) Tryz.func9
  (witness_row_at (enc:=enc) (C:=Tryz.checked) false (Q3 Tryz.prog os) (#[Value.int .i64 0]:Array Value) rfl (by kernel_rfl) (by kernel_rfl) (by kernel_rfl)
   (OpenSpec.preRow_of_cond 8 hx (by kernel_rfl) (fun k hk=>by cases hk) (by kernel_rfl) (lp_laid_met os))) ?_
 intro W base args ds gs before hval hW _ _ _ hL _ _
 exact lp_contract H enc W base args ds gs before hval hW hL
theorem lp_andI{a b:Bool}(h:a=true)(k:b=true):(a && b)=true:=by rw[h,k];rfl
set_option maxHeartbeats 8000000 in
theorem lp_closed:joinedFacts Tryz.pinned.checked.prog 9 Tryz.f9 (OpenSpec.ofChange Rows.semLoopSpec).bare Rows.semLoopRow=true:=by
 unfold joinedFacts
 repeat' (with_reducible refine lp_andI ?_ ?_)
 all_goals (as_aux_lemma=>kernel_rfl)
theorem lp_said:Rows.SemLoopSaid:=
 OpenClaim.holds_of_cond 9 Tryz.f9 rfl rfl rfl rfl rfl rfl rfl ⟨rfl,rfl,rfl,rfl,rfl⟩ rfl rfl rfl rfl rfl (by kernel_rfl) Tryz.func9 lp_closed
  (of_decide_eq_true (by kernel_rfl)) (by unfold Func.isWrapper;first | (rw[if_pos (by decide +kernel)];kernel_rfl) | (rw[if_neg (by decide +kernel)];exact ⟨rfl,rfl⟩))
  (fun os started H enc _ F=>by rw[OpenClaim.pre_eq_preRow];exact lp_lifted os started H enc F)
theorem lp_plain(f:FuncId)(fn:Func)(hf:Tryz.pinned.checked.prog.funcNamed "haruspex/haruspexlaw14.SemLoop" = some f)(hfn:Tryz.pinned.checked.prog.funcs[f]? = some fn):
  true=Tryz.pinned.checked.prog.looks []∧∀ (j:Nat) t,fn.params[j]? = some t→Tryz.pinned.checked.prog.wantsStandIn t=false:=by
 obtain rfl:f=9:=Option.some.inj ((show Tryz.prog.funcNamed "haruspex/haruspexlaw14.SemLoop" = some 9 by kernel_rfl).symm.trans hf) |>.symm
 obtain rfl:fn=Tryz.f9:=(Option.some.inj (Tryz.func9.symm.trans hfn)).symm
 refine ⟨by kernel_rfl,fun j t ht=> ?_⟩
 rw[Tryz.params9] at ht
 obtain rfl:t=3:=by simpa using Array.mem_of_getElem? ht
 exact (show Tryz.prog.wantsStandIn 3=false by kernel_rfl)
theorem semLoop_card:Rows.SemLoopCardSaid:=
 Claim7.holds_tied_plain_at .later [] _ _ _ _ lp_said (fun _ h=>by cases h) (by kernel_rfl) (fun _ h=>by cases h) semLoop_row_tie rfl ⟨rfl,rfl⟩ (by kernel_rfl) rfl lp_plain (by kernel_rfl)
#print axioms semLoop_card
end Go.Proofs.YtgmbkiagdhjpnaaGreatDoor
