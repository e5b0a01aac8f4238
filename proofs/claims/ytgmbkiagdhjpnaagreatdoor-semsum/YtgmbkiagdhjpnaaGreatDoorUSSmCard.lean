/-
  SemSum returns true: a program that adds numbers gives their sum.
  Conditions: errors.errorType and math/bits.deBruijn64tab hold what the program's text lays (the card ties them); the tie speaks of the pruned copy of the project that this seat loads.
-/
import Derived.Test.YtgmbkiagdhjpnaaGreatDoorU12
import Derived.Test.YtgmbkiagdhjpnaaGreatDoorUSSmLaw
import Derived.Test.YtgmbkiagdhjpnaaGreatDoorU13
namespace Go.Proofs.YtgmbkiagdhjpnaaGreatDoor
open Go.ChangeShapes Go.WideShapes Go.ChangeAt Go.RowKit
set_option maxRecDepth 100000 in
theorem sm_contract(H:Type)(enc:TypeId × Value→H)(W:World)(base:Nat)(args:Array Value)(ds gs:List (DataW H))(before:List MemPlace)
  (hval:∀ (j:Nat) t v,Tryz.f13.params[j]? = some t→args[j]? = some v→Value.okWide Tryz.prog W .any base t v)
  (hW:DataW.Whole enc Tryz.prog Tryz.f13.params.toList Rows.semSumSpec.vars false W args.toList ds gs before) (hL:laidMetH Tryz.prog Rows.semSumRow.laid W):
  Calls Tryz.prog 13 args W fun e W'=>∃ v,e=.returned v∧Rows.semSumSpec.post enc Tryz.prog Tryz.f13 false true false false W args v W':=by
 have hW':=hW
 obtain ⟨p,q,hA0,hV,rfl,hfz,hnd⟩:=hW
 have hA:DataW.TrodAll enc Tryz.prog W 0 (fun _=>true) true Tryz.f13.params.toList args.toList ds p:=hA0
 rw[Tryz.params13] at hA hval
 obtain ⟨v0,vs0,d0,ds0,p0,q0,hargs,rfl,rfl,h0,r0⟩:=trodAll_cons hA
 obtain ⟨rfl,rfl,rfl⟩:=trodAll_nil r0
 obtain rfl:args=#[v0]:=by cases args;simp_all
 obtain ⟨rfl,rfl⟩:=trodVars_none hV
 have k0:=h0
 have lt0:∀ x∈p0,x.block<W.heap.size:=by obtain ⟨m,hm⟩:=k0;exact DataW.trod_lt m _ _ _ hm
 obtain ⟨a0,cap0,l0,rfl,hx0,hc0,hm0⟩:=zkT (hval 0 63 v0 rfl rfl) h0
 clear hA0
 refine (semSum_walk a0 cap0 l0 W (zaA hL) (zaa hL) hx0 hc0 hm0).mono fun e W' ⟨he,hk⟩=> ?_
 subst he
 have bel:Below W.heap.size W W':=hk.below (Nat.le_refl _) (by simp)
 exact ⟨_,rfl,_,_,_,[],_,[],hW',trodAll_mk1 (shut_bool Tryz.underlying4 _),(trodAll_cons_mk (Below.trod zmn (by kernel_rfl) (of_decide_eq_true (by kernel_rfl)) k0 bel lt0) trodAll_mk0),rfl,bel.frame _,fun h=>by cases h⟩
theorem sm_laid_met(os:Os):laidMetH Tryz.prog Rows.semSumRow.laid ((Q3 Tryz.prog os).forCall (fun _ _=>0) ⟨#[],(#[Value.slice none 0 0]:Array Value),[]⟩).memory:=
 laidMetH_of_parts (laidMet_of_run' 8 (by kernel_rfl) (by kernel_rfl)) (by kernel_rfl)
theorem sm_reads(os:Os){H:Type}(enc:TypeId × Value→H):∃ places,DataW.whole enc Tryz.prog ((Q3 Tryz.prog os).forCall (fun _ _=>0) ⟨#[],(#[Value.slice none 0 0]:Array Value),[]⟩).memory Tryz.f13.params.toList Rows.semSumSpec.vars false (#[Value.slice none 0 0]:Array Value).toList 8=some ([.nil],[],places):=
 ⟨[],by kernel_rfl⟩
set_option maxRecDepth 100000 in
theorem sm_lifted(os:Os)(started:os.Started)(H:Type)(enc:TypeId × Value→H)(F:Stop.Interp):
  ReturnsInHanded {} Tryz.checked os 13 .any ((OpenSpec.ofChange Rows.semSumSpec).preRow enc Tryz.prog Tryz.f13 Rows.semSumRow.domain false Rows.semSumRow.laid) (((OpenSpec.ofChange Rows.semSumSpec).at F).post enc Tryz.prog Tryz.f13 false true false false):=by
 obtain ⟨places,hx⟩:=sm_reads os enc
 refine returnsInHanded_of_row (C:=Tryz.checked) (s:=(OpenSpec.ofChange Rows.semSumSpec)) own started (by kernel_rfl) Tryz.func13
  (witness_row_at (enc:=enc) (C:=Tryz.checked) false (Q3 Tryz.prog os) (#[Value.slice none 0 0]:Array Value) rfl (by kernel_rfl) (by kernel_rfl) (by kernel_rfl)
   (OpenSpec.preRow_of_cond 8 hx (by kernel_rfl) (fun k hk=>by cases hk) (by kernel_rfl) (sm_laid_met os))) ?_
 intro W base args ds gs before hval hW _ _ _ hL _ _
 exact sm_contract H enc W base args ds gs before hval hW hL
theorem sm_andI{a b:Bool}(h:a=true)(k:b=true):(a && b)=true:=by rw[h,k];rfl
set_option maxHeartbeats 8000000 in
theorem sm_closed:joinedFacts Tryz.pinned.checked.prog 13 Tryz.f13 (OpenSpec.ofChange Rows.semSumSpec).bare Rows.semSumRow=true:=by
 unfold joinedFacts
 repeat' (with_reducible refine sm_andI ?_ ?_)
 all_goals (as_aux_lemma=>kernel_rfl)
theorem sm_said:Rows.SemSumSaid:=
 OpenClaim.holds_of_cond 13 Tryz.f13 rfl rfl rfl rfl rfl rfl rfl ⟨rfl,rfl,rfl,rfl,rfl⟩ rfl rfl rfl rfl rfl (by kernel_rfl) Tryz.func13 sm_closed
  (of_decide_eq_true (by kernel_rfl)) (by unfold Func.isWrapper;first | (rw[if_pos (by decide +kernel)];kernel_rfl) | (rw[if_neg (by decide +kernel)];exact ⟨rfl,rfl⟩))
  (fun os started H enc _ F=>by rw[OpenClaim.pre_eq_preRow];exact sm_lifted os started H enc F)
theorem sm_plain(f:FuncId)(fn:Func)(hf:Tryz.pinned.checked.prog.funcNamed "haruspex/haruspexlaw14.SemSum" = some f)(hfn:Tryz.pinned.checked.prog.funcs[f]? = some fn):
  true=Tryz.pinned.checked.prog.looks []∧∀ (j:Nat) t,fn.params[j]? = some t→Tryz.pinned.checked.prog.wantsStandIn t=false:=by
 obtain rfl:f=13:=Option.some.inj ((show Tryz.prog.funcNamed "haruspex/haruspexlaw14.SemSum" = some 13 by kernel_rfl).symm.trans hf) |>.symm
 obtain rfl:fn=Tryz.f13:=(Option.some.inj (Tryz.func13.symm.trans hfn)).symm
 refine ⟨by kernel_rfl,fun j t ht=> ?_⟩
 rw[Tryz.params13] at ht
 obtain rfl:t=63:=by simpa using Array.mem_of_getElem? ht
 exact (show Tryz.prog.wantsStandIn 63=false by kernel_rfl)
theorem semSum_card:Rows.SemSumCardSaid:=
 Claim7.holds_tied_plain_at .later [] _ _ _ _ sm_said (fun _ h=>by cases h) (by kernel_rfl) (fun _ h=>by cases h) semSum_row_tie rfl ⟨rfl,rfl⟩ (by kernel_rfl) rfl sm_plain (by kernel_rfl)
#print axioms semSum_card
end Go.Proofs.YtgmbkiagdhjpnaaGreatDoor
