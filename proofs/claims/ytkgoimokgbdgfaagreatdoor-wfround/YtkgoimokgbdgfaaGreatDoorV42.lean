/-
    WfRound: a program that may be, as bytes, is loaded as it is; one that may not be is refused for its reason.
  Conditions: errors.errorType and math/bits.deBruijn64tab hold what the program's text lays (the card ties them); the tie speaks of the pruned copy of the project that this seat loads.

-/
import Derived.Test.YtkgoimokgbdgfaaGreatDoorV39

namespace Go.Proofs.YtkgoimokgbdgfaaGreatDoor
open Go.ChangeAt Go.ChangeShapes Go.RowKit Go.WideShapes
set_option maxRecDepth 100000
theorem zeQ(H:Type)(enc:TypeId × Value→H)(W:World)(base:Nat)(args:Array Value)(ds gs:List (DataW H))(before:List MemPlace)
  (hval:∀ (j:Nat) t v,Tryz.f7.params[j]? = some t→args[j]? = some v→Value.okWide Tryz.prog W .any base t v)
  (hW:DataW.Whole enc Tryz.prog Tryz.f7.params.toList Rows.wfRoundSpec.vars false W args.toList ds gs before) (hL:laidMetH Tryz.prog Rows.wfRoundRow.laid W) (hwt:(DataW.weightsEach Tryz.prog (Tryz.f7.params.toList ++ (OpenSpec.ofChange Rows.wfRoundSpec).bare.plain.varTypes Tryz.prog) (ds ++ gs)).all (· ≤ reachBytes)=true):
  Calls Tryz.prog 7 args W fun e W'=>∃ v,e=.returned v∧Rows.wfRoundSpec.post enc Tryz.prog Tryz.f7 false true false false W args v W':=by
 have hW':=hW;obtain ⟨p,q,hA0,hV,rfl,hfz,hnd⟩:=hW;have hA:DataW.TrodAll enc Tryz.prog W 0 (fun _=>true) true Tryz.f7.params.toList args.toList ds p:=hA0;rw[Tryz.params7] at hA hval;obtain ⟨v0,vs0,d0,ds0,p0,q0,hargs,rfl,rfl,h0,r0⟩:=trodAll_cons hA;obtain ⟨rfl,rfl,rfl⟩:=trodAll_nil r0;obtain rfl:args=#[v0]:=by cases args;simp_all
 obtain ⟨rfl,rfl⟩:=trodVars_none hV;have k0:=h0;have lt0:∀ x∈p0,x.block<W.heap.size:=by obtain ⟨m,hm⟩:=k0;exact DataW.trod_lt m _ _ _ hm
 have hp0:=zdJ (hval 0 23 v0 rfl rfl) h0 (fun n hn=>by have:=List.all_eq_true.1 hwt n (DataW.weights_mem_each (j:=0) (t:=23) (d:=d0) rfl rfl n hn);simpa using this);clear hA0;refine (zmt v0 W (QI hL) (Qn hL) hp0).mono fun e W' ⟨he,hk⟩=> ?_;subst he;have bel:Below W.heap.size W W':=hk.below (Nat.le_refl _) (by simp);exact ⟨_,rfl,_,_,_,[],_,[],hW',trodAll_mk1 (shut_bool Tryz.underlying4 _),(trodAll_cons_mk (Below.trod zck (by kernel_rfl) (of_decide_eq_true (by kernel_rfl)) k0 bel lt0) trodAll_mk0),rfl,bel.frame _,fun h=>by cases h⟩
theorem zez(os:Os):laidMetH Tryz.prog Rows.wfRoundRow.laid ((jO Tryz.prog os).forCall (fun _ _=>0) ⟨#[],(#[Value.pointer none]:Array Value),[]⟩).memory:=
 laidMetH_of_parts (laidMet_of_run' 8 (by kernel_rfl) (by kernel_rfl)) (by kernel_rfl)
theorem zks(os:Os){H:Type}(enc:TypeId × Value→H):∃ places,DataW.whole enc Tryz.prog ((jO Tryz.prog os).forCall (fun _ _=>0) ⟨#[],(#[Value.pointer none]:Array Value),[]⟩).memory Tryz.f7.params.toList Rows.wfRoundSpec.vars false (#[Value.pointer none]:Array Value).toList 8=some ([.nil],[],places):=
 ⟨[],by kernel_rfl⟩
theorem zis(os:Os)(started:os.Started)(H:Type)(enc:TypeId × Value→H)(F:Stop.Interp):
  ReturnsInHanded {} Tryz.checked os 7 .any ((OpenSpec.ofChange Rows.wfRoundSpec).preRow enc Tryz.prog Tryz.f7 Rows.wfRoundRow.domain false Rows.wfRoundRow.laid) (((OpenSpec.ofChange Rows.wfRoundSpec).at F).post enc Tryz.prog Tryz.f7 false true false false):=by
 obtain ⟨places,hx⟩:=zks os enc;refine returnsInHanded_of_row (C:=Tryz.checked) (s:=(OpenSpec.ofChange Rows.wfRoundSpec)) own started (by kernel_rfl) Tryz.func7
  (witness_row_at (enc:=enc) (C:=Tryz.checked) false (jO Tryz.prog os) (#[Value.pointer none]:Array Value) rfl (by kernel_rfl) (by kernel_rfl) (by kernel_rfl)
   (OpenSpec.preRow_of_cond 8 hx (by kernel_rfl) (fun k hk=>by cases hk) (by kernel_rfl) (zez os))) ?_
 intro W base args ds gs before hval hW _ _ hwt hL _ _;exact zeQ H enc W base args ds gs before hval hW hL hwt
theorem wr_said:Rows.WfRoundSaid:=
 OpenClaim.holds_of_cond 7 Tryz.f7 rfl rfl rfl rfl rfl rfl rfl ⟨rfl,rfl,rfl,rfl,rfl⟩ rfl rfl rfl rfl rfl (by kernel_rfl) Tryz.func7 (by kernel_rfl)
  (of_decide_eq_true (by kernel_rfl)) (by unfold Func.isWrapper;first | (rw[if_pos (by decide +kernel)];kernel_rfl) | (rw[if_neg (by decide +kernel)];exact ⟨rfl,rfl⟩))
  (fun os started H enc _ F=>by rw[OpenClaim.pre_eq_preRow];exact zis os started H enc F)
theorem zjQ(f:FuncId)(fn:Func)(hf:Tryz.pinned.checked.prog.funcNamed "haruspex/haruspexlaw12.WfRound" = some f)(hfn:Tryz.pinned.checked.prog.funcs[f]? = some fn):
  true=Tryz.pinned.checked.prog.looks []∧∀ (j:Nat) t,fn.params[j]? = some t→Tryz.pinned.checked.prog.wantsStandIn t=false:=by
 obtain rfl:f=7:=Option.some.inj ((show Tryz.prog.funcNamed "haruspex/haruspexlaw12.WfRound" = some 7 by kernel_rfl).symm.trans hf) |>.symm
 obtain rfl:fn=Tryz.f7:=(Option.some.inj (Tryz.func7.symm.trans hfn)).symm;refine ⟨by kernel_rfl,fun j t ht=> ?_⟩;rw[Tryz.params7] at ht;obtain rfl:t=23:=by simpa using Array.mem_of_getElem? ht
 exact (show Tryz.prog.wantsStandIn 23=false by kernel_rfl)
theorem wfRound_card:Rows.WfRoundCardSaid:=
 Claim7.holds_tied_plain_at .later [] _ _ _ _ wr_said (fun _ h=>by cases h) (by kernel_rfl) (fun _ h=>by cases h) wfRound_row_tie rfl ⟨rfl,rfl⟩ (by kernel_rfl) rfl zjQ (by kernel_rfl)
#print axioms wfRound_card
end Go.Proofs.YtkgoimokgbdgfaaGreatDoor
