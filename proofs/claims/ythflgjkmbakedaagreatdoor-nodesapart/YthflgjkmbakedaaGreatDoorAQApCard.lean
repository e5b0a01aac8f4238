/-
  NodesApart returns true: each register, result and cell has a node of its own, and there are no others.
  Conditions: errors.errorType and math/bits.deBruijn64tab hold what the program's text lays (the card ties them); the tie speaks of the pruned copy of the project that this seat loads.
-/
import Derived.Test.YthflgjkmbakedaaGreatDoorA07
import Derived.Test.YthflgjkmbakedaaGreatDoorAQAp2
import Derived.Test.YthflgjkmbakedaaGreatDoorA08
namespace Go.Proofs.YthflgjkmbakedaaGreatDoor
open Go.ChangeShapes Go.WideShapes Go.ChangeAt Go.RowKit
set_option maxRecDepth 100000 in
theorem nx_contract(H:Type)(enc:TypeId × Value→H)(W:World)(base:Nat)(args:Array Value)(ds gs:List (DataW H))(before:List MemPlace)
  (hval:∀ (j:Nat) t v,Tryz.f9.params[j]? = some t→args[j]? = some v→Value.okWide Tryz.prog W .any base t v)
  (hW:DataW.Whole enc Tryz.prog Tryz.f9.params.toList Rows.nodesApartSpec.vars false W args.toList ds gs before) (hL:laidMetH Tryz.prog Rows.nodesApartRow.laid W) (hwt:(DataW.weightsEach Tryz.prog (Tryz.f9.params.toList ++ (OpenSpec.ofChange Rows.nodesApartSpec).bare.plain.varTypes Tryz.prog) (ds ++ gs)).all (· ≤ reachBytes)=true):
  Calls Tryz.prog 9 args W fun e W'=>∃ v,e=.returned v∧Rows.nodesApartSpec.post enc Tryz.prog Tryz.f9 false true false false W args v W':=by
 have hW':=hW
 obtain ⟨p,q,hA0,hV,rfl,hfz,hnd⟩:=hW
 have hA:DataW.TrodAll enc Tryz.prog W 0 (fun _=>true) true Tryz.f9.params.toList args.toList ds p:=hA0
 rw[Tryz.params9] at hA hval
 obtain ⟨v0,vs0,d0,ds0,p0,q0,hargs,rfl,rfl,h0,r0⟩:=trodAll_cons hA
 obtain ⟨rfl,rfl,rfl⟩:=trodAll_nil r0
 obtain rfl:args=#[v0]:=by cases args;simp_all
 obtain ⟨rfl,rfl⟩:=trodVars_none hV
 have k0:=h0
 have lt0:∀ x∈p0,x.block<W.heap.size:=by obtain ⟨m,hm⟩:=k0;exact DataW.trod_lt m _ _ _ hm
 have hp0:=zf6 (hval 0 22 v0 rfl rfl) h0 (fun n hn=>by have:=List.all_eq_true.1 hwt n (DataW.weights_mem_each (j:=0) (t:=22) (d:=d0) rfl rfl n hn);simpa using this)
 clear hA0
 refine (nodesApart_walk v0 W (zcd hL) (zb4 hL) hp0).mono fun e W' ⟨he,hk⟩=> ?_
 subst he
 have bel:Below W.heap.size W W':=hk.below (Nat.le_refl _) (by simp)
 exact ⟨_,rfl,_,_,_,[],_,[],hW',trodAll_mk1 (shut_bool Tryz.underlying4 _),(trodAll_cons_mk (Below.trod zjN (by kernel_rfl) (of_decide_eq_true (by kernel_rfl)) k0 bel lt0) trodAll_mk0),rfl,bel.frame _,fun h=>by cases h⟩
theorem nx_laid_met(os:Os):laidMetH Tryz.prog Rows.nodesApartRow.laid ((JL Tryz.prog os).forCall (fun _ _=>0) ⟨#[],(#[Value.pointer none]:Array Value),[]⟩).memory:=
 laidMetH_of_parts (laidMet_of_run' 8 (by kernel_rfl) (by kernel_rfl)) (by kernel_rfl)
theorem nx_reads(os:Os){H:Type}(enc:TypeId × Value→H):∃ places,DataW.whole enc Tryz.prog ((JL Tryz.prog os).forCall (fun _ _=>0) ⟨#[],(#[Value.pointer none]:Array Value),[]⟩).memory Tryz.f9.params.toList Rows.nodesApartSpec.vars false (#[Value.pointer none]:Array Value).toList 8=some ([.nil],[],places):=
 ⟨[],by kernel_rfl⟩
set_option maxRecDepth 100000 in
theorem nx_lifted(os:Os)(started:os.Started)(H:Type)(enc:TypeId × Value→H)(F:Stop.Interp):
  ReturnsInHanded {} Tryz.checked os 9 .any ((OpenSpec.ofChange Rows.nodesApartSpec).preRow enc Tryz.prog Tryz.f9 Rows.nodesApartRow.domain false Rows.nodesApartRow.laid) (((OpenSpec.ofChange Rows.nodesApartSpec).at F).post enc Tryz.prog Tryz.f9 false true false false):=by
 obtain ⟨places,hx⟩:=nx_reads os enc
 refine returnsInHanded_of_row (C:=Tryz.checked) (s:=(OpenSpec.ofChange Rows.nodesApartSpec)) own started (by kernel_rfl) Tryz.func9
  (witness_row_at (enc:=enc) (C:=Tryz.checked) false (JL Tryz.prog os) (#[Value.pointer none]:Array Value) rfl (by kernel_rfl) (by kernel_rfl) (by kernel_rfl)
   (OpenSpec.preRow_of_cond 8 hx (by kernel_rfl) (fun k hk=>by cases hk) (by kernel_rfl) (nx_laid_met os))) ?_
 intro W base args ds gs before hval hW _ _ hwt hL _ _
 exact nx_contract H enc W base args ds gs before hval hW hL hwt
theorem nx_andI{a b:Bool}(h:a=true)(k:b=true):(a && b)=true:=by rw[h,k];rfl
set_option maxHeartbeats 8000000 in
theorem nx_closed:joinedFacts Tryz.pinned.checked.prog 9 Tryz.f9 (OpenSpec.ofChange Rows.nodesApartSpec).bare Rows.nodesApartRow=true:=by
 unfold joinedFacts
 repeat' (with_reducible refine nx_andI ?_ ?_)
 all_goals (as_aux_lemma=>kernel_rfl)
theorem nx_said:Rows.NodesApartSaid:=
 OpenClaim.holds_of_cond 9 Tryz.f9 rfl rfl rfl rfl rfl rfl rfl ⟨rfl,rfl,rfl,rfl,rfl⟩ rfl rfl rfl rfl rfl (by kernel_rfl) Tryz.func9 nx_closed
  (of_decide_eq_true (by kernel_rfl)) (by unfold Func.isWrapper;first | (rw[if_pos (by decide +kernel)];kernel_rfl) | (rw[if_neg (by decide +kernel)];exact ⟨rfl,rfl⟩))
  (fun os started H enc _ F=>by rw[OpenClaim.pre_eq_preRow];exact nx_lifted os started H enc F)
theorem nx_plain(f:FuncId)(fn:Func)(hf:Tryz.pinned.checked.prog.funcNamed "haruspex/haruspexlaw16.NodesApart" = some f)(hfn:Tryz.pinned.checked.prog.funcs[f]? = some fn):
  true=Tryz.pinned.checked.prog.looks []∧∀ (j:Nat) t,fn.params[j]? = some t→Tryz.pinned.checked.prog.wantsStandIn t=false:=by
 obtain rfl:f=9:=Option.some.inj ((show Tryz.prog.funcNamed "haruspex/haruspexlaw16.NodesApart" = some 9 by kernel_rfl).symm.trans hf) |>.symm
 obtain rfl:fn=Tryz.f9:=(Option.some.inj (Tryz.func9.symm.trans hfn)).symm
 refine ⟨by kernel_rfl,fun j t ht=> ?_⟩
 rw[Tryz.params9] at ht
 obtain rfl:t=22:=by simpa using Array.mem_of_getElem? ht
 exact (show Tryz.prog.wantsStandIn 22=false by kernel_rfl)
theorem nodesApart_card:Rows.NodesApartCardSaid:=
 Claim7.holds_tied_plain_at .later [] _ _ _ _ nx_said (fun _ h=>by cases h) (by kernel_rfl) (fun _ h=>by cases h) nodesApart_row_tie rfl ⟨rfl,rfl⟩ (by kernel_rfl) rfl nx_plain (by kernel_rfl)
#print axioms nodesApart_card
end Go.Proofs.YthflgjkmbakedaaGreatDoor
