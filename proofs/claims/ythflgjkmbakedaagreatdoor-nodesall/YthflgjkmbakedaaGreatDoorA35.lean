/-
    NodesAll returns true: registers, results and cells of any program that may be have their numbers.
  Conditions: errors.errorType and math/bits.deBruijn64tab hold what the program's text lays (the card ties them); the tie speaks of the pruned copy of the project that this seat loads.

-/
import Derived.Test.YthflgjkmbakedaaGreatDoorA34

namespace Go.Proofs.YthflgjkmbakedaaGreatDoor
open Go.ChangeAt Go.ChangeShapes Go.RowKit Go.WideShapes
set_option maxRecDepth 100000
set_option maxHeartbeats 8000000
theorem zc9(H:Type)(enc:TypeId × Value→H)(W:World)(base:Nat)(args:Array Value)(ds gs:List (DataW H))(before:List MemPlace)
  (hval:∀ (j:Nat) t v,Tryz.f7.params[j]? = some t→args[j]? = some v→Value.okWide Tryz.prog W .any base t v)
  (hW:DataW.Whole enc Tryz.prog Tryz.f7.params.toList Rows.nodesAllSpec.vars false W args.toList ds gs before) (hL:laidMetH Tryz.prog Rows.nodesAllRow.laid W) (hwt:(DataW.weightsEach Tryz.prog (Tryz.f7.params.toList ++ (OpenSpec.ofChange Rows.nodesAllSpec).bare.plain.varTypes Tryz.prog) (ds ++ gs)).all (· ≤ reachBytes)=true):
  Calls Tryz.prog 7 args W fun e W'=>∃ v,e=.returned v∧Rows.nodesAllSpec.post enc Tryz.prog Tryz.f7 false true false false W args v W':=by
 have hW':=hW;obtain ⟨p,q,hA0,hV,rfl,hfz,hnd⟩:=hW;have hA:DataW.TrodAll enc Tryz.prog W 0 (fun _=>true) true Tryz.f7.params.toList args.toList ds p:=hA0;rw[Tryz.params7] at hA hval;obtain ⟨v0,vs0,d0,ds0,p0,q0,hargs,rfl,rfl,h0,r0⟩:=trodAll_cons hA;obtain ⟨v1,vs1,d1,ds1,p1,q1,rfl,rfl,rfl,h1,r1⟩:=trodAll_cons r0;obtain ⟨v2,vs2,d2,ds2,p2,q2,rfl,rfl,rfl,h2,r2⟩:=trodAll_cons r1;obtain ⟨rfl,rfl,rfl⟩:=trodAll_nil r2;obtain rfl:args=#[v0,v1,v2]:=by cases args;simp_all
 obtain ⟨rfl,rfl⟩:=trodVars_none hV;have k0:=h0;have lt0:∀ x∈p0,x.block<W.heap.size:=by obtain ⟨m,hm⟩:=k0;exact DataW.trod_lt m _ _ _ hm
 have hp0:=zf6 (hval 0 22 v0 rfl rfl) h0 (fun n hn=>by have:=List.all_eq_true.1 hwt n (DataW.weights_mem_each (j:=0) (t:=22) (d:=d0) rfl rfl n hn);simpa using this);obtain ⟨n1,rfl,rfl,rfl,wn1⟩:=open_int Tryz.underlying3 (hval 1 3 v1 rfl rfl) h1;obtain ⟨n2,rfl,rfl,rfl,wn2⟩:=open_int Tryz.underlying3 (hval 2 3 v2 rfl rfl) h2;clear hA0;refine (zb3 v0 n1 n2 W (zcd hL) (zb4 hL) hp0 (zfD wn1) (zfD wn2)).mono fun e W' ⟨he,hk⟩=> ?_;subst he;have bel:Below W.heap.size W W':=hk.below (Nat.le_refl _) (by simp);exact ⟨_,rfl,_,_,_,[],_,[],hW',trodAll_mk1 (shut_bool Tryz.underlying4 _),(trodAll_cons_mk (Below.trod zjN (by kernel_rfl) (of_decide_eq_true (by kernel_rfl)) k0 bel lt0) (trodAll_cons_mk (shut_int Tryz.underlying3 wn1) (trodAll_cons_mk (shut_int Tryz.underlying3 wn2) trodAll_mk0))),rfl,bel.frame _,fun h=>by cases h⟩
theorem zcT(os:Os):laidMetH Tryz.prog Rows.nodesAllRow.laid ((JL Tryz.prog os).forCall (fun _ _=>0) ⟨#[],(#[Value.pointer none,Value.int .i64 0,Value.int .i64 0]:Array Value),[]⟩).memory:=
 laidMetH_of_parts (laidMet_of_run' 8 (by kernel_rfl) (by kernel_rfl)) (by kernel_rfl)
theorem zi8(os:Os){H:Type}(enc:TypeId × Value→H):∃ places,DataW.whole enc Tryz.prog ((JL Tryz.prog os).forCall (fun _ _=>0) ⟨#[],(#[Value.pointer none,Value.int .i64 0,Value.int .i64 0]:Array Value),[]⟩).memory Tryz.f7.params.toList Rows.nodesAllSpec.vars false (#[Value.pointer none,Value.int .i64 0,Value.int .i64 0]:Array Value).toList 8=some ([.nil,.lit (.int .i64 0),.lit (.int .i64 0)],[],places):=
 ⟨[],by kernel_rfl⟩
theorem zhp(os:Os)(started:os.Started)(H:Type)(enc:TypeId × Value→H)(F:Stop.Interp):
  ReturnsInHanded {} Tryz.checked os 7 .any ((OpenSpec.ofChange Rows.nodesAllSpec).preRow enc Tryz.prog Tryz.f7 Rows.nodesAllRow.domain false Rows.nodesAllRow.laid) (((OpenSpec.ofChange Rows.nodesAllSpec).at F).post enc Tryz.prog Tryz.f7 false true false false):=by
 obtain ⟨places,hx⟩:=zi8 os enc;refine returnsInHanded_of_row (C:=Tryz.checked) (s:=(OpenSpec.ofChange Rows.nodesAllSpec)) own started (by kernel_rfl) Tryz.func7
  (witness_row_at (enc:=enc) (C:=Tryz.checked) false (JL Tryz.prog os) (#[Value.pointer none,Value.int .i64 0,Value.int .i64 0]:Array Value) rfl (by kernel_rfl) (by kernel_rfl) (by kernel_rfl)
   (OpenSpec.preRow_of_cond 8 hx (by kernel_rfl) (fun k hk=>by cases hk) (by kernel_rfl) (zcT os))) ?_
 intro W base args ds gs before hval hW _ _ hwt hL _ _;exact zc9 H enc W base args ds gs before hval hW hL hwt
theorem zlb{a b:Bool}(h:a=true)(k:b=true):(a && b)=true:=by rw[h,k];rfl
theorem zhn:joinedFacts Tryz.pinned.checked.prog 7 Tryz.f7 (OpenSpec.ofChange Rows.nodesAllSpec).bare Rows.nodesAllRow=true:=by
 unfold joinedFacts
 repeat' (with_reducible refine zlb ?_ ?_)
 all_goals (as_aux_lemma=>kernel_rfl)
theorem na_said:Rows.NodesAllSaid:=
 OpenClaim.holds_of_cond 7 Tryz.f7 rfl rfl rfl rfl rfl rfl rfl ⟨rfl,rfl,rfl,rfl,rfl⟩ rfl rfl rfl rfl rfl (by kernel_rfl) Tryz.func7 zhn
  (of_decide_eq_true (by kernel_rfl)) (by unfold Func.isWrapper;first | (rw[if_pos (by decide +kernel)];kernel_rfl) | (rw[if_neg (by decide +kernel)];exact ⟨rfl,rfl⟩))
  (fun os started H enc _ F=>by rw[OpenClaim.pre_eq_preRow];exact zhp os started H enc F)
theorem zhH(f:FuncId)(fn:Func)(hf:Tryz.pinned.checked.prog.funcNamed "haruspex/haruspexlaw16.NodesAll" = some f)(hfn:Tryz.pinned.checked.prog.funcs[f]? = some fn):
  true=Tryz.pinned.checked.prog.looks []∧∀ (j:Nat) t,fn.params[j]? = some t→Tryz.pinned.checked.prog.wantsStandIn t=false:=by
 obtain rfl:f=7:=Option.some.inj ((show Tryz.prog.funcNamed "haruspex/haruspexlaw16.NodesAll" = some 7 by kernel_rfl).symm.trans hf) |>.symm
 obtain rfl:fn=Tryz.f7:=(Option.some.inj (Tryz.func7.symm.trans hfn)).symm;refine ⟨by kernel_rfl,fun j t ht=> ?_⟩;rw[Tryz.params7] at ht;have hm:t=22∨t=3∨t=3:=by simpa using Array.mem_of_getElem? ht
 rcases hm with rfl | rfl | rfl
 ·exact (show Tryz.prog.wantsStandIn 22=false by kernel_rfl)
 ·exact (show Tryz.prog.wantsStandIn 3=false by kernel_rfl)
 ·exact (show Tryz.prog.wantsStandIn 3=false by kernel_rfl)
theorem nodesAll_card:Rows.NodesAllCardSaid:=
 Claim7.holds_tied_plain_at .later [] _ _ _ _ na_said (fun _ h=>by cases h) (by kernel_rfl) (fun _ h=>by cases h) nodesAll_row_tie rfl ⟨rfl,rfl⟩ (by kernel_rfl) rfl zhH (by kernel_rfl)
end Go.Proofs.YthflgjkmbakedaaGreatDoor
