/-
  SemNone returns true: a machine that is none, and that of no program, have ended; they have nothing.
  Conditions: errors.errorType and math/bits.deBruijn64tab hold what the program's text lays (the card ties them); the tie speaks of the pruned copy of the project that this seat loads.
-/
import Derived.Test.YtgmbkiagdhjpnaaGreatDoorU12
import Derived.Test.YtgmbkiagdhjpnaaGreatDoorUSNone
namespace Go.Proofs.YtgmbkiagdhjpnaaGreatDoor
open Go.ChangeShapes Go.WideShapes Go.ChangeAt Go.RowKit
set_option maxRecDepth 100000 in
theorem JS(H:Type)(enc:TypeId × Value→H)(W:World)(base:Nat)(args:Array Value)(ds gs:List (DataW H))(before:List MemPlace)
  (hval:∀ (j:Nat) t v,Tryz.f7.params[j]? = some t→args[j]? = some v→Value.okWide Tryz.prog W .any base t v)
  (hW:DataW.Whole enc Tryz.prog Tryz.f7.params.toList Rows.semNoneSpec.vars false W args.toList ds gs before) (hL:laidMetH Tryz.prog Rows.semNoneRow.laid W):
  Calls Tryz.prog 7 args W fun e W'=>∃ v,e=.returned v∧Rows.semNoneSpec.post enc Tryz.prog Tryz.f7 false true false false W args v W':=by
 have hW':=hW
 obtain ⟨p,q,hA0,hV,rfl,hfz,hnd⟩:=hW
 have hA:DataW.TrodAll enc Tryz.prog W 0 (fun _=>true) true Tryz.f7.params.toList args.toList ds p:=hA0
 rw[Tryz.params7] at hA hval
 obtain ⟨hargs,rfl,rfl⟩:=trodAll_nil hA
 obtain rfl:args=#[]:=by cases args;simp_all
 obtain ⟨rfl,rfl⟩:=trodVars_none hV
 clear hA0
 refine (zaH W (zaA hL) (zaa hL)).mono fun e W' ⟨he,hk⟩=> ?_
 subst he
 have bel:Below W.heap.size W W':=hk.below (Nat.le_refl _) (by simp)
 exact ⟨_,rfl,_,_,_,[],_,[],hW',trodAll_mk1 (shut_bool Tryz.underlying4 _),trodAll_mk0,rfl,bel.frame _,fun h=>by cases h⟩
theorem JW(os:Os):laidMetH Tryz.prog Rows.semNoneRow.laid ((Q3 Tryz.prog os).forCall (fun _ _=>0) ⟨#[],(#[]:Array Value),[]⟩).memory:=
 laidMetH_of_parts (laidMet_of_run' 8 (by kernel_rfl) (by kernel_rfl)) (by kernel_rfl)
theorem zc2(os:Os){H:Type}(enc:TypeId × Value→H):∃ places,DataW.whole enc Tryz.prog ((Q3 Tryz.prog os).forCall (fun _ _=>0) ⟨#[],(#[]:Array Value),[]⟩).memory Tryz.f7.params.toList Rows.semNoneSpec.vars false (#[]:Array Value).toList 8=some ([],[],places):=
 ⟨[],by kernel_rfl⟩
set_option maxRecDepth 100000 in
theorem zbl(os:Os)(started:os.Started)(H:Type)(enc:TypeId × Value→H)(F:Stop.Interp):
  ReturnsInHanded {} Tryz.checked os 7 .any ((OpenSpec.ofChange Rows.semNoneSpec).preRow enc Tryz.prog Tryz.f7 Rows.semNoneRow.domain false Rows.semNoneRow.laid) (((OpenSpec.ofChange Rows.semNoneSpec).at F).post enc Tryz.prog Tryz.f7 false true false false):=by
 obtain ⟨places,hx⟩:=zc2 os enc
 refine returnsInHanded_of_row (C:=Tryz.checked) (s:=(OpenSpec.ofChange Rows.semNoneSpec)) own started (by kernel_rfl) Tryz.func7
  (witness_row_at (enc:=enc) (C:=Tryz.checked) false (Q3 Tryz.prog os) (#[]:Array Value) rfl (by kernel_rfl) (by kernel_rfl) (by kernel_rfl)
   (OpenSpec.preRow_of_cond 8 hx (by kernel_rfl) (fun k hk=>by cases hk) (by kernel_rfl) (JW os))) ?_
 intro W base args ds gs before hval hW _ _ _ hL _ _
 exact JS H enc W base args ds gs before hval hW hL
theorem none_andI{a b:Bool}(h:a=true)(k:b=true):(a && b)=true:=by rw[h,k];rfl
set_option maxHeartbeats 8000000 in
theorem none_closed:joinedFacts Tryz.pinned.checked.prog 7 Tryz.f7 (OpenSpec.ofChange Rows.semNoneSpec).bare Rows.semNoneRow=true:=by
 unfold joinedFacts
 repeat' (with_reducible refine none_andI ?_ ?_)
 all_goals (as_aux_lemma=>kernel_rfl)
theorem none_said:Rows.SemNoneSaid:=
 OpenClaim.holds_of_cond 7 Tryz.f7 rfl rfl rfl rfl rfl rfl rfl ⟨rfl,rfl,rfl,rfl,rfl⟩ rfl rfl rfl rfl rfl (by kernel_rfl) Tryz.func7 none_closed
  (of_decide_eq_true (by kernel_rfl)) (by unfold Func.isWrapper;first | (rw[if_pos (by decide +kernel)];kernel_rfl) | (rw[if_neg (by decide +kernel)];exact ⟨rfl,rfl⟩))
  (fun os started H enc _ F=>by rw[OpenClaim.pre_eq_preRow];exact zbl os started H enc F)
theorem zdu(f:FuncId)(fn:Func)(hf:Tryz.pinned.checked.prog.funcNamed "haruspex/haruspexlaw14.SemNone" = some f)(hfn:Tryz.pinned.checked.prog.funcs[f]? = some fn):
  true=Tryz.pinned.checked.prog.looks []∧∀ (j:Nat) t,fn.params[j]? = some t→Tryz.pinned.checked.prog.wantsStandIn t=false:=by
 obtain rfl:f=7:=Option.some.inj ((show Tryz.prog.funcNamed "haruspex/haruspexlaw14.SemNone" = some 7 by kernel_rfl).symm.trans hf) |>.symm
 obtain rfl:fn=Tryz.f7:=(Option.some.inj (Tryz.func7.symm.trans hfn)).symm
 refine ⟨by kernel_rfl,fun j t ht=> ?_⟩
 rw[Tryz.params7] at ht
 simp at ht
theorem semNone_card:Rows.SemNoneCardSaid:=
 Claim7.holds_tied_plain_at .later [] _ _ _ _ none_said (fun _ h=>by cases h) (by kernel_rfl) (fun _ h=>by cases h) semNone_row_tie rfl ⟨rfl,rfl⟩ (by kernel_rfl) rfl zdu (by kernel_rfl)
#print axioms semNone_card
end Go.Proofs.YtgmbkiagdhjpnaaGreatDoor
