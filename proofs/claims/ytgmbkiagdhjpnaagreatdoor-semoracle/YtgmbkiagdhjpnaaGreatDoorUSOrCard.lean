/-
  SemOracle returns true: what comes from without comes in order, then noughts, and stays known as such.
  Conditions: errors.errorType and math/bits.deBruijn64tab hold what the program's text lays (the card ties them); the tie speaks of the pruned copy of the project that this seat loads.
-/
import Derived.Test.YtgmbkiagdhjpnaaGreatDoorU12
import Derived.Test.YtgmbkiagdhjpnaaGreatDoorUSOrLaw
import Derived.Test.YtgmbkiagdhjpnaaGreatDoorUSI64
import Derived.Test.YtgmbkiagdhjpnaaGreatDoorU04
namespace Go.Proofs.YtgmbkiagdhjpnaaGreatDoor
open Go.ChangeShapes Go.WideShapes Go.ChangeAt Go.RowKit
set_option maxRecDepth 100000 in
theorem or_contract(H:Type)(enc:TypeId × Value→H)(W:World)(base:Nat)(args:Array Value)(ds gs:List (DataW H))(before:List MemPlace)
  (hval:∀ (j:Nat) t v,Tryz.f14.params[j]? = some t→args[j]? = some v→Value.okWide Tryz.prog W .any base t v)
  (hW:DataW.Whole enc Tryz.prog Tryz.f14.params.toList Rows.semOracleSpec.vars false W args.toList ds gs before) (hL:laidMetH Tryz.prog Rows.semOracleRow.laid W):
  Calls Tryz.prog 14 args W fun e W'=>∃ v,e=.returned v∧Rows.semOracleSpec.post enc Tryz.prog Tryz.f14 false true false false W args v W':=by
 have hW':=hW
 obtain ⟨p,q,hA0,hV,rfl,hfz,hnd⟩:=hW
 have hA:DataW.TrodAll enc Tryz.prog W 0 (fun _=>true) true Tryz.f14.params.toList args.toList ds p:=hA0
 rw[Tryz.params14] at hA hval
 obtain ⟨v0,vs0,d0,ds0,p0,q0,hargs,rfl,rfl,h0,r0⟩:=trodAll_cons hA
 obtain ⟨v1,vs1,d1,ds1,p1,q1,rfl,rfl,rfl,h1,r1⟩:=trodAll_cons r0
 obtain ⟨rfl,rfl,rfl⟩:=trodAll_nil r1
 obtain rfl:args=#[v0,v1]:=by cases args;simp_all
 obtain ⟨rfl,rfl⟩:=trodVars_none hV
 have k0:=h0
 have lt0:∀ x∈p0,x.block<W.heap.size:=by obtain ⟨m,hm⟩:=k0;exact DataW.trod_lt m _ _ _ hm
 obtain ⟨a0,cap0,l0,rfl,hx0,hc0,hm0⟩:=i64s_open (hval 0 23 v0 rfl rfl) h0
 obtain ⟨n1,rfl,rfl,rfl,wn1⟩:=open_int Tryz.underlying3 (hval 1 3 v1 rfl rfl) h1
 clear hA0
 refine (semOracle_walk a0 cap0 l0 n1 W (zaA hL) (zaa hL) hx0 hc0 hm0 (zku wn1)).mono fun e W' ⟨he,hk⟩=> ?_
 subst he
 have bel:Below W.heap.size W W':=hk.below (Nat.le_refl _) (by simp)
 exact ⟨_,rfl,_,_,_,[],_,[],hW',trodAll_mk1 (shut_bool Tryz.underlying4 _),(trodAll_cons_mk (Below.trod zmn (by kernel_rfl) (of_decide_eq_true (by kernel_rfl)) k0 bel lt0) (trodAll_cons_mk (shut_int Tryz.underlying3 wn1) trodAll_mk0)),rfl,bel.frame _,fun h=>by cases h⟩
theorem or_laid_met(os:Os):laidMetH Tryz.prog Rows.semOracleRow.laid ((Q3 Tryz.prog os).forCall (fun _ _=>0) ⟨#[],(#[Value.slice none 0 0,Value.int .i64 0]:Array Value),[]⟩).memory:=
 laidMetH_of_parts (laidMet_of_run' 8 (by kernel_rfl) (by kernel_rfl)) (by kernel_rfl)
theorem or_reads(os:Os){H:Type}(enc:TypeId × Value→H):∃ places,DataW.whole enc Tryz.prog ((Q3 Tryz.prog os).forCall (fun _ _=>0) ⟨#[],(#[Value.slice none 0 0,Value.int .i64 0]:Array Value),[]⟩).memory Tryz.f14.params.toList Rows.semOracleSpec.vars false (#[Value.slice none 0 0,Value.int .i64 0]:Array Value).toList 8=some ([.nil,.lit (.int .i64 0)],[],places):=
 ⟨[],by kernel_rfl⟩
set_option maxRecDepth 100000 in
theorem or_lifted(os:Os)(started:os.Started)(H:Type)(enc:TypeId × Value→H)(F:Stop.Interp):
  ReturnsInHanded {} Tryz.checked os 14 .any ((OpenSpec.ofChange Rows.semOracleSpec).preRow enc Tryz.prog Tryz.f14 Rows.semOracleRow.domain false Rows.semOracleRow.laid) (((OpenSpec.ofChange Rows.semOracleSpec).at F).post enc Tryz.prog Tryz.f14 false true false false):=by
 obtain ⟨places,hx⟩:=or_reads os enc
 refine returnsInHanded_of_row (C:=Tryz.checked) (s:=(OpenSpec.ofChange Rows.semOracleSpec)) own started (by kernel_rfl) Tryz.func14
  (witness_row_at (enc:=enc) (C:=Tryz.checked) false (Q3 Tryz.prog os) (#[Value.slice none 0 0,Value.int .i64 0]:Array Value) rfl (by kernel_rfl) (by kernel_rfl) (by kernel_rfl)
   (OpenSpec.preRow_of_cond 8 hx (by kernel_rfl) (fun k hk=>by cases hk) (by kernel_rfl) (or_laid_met os))) ?_
 intro W base args ds gs before hval hW _ _ _ hL _ _
 exact or_contract H enc W base args ds gs before hval hW hL
theorem or_andI{a b:Bool}(h:a=true)(k:b=true):(a && b)=true:=by rw[h,k];rfl
set_option maxHeartbeats 8000000 in
theorem or_closed:joinedFacts Tryz.pinned.checked.prog 14 Tryz.f14 (OpenSpec.ofChange Rows.semOracleSpec).bare Rows.semOracleRow=true:=by
 unfold joinedFacts
 repeat' (with_reducible refine or_andI ?_ ?_)
 all_goals (as_aux_lemma=>kernel_rfl)
theorem or_said:Rows.SemOracleSaid:=
 OpenClaim.holds_of_cond 14 Tryz.f14 rfl rfl rfl rfl rfl rfl rfl ⟨rfl,rfl,rfl,rfl,rfl⟩ rfl rfl rfl rfl rfl (by kernel_rfl) Tryz.func14 or_closed
  (of_decide_eq_true (by kernel_rfl)) (by unfold Func.isWrapper;first | (rw[if_pos (by decide +kernel)];kernel_rfl) | (rw[if_neg (by decide +kernel)];exact ⟨rfl,rfl⟩))
  (fun os started H enc _ F=>by rw[OpenClaim.pre_eq_preRow];exact or_lifted os started H enc F)
theorem or_plain(f:FuncId)(fn:Func)(hf:Tryz.pinned.checked.prog.funcNamed "haruspex/haruspexlaw14.SemOracle" = some f)(hfn:Tryz.pinned.checked.prog.funcs[f]? = some fn):
  true=Tryz.pinned.checked.prog.looks []∧∀ (j:Nat) t,fn.params[j]? = some t→Tryz.pinned.checked.prog.wantsStandIn t=false:=by
 obtain rfl:f=14:=Option.some.inj ((show Tryz.prog.funcNamed "haruspex/haruspexlaw14.SemOracle" = some 14 by kernel_rfl).symm.trans hf) |>.symm
 obtain rfl:fn=Tryz.f14:=(Option.some.inj (Tryz.func14.symm.trans hfn)).symm
 refine ⟨by kernel_rfl,fun j t ht=> ?_⟩
 rw[Tryz.params14] at ht
 have hm:t=23∨t=3:=by simpa using Array.mem_of_getElem? ht
 rcases hm with rfl | rfl
 ·exact (show Tryz.prog.wantsStandIn 23=false by kernel_rfl)
 ·exact (show Tryz.prog.wantsStandIn 3=false by kernel_rfl)
theorem semOracle_card:Rows.SemOracleCardSaid:=
 Claim7.holds_tied_plain_at .later [] _ _ _ _ or_said (fun _ h=>by cases h) (by kernel_rfl) (fun _ h=>by cases h) semOracle_row_tie rfl ⟨rfl,rfl⟩ (by kernel_rfl) rfl or_plain (by kernel_rfl)
#print axioms semOracle_card
end Go.Proofs.YtgmbkiagdhjpnaaGreatDoor
