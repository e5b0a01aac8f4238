import Derived.Test.YthflgjkmbakedaaGreatDoorCards
import Derived.Test.YthflgjkmbakedaaGreatDoorTie
import Derived.Lib.LaidTab
import Derived.LaidHandle
import Derived.Stop.LaidErr
import Derived.Test.YthflgjkmbakedaaGreatDoorA06

namespace Go.Proofs.YthflgjkmbakedaaGreatDoor
open Go.RowKit
open Go.Value (int pointer agg)
open Go.IntKind (i64)
set_option maxRecDepth 20000
set_option maxHeartbeats 8000000
variable {A a:Act}{P:Pr8}{W0 w:World}{ad:Addr}{b c f j n o s:Nat}{ev:Operand→Value}{oi:Oper}{v v0 v1 v2:Value}{vs:List Value}{x y:Operand}
structure zcu (P:Pr8):Prop where
 fn:P.funcs.length≤12
 bk:∀ f,f<P.funcs.length→(zf P f).blocks.length≤12
 code:∀ {f b},f<P.funcs.length→b<(zf P f).blocks.length→(zr (zf P f) b).code.length≤30
theorem zcu.cnt1{P:Pr8}(h:zcu P){f:Nat}(hf:f<P.funcs.length):∀ b,b≤(zf P f).blocks.length→Go.Proofs.YthflgjkmbakedaaGreatDoor.zeg (zf P f) b≤31 * b
 | 0,_=>Nat.zero_le _
 | b+1,hb=>by
  have h1:=h.cnt1 hf b (by omega);have h2:=h.code hf (show b<_ by omega);rw[Zj];omega
theorem zcu.cntP{P:Pr8}(h:zcu P):∀ k,k≤P.funcs.length→Go.Proofs.YthflgjkmbakedaaGreatDoor.zeR P k≤372 * k
 | 0,_=>Nat.zero_le _
 | k+1,hk=>by
  have h1:=h.cntP k (by omega);have h2:=h.cnt1 (f:=k) (by omega) _ (Nat.le_refl _);have h3:=h.bk k (by omega);rw[QW];omega
theorem zcu.cntF(h:zcu P)(hf:f<P.funcs.length)(hb:b≤(zf P f).blocks.length):Go.Proofs.YthflgjkmbakedaaGreatDoor.zeR P f+Go.Proofs.YthflgjkmbakedaaGreatDoor.zeg (zf P f) b≤4500:=by
 have h1:=h.cntP f (by omega);have h2:=h.cnt1 hf b hb;have h3:=h.bk f hf;have h4:=h.fn;omega
theorem zcu.pts(h:zcu P):(Go.Proofs.YthflgjkmbakedaaGreatDoor.pts P).length≤4500:=by
 have h1:=h.cntP _ (Nat.le_refl _);have h4:=h.fn;rw[zcB];omega
theorem Qb{pb po:Nat}(h:PrC w pb po P)(hs:zcu P):Calls Tryz.prog 70 #[pointer (some ⟨pb,po,none⟩)] w fun e w'=>∃ a cp,e=.returned (.slice a (pts P).length cp)∧z7 w' 3 PtC a (pts P)∧zc [] w w':=by
 have HP:=hid h;have HS:=hid hs;obtain ⟨fa,fcp,H⟩:=h.fns;have h4:=H.cell;have hN:=hs.fn;obtain ⟨N,hNN⟩:∃ N,N=P.funcs.length:=⟨_,rfl⟩;have HN:=hid hNN;rw[← hNN] at h4 hN
 have H4:Box (∀ w',zc [] w w'→w'.cell? ⟨pb,po+4,none⟩=some (.slice fa N fcp)):=hid (by
  have h4':=h4;intro w' k
  exact za k h4')
 have HF:=hid H;have HR0:Box (w.ownsRow w.heap.size 99 3 (.slice none 0 0) (ptP P 0).length (Zt (ptP P 0))):=hid (World.ownsRow_nil _ _ _ _);clear h hs H hNN;go_enter Tryz.func70,Tryz.ntmps70;go_wp2_with fail
 go_loopw [3,14] (fun lv fv wr=>∃ k:Nat,k≤N∧fv=int i64 (k:Int)∧Box (wr.ownsRow w.heap.size 99 3 lv (ptP P k).length (Zt (ptP P k)))∧Box (zc [] w wr)) (fun _ fv _=>N - (intOf fv).toNat)
 case atStart=>exact ⟨0,by omega,rfl,HR0,hid (zc.refl _ _)⟩
 case round=>
  obtain ⟨k,hk,rfl,HR,HK⟩:=hrel;clear HR0;by_cases hlt:k<N
  ·have hlt':(k:Int)<(N:Int):=by omega
   have g4:=H4.o _ HK.o;obtain ⟨fb,fo,ba,bcp,rfl,B⟩:=HF.o.at (f:=k) (by rw[← HN.o];exact hlt);have g2:=za HK.o B.cell;have hM:=HS.o.bk k (by rw[← HN.o];exact hlt);obtain ⟨M,hMM⟩:∃ M,M=(zf P k).blocks.length:=⟨_,rfl⟩;have HM:=hid hMM;rw[← hMM] at g2 hM
   have G2:Box (∀ w',zc [] w w'→w'.cell? ⟨fb,fo+k * 3+2,none⟩=some (.slice ba M bcp)):=hid (by
    have h2':=B.cell;rw[← hMM] at h2';intro w' kk
    exact za kk h2')
   have hsz:Box (∀ b,b<M→∃ bb bo c,ba=some ⟨bb,bo,none⟩∧c≤30∧Box (c=(zr (zf P k) b).code.length)∧∀ w',zc [] w w'→Calls Tryz.prog 99 #[pointer (some ⟨bb,bo+b * 5,none⟩)] w' fun e w2=>e=.returned (int i64 ((c+1:Nat):Int))∧w2=w'):=hid fun b hb=>by
    obtain ⟨bb,bo,e,L⟩:=B.at (b:=b) (by rw[← HM.o];exact hb);obtain ⟨ca,ccp,hc,_⟩:=L.c0;have h9:=HS.o.code (f:=k) (b:=b) (by rw[← HN.o];exact hlt) (by rw[← HM.o];exact hb);exact ⟨bb,bo,_,e,h9,hid rfl,fun w' kk=>zih bb (bo+b * 5) _ ccp ca w' (za kk hc) (by omega)⟩
   have HR1:Box (wr.ownsRow w.heap.size 99 3 u3 (ptP P k ++ ptF (zf P k) k 0).length (Zt (ptP P k ++ ptF (zf P k) k 0))):=hid (by rw[zaV,List.append_nil];exact HR.o);have hcap:Box (∀ b,b<M→zeR P k+zeg (zf P k) (b+1)≤4500):=hid fun b hb=>HS.o.cntF (f:=k) (by rw[← HN.o];exact hlt) (by rw[← HM.o];omega);clear B hMM HR;go_wp2_with fail;have HK0:=HK;clear HK
   go_loopw [3,26] (fun lv bv wr=>∃ b:Nat,b≤M∧bv=int i64 (b:Int)∧Box (wr.ownsRow w.heap.size 99 3 lv (ptP P k ++ ptF (zf P k) k b).length (Zt (ptP P k ++ ptF (zf P k) k b)))∧Box (zc [] w wr)) (fun _ bv _=>M - (intOf bv).toNat)
   case atStart=>exact ⟨0,by omega,rfl,HR1,HK0⟩
   case round=>
    obtain ⟨b,hb,rfl,HR,HK⟩:=hrel;clear HR1 HK0 g2 g4;by_cases hlb:b<M
    ·have hlb':(b:Int)<(M:Int):=by omega
     have g4:=H4.o _ HK.o;have g2:=G2.o _ HK.o;obtain ⟨bb,bo,c,rfl,hc9,HCC,hcl⟩:=hsz.o b hlb;have HCL:=hid hcl;have hcall:=hid (hcl _ HK.o);have hcp:=hcap.o b hlb;rw[Zj, ← HCC.o] at hcp;have HR2:Box (wr.ownsRow w.heap.size 99 3 u3 (ptP P k ++ ptF (zf P k) k b ++ ptB k b 0).length (Zt (ptP P k ++ ptF (zf P k) k b ++ ptB k b 0))):=hid (by rw[QN,List.append_nil];exact HR.o);have HL:Box (∀ i,(ptP P k ++ ptF (zf P k) k b ++ ptB k b i).length=zeR P k+zeg (zf P k) b+i):=hid fun i=>by
      rw[List.length_append,List.length_append,zad,zdd];rfl
     clear hcl HR;have hc1:(c:Int)+1≤4500:=by omega
     go_wp2_with (go_at_call 99;refine hcall.o.mono ?_;rintro e w' ⟨rfl,hw⟩;rw[hw];clear hw);have HK2:=HK;clear HK hcall
     go_loopw [3,40] (fun lv iv wr=>∃ i:Nat,i≤c+1∧iv=int i64 (i:Int)∧Box (wr.ownsRow w.heap.size 99 3 lv (ptP P k ++ ptF (zf P k) k b ++ ptB k b i).length (Zt (ptP P k ++ ptF (zf P k) k b ++ ptB k b i)))∧Box (zc [] w wr)) (fun _ iv _=>c+1 - (intOf iv).toNat)
     case atStart=>exact ⟨0,by omega,rfl,HR2,HK2⟩
     case round=>
      obtain ⟨i,hi,rfl,HR,HK⟩:=hrel;clear HR2 HK2 g2 g4;by_cases hli:i<c+1
      ·have hli':(i:Int)<(c:Int)+1:=by omega
       have hn:Box ((ptP P k ++ ptF (zf P k) k b ++ ptB k b (i+1)).length=(ptP P k ++ ptF (zf P k) k b ++ ptB k b i).length+1∧Zt (ptP P k ++ ptF (zf P k) k b ++ ptB k b (i+1))=Zt (ptP P k ++ ptF (zf P k) k b ++ ptB k b i) ++ [int i64 (k:Int),int i64 (b:Int),int i64 (i:Int)]):=hid (by
        rw[HL.o,HL.o,jB, ← List.append_assoc,JU]
        exact ⟨by omega,rfl⟩)
       have hle:=HL.o i;have hks:=HK.o.size;generalize (ptP P k ++ ptF (zf P k) k b ++ ptB k b i).length=nn at HR hn hle;generalize Zt (ptP P k ++ ptF (zf P k) k b ++ ptB k b i)=xs at HR hn;go_wp2_with (at_builtin;go_must (refine wpList_append_own _ rfl _ _ 100 rfl w.heap.size 99 Tryz.t99 (agg #[int i64 0,int i64 0,int i64 0]) 3 24 ZO zac zaS ZR JG rfl (by decide) _ nn xs rfl (HR.o.alloc _) ⟨wr.heap.size,0,none⟩ 1 1 [int i64 (k:Int),int i64 (b:Int),int i64 (i:Int)] rfl rfl (World.news_of_block (cs:=#[int i64 (k:Int),int i64 (b:Int),int i64 (i:Int)]) (t:=99) (fr:=(0,0)) (heap_alloc_new wr _)) (QL _ _ _) (by unfold maxLen;omega) (by omega) (by simp;omega) ?_;intro v' w3 hown3 hgrow3 hnil3));have hk3:zc [] w w3:=(HK.o.quiet (zc.alloc [] wr _)).appended HR.o hgrow3 (Nat.le_refl _);have HO3:=hid hown3;have HK3:=hid hk3;clear hgrow3 hnil3 hown3 hk3 HR HK;go_wp2_with fail;go_roundw
       case rel=>exact ⟨i+1,by omega,by go_num,hid (by rw[hn.o.1,hn.o.2];exact HO3.o),HK3⟩
       case measure=>simp[intOf];omega
      ·obtain rfl:i=c+1:=by omega
       have HR3:Box (wr.ownsRow w.heap.size 99 3 u3 (ptP P k ++ ptF (zf P k) k (b+1)).length (Zt (ptP P k ++ ptF (zf P k) k (b+1)))):=hid (by
        rw[qX, ← HCC.o, ← List.append_assoc]
        exact HR.o)
       clear HR;go_wp2_with fail;go_roundw
       case rel=>exact ⟨b+1,by omega,by go_num,HR3,HK⟩
       case measure=>simp[intOf];omega
    ·obtain rfl:b=M:=by omega
     have HR3:Box (wr.ownsRow w.heap.size 99 3 u3 (ptP P (k+1)).length (Zt (ptP P (k+1)))):=hid (by
      rw[Z8, ← HM.o]
      exact HR.o)
     clear HR;go_wp2_with fail;go_roundw
     case rel=>exact ⟨k+1,by omega,by go_num,HR3,HK⟩
     case measure=>simp[intOf];omega
  ·obtain rfl:k=N:=by omega
   go_wp2_with fail;go_ret;obtain ⟨a,cp,e1,e2,e3,_⟩:=zbk HR.o;have e5:ptP P k=pts P:=by unfold pts;rw[HN.o]
   rw[e5] at e1 e3;exact ⟨a,cp,congrArg Ending.returned e1,e3,HK.o⟩
def obZ:Ob:=⟨0,false,.slice none 0 0,[]⟩
def slW(os:List Ob)(o f:Int):Int:=if foW os o≠0 then foW os o else if f<0∨((os.getD (o - 1).toNat obZ).vs.length:Int)≤f then 1 else 0
def zoj(os:List Ob)(o f:Int):V3:=if slW os o f=0 then (os.getD (o - 1).toNat obZ).vs.getD f.toNat (0,0,false) else (0,0,false)
def zoe(os:List Ob)(o f:Int)(v:V3):List Ob:=if slW os o f=0 then os.set (o - 1).toNat { os.getD (o - 1).toNat obZ with vs:=(os.getD (o - 1).toNat obZ).vs.set f.toNat v } else os
def zn4(os:List Ob)(o:Int):List Ob:=if foW os o=0 then os.set (o - 1).toNat ⟨(os.getD (o - 1).toNat obZ).site,true,.slice none 0 0,[]⟩ else os
section
variable {P:Program}{ops:Array Oper}{Q:Exit→Act→World→Prop}
def zv:List Oper→List Value→Act→Act
 | o :: os,v :: vs,a=>zv os vs (a.put o.dst v)
 | _,_,a=>a
theorem Qj(a:Act)(d:Option Tmp)(v:Value):(a.put d v).tmps.size=a.tmps.size:=by cases d <;> simp[Act.put]
theorem Zi(a:Act)(d:Option Tmp)(v:Value):(a.put d v).defers=a.defers:=by cases d <;> rfl
theorem jl{a:Act}{d:Option Tmp}{v:Value}{s:Nat}(h:d≠some s):(a.put d v).tmps[s]? = a.tmps[s]? := by
 cases d with
 | none=>rfl
 | some d=>
  have hne:d≠s:=fun e=>h (e ▸ rfl);simp[Act.put,Array.getElem?_setIfInBounds_ne hne]
theorem zbO{a:Act}{s:Nat}{v:Value}(h:s<a.tmps.size):(a.put (some s) v).tmps[s]? = some v:=by
 simp[Act.put,Array.getElem?_setIfInBounds_self_of_lt h]
theorem zcz:∀ (os:List Oper) (vs:List Value) (a:Act),(zv os vs a).tmps.size=a.tmps.size
 | [],_,_=>rfl
 | _ :: _,[],_=>rfl
 | o :: os,v :: vs,a=>by
  show (zv os vs (a.put o.dst v)).tmps.size=_;rw[zcz os vs,Qj]
theorem jj:∀ (os:List Oper) (vs:List Value) (a:Act),(zv os vs a).defers=a.defers
 | [],_,_=>rfl
 | _ :: _,[],_=>rfl
 | o :: os,v :: vs,a=>by
  show (zv os vs (a.put o.dst v)).defers=_;rw[jj os vs,Zi]
theorem jb{s:Nat}:∀ (os:List Oper) (vs:List Value) (a:Act),(∀ (k:Nat) (o:Oper),os[k]? = some o→o.dst≠some s)→(zv os vs a).tmps[s]? = a.tmps[s]?
 | [],_,_,_=>rfl
 | _ :: _,[],_,_=>rfl
 | o :: os,v :: vs,a,h=>by
  show (zv os vs (a.put o.dst v)).tmps[s]? = _;rw[jb os vs _ (fun k x hx=>h (k+1) x (by simpa using hx)),jl (h 0 o rfl)]
theorem ZY{s:Nat}{v0:Value}{o0:Oper}:∀ (os:List Oper) (vs:List Value) (a:Act) (k:Nat),os[k]? = some o0→vs[k]? = some v0→o0.dst=some s→s<a.tmps.size→(∀ (j:Nat) (o:Oper),j≠k→os[j]? = some o→o.dst≠some s)→(zv os vs a).tmps[s]? = some v0
 | [],_,_,k,h,_,_,_,_=>by simp at h
 | _ :: _,[],_,k,_,h,_,_,_=>by simp at h
 | o :: os,v :: vs,a,0,ho,hv,hd,hs,hn=>by
  simp at ho hv;subst ho hv;show (zv os vs (a.put o.dst v)).tmps[s]? = _;rw[jb os vs _ (fun k x hx=>hn (k+1) x (by omega) (by simpa using hx)),hd];exact zbO hs
 | o :: os,v :: vs,a,k+1,ho,hv,hd,hs,hn=>by
  show (zv os vs (a.put o.dst v)).tmps[s]? = _;exact ZY os vs _ k (by simpa using ho) (by simpa using hv) hd (by rw[Qj];exact hs) (fun j x hj hx=>hn (j+1) x (by omega) (by simpa using hx))
def qD(ops:Array Oper)(n i j:Nat):Bool:=
 match ops[i]?,ops[j]? with
 | some oi,some oj=>(i == j || oi.dst.isNone || oi.dst != oj.dst) && (match oj.dst with
  | some d=>decide (d<n) && (!(oi.looksAt ops).contains d || oi.after.any fun e=>Region.binds .any e && e.on == j)
  | none=>true)
 | _,_=>false
def zbJ(ops:Array Oper)(n:Nat):Bool:=
 Region.noSelect ops && ((List.range ops.size).all (fun i=>(List.range ops.size).all fun j=>qD ops n i j) &&
  (List.range ops.size).all (fun i=>(ops[i]?).isSome && ((ops[i]?).map (fun o=>o.after.all fun e=> !Region.binds .any e || decide (e.on<i))).getD false))
def zlt (P : Program) (ops : Array Oper) (A : Act) (W0 : World) (o : Oper) (v : Value) : Prop :=
  (Region.wanted o (yielded ops A.tmps) = true ∧ ∀ w, zc [] W0 w →
    ((∃ w', (execOp A.eval o).run P w = .ok (.value v) w' ∧ zc [] w w') ∨
     (∃ f args, (execOp A.eval o).run P w = .ok (.enter f args) w ∧ Calls P f args w fun e w' => e = .returned v ∧ zc [] w w'))) ∨
  (Region.wanted o (yielded ops A.tmps) = false ∧ v = undef)
theorem zaG{A:Act}{W0:World}{o:Oper}{v:Value}(hw:Region.wanted o (yielded ops A.tmps)=true)(h:∀ w,zc [] W0 w→(execOp A.eval o).run P w=.ok (.value v) w):zlt P ops A W0 o v:=
 .inl ⟨hw,fun w k=>.inl ⟨w,h w k,zc.refl _ _⟩⟩
theorem zgs{A:Act}{W0:World}{o:Oper}(hw:Region.wanted o (yielded ops A.tmps)=false):zlt P ops A W0 o undef:=.inr ⟨hw,rfl⟩
theorem zn{A:Act}{W0:World}{o:Oper}{v:Value}(hw:Region.wanted o (yielded ops A.tmps)=true)(f:Nat)(args:Array Value)(he:∀ w,(execOp A.eval o).run P w=.ok (.enter f args) w)
  (hc:∀ w,zc [] W0 w→Calls P f args w fun e w'=>e=.returned v∧zc [] w w'):zlt P ops A W0 o v:=
 .inl ⟨hw,fun w k=>.inr ⟨f,args,he w,hc w k⟩⟩
def zk(P:Program)(ops:Array Oper)(A:Act)(W0:World):List Oper→List Value→Prop
 | o :: os,v :: vs=>zlt P ops A W0 o v∧zk P ops A W0 os vs
 | [],[]=>True
 | _,_=>False
theorem zk.at{A:Act}{W0:World}:∀ {os:List Oper}{vs:List Value},zk P ops A W0 os vs→∀ {k:Nat}{o:Oper},os[k]? = some o→∃ v,vs[k]? = some v∧zlt P ops A W0 o v
 | [],_,_,k,o,ho=>by simp at ho
 | _ :: _,[],h,_,_,_=>by cases h
 | o :: os,v :: vs,h,0,o',ho=>by
  simp at ho;subst ho;exact ⟨v,rfl,h.1⟩
 | o :: os,v :: vs,h,k+1,o',ho=>by
  obtain ⟨u,hu,hg⟩:=zk.at h.2 (k:=k) (by simpa using ho);exact ⟨u,by simpa using hu,hg⟩
structure znT (ops:Array Oper) (W0:World) (a A:Act) (l:Array Bool) (a':Act) (w:World):Prop where
 size:l.size=ops.size
 kept:zc [] W0 w
 sz:a'.tmps.size=a.tmps.size
 df:a'.defers=a.defers
 on:∀ (i:Nat) (oi:Oper) (d:Nat),ops[i]? = some oi→oi.dst=some d→l.getD i false=true→a'.tmps[d]? = A.tmps[d]?
 off:∀ d:Nat,(∀ (i:Nat) (oi:Oper),ops[i]? = some oi→oi.dst=some d→l.getD i false=false)→a'.tmps[d]? = a.tmps[d]?
theorem zL{l:Array Bool}{i j:Nat}(h:i≠j):(l.setIfInBounds i true).getD j false=l.getD j false:=getD_set_ne false h
theorem qf{l:Array Bool}{i:Nat}(h:i<l.size):(l.setIfInBounds i true).getD i false=true:=by
 rw[Array.getD_eq_getD_getElem?,Array.getElem?_setIfInBounds_self_of_lt h];rfl
theorem zm{id:Nat}{a:Act}{w W0:World}(n:Nat)(vs:List Value)(hm:P.follows .mixedOrders=true)(hn:a.tmps.size=n)(hok:zbJ ops n=true)(hk:zc [] W0 w)
  (h:∀ A,zv ops.toList vs a=A→zk P ops A W0 ops.toList vs∧∀ w',zc [] W0 w'→Q .normal A w'):(Code.region id ops true).wp P Q a w:=by
 obtain ⟨A,hA⟩:∃ A,zv ops.toList vs a=A:=⟨_,rfl⟩;obtain ⟨hg,hQ⟩:=h A hA;unfold zbJ at hok;rw[Bool.and_eq_true,Bool.and_eq_true] at hok;obtain ⟨hsel,hp,hall⟩:=hok;have pair:∀ (i j:Nat) (oi oj:Oper),ops[i]? = some oi→ops[j]? = some oj→qD ops n i j=true:=fun i j oi oj hi hj=>by
  have h1:=List.all_eq_true.1 hp i (List.mem_range.2 (Array.getElem?_eq_some_iff.1 hi).1);exact List.all_eq_true.1 h1 j (List.mem_range.2 (Array.getElem?_eq_some_iff.1 hj).1)
 have dist:∀ (i j:Nat) (oi oj:Oper) (d:Nat),ops[i]? = some oi→ops[j]? = some oj→i≠j→oi.dst=some d→oj.dst≠some d:=fun i j oi oj d hi hj hij hd he=>by
  have:=pair i j oi oj hi hj;unfold qD at this;rw[hi,hj] at this;simp[hij,hd,he] at this
 have lt:∀ (i:Nat) (oi:Oper) (d:Nat),ops[i]? = some oi→oi.dst=some d→d<n:=fun i oi d hi hd=>by
  have:=pair i i oi oi hi hi;unfold qD at this;rw[hi] at this;simp only[hd,Bool.and_eq_true,decide_eq_true_eq] at this;exact this.2.1
 have waits:∀ (i j:Nat) (oi oj:Oper) (d:Nat),ops[i]? = some oi→ops[j]? = some oj→oj.dst=some d→d∈oi.looksAt ops→oi.after.any (fun e=>Region.binds .any e && e.on == j)=true:=fun i j oi oj d hi hj hd hm=>by
  have:=pair i j oi oj hi hj;unfold qD at this;rw[hi,hj] at this;simp only[hd,Bool.and_eq_true,Bool.or_eq_true,Bool.not_eq_true',decide_eq_true_eq] at this;rcases this.2.2 with h0 | h0
  ·rw[List.contains_iff_mem.2 hm] at h0
   cases h0
  ·exact h0
 have aOther:∀ d:Nat,(∀ (i:Nat) (oi:Oper),ops[i]? = some oi→oi.dst≠some d)→A.tmps[d]? = a.tmps[d]? := fun d hd=>by
  rw[← hA];exact jb _ _ _ (fun k o ho=>hd k o (by rw[← Array.getElem?_toList];exact ho))
 have aAt:∀ (i:Nat) (oi:Oper) (d:Nat) (v:Value),ops[i]? = some oi→oi.dst=some d→vs[i]? = some v→A.tmps[d]? = some v:=fun i oi d v hi hd hv=>by
  rw[← hA];exact ZY _ _ _ i (by rw[Array.getElem?_toList];exact hi) hv hd (by rw[hn];exact lt i oi d hi hd) (fun j oj hj ho=>dist i j oi oj d hi (by rw[← Array.getElem?_toList];exact ho) (Ne.symm hj) hd)
 refine wp_region_held_drew (S:=fun w'=>zc [] W0 w') hm (hk.quiet (zc.drew [] w)) (fun hS=> ?_);refine jJ (znT ops W0 a A) (fun _ _ _ h=>h.kept) (fun l a' w' hI hr=> ?_) (fun l a' w' i hI hr=> ?_) _ _ _ _ ?_ ?_
 ·have hl:=Zk (md:=.any) (ops:=ops) hI.size hr hall
  have e:a'=A:=by
   have ht:a'.tmps=A.tmps:=by
    apply Array.ext_getElem?;intro d;by_cases hx:∃ (i:Nat) (oi:Oper),ops[i]? = some oi∧oi.dst=some d
    ·obtain ⟨i,oi,hi,hd⟩:=hx
     exact hI.on i oi d hi hd (hl i (Array.getElem?_eq_some_iff.1 hi).1)
    ·have hno:∀ (i:Nat) (oi:Oper),ops[i]? = some oi→oi.dst≠some d:=fun i oi hi hd=>hx ⟨i,oi,hi,hd⟩
     rw[hI.off d (fun i oi hi hd=>absurd hd (hno i oi hi)),aOther d hno]
   have hdf:a'.defers=A.defers:=by rw[hI.df, ← hA,jj]
   cases a';cases A;simp only at ht hdf;rw[ht,hdf]
  rw[e];exact hQ w' hI.kept
 ·obtain ⟨hun,oi,hi,hw8⟩:=mem_ready.1 hr
  have hil:i<l.size:=by rw[hI.size];exact (Array.getElem?_eq_some_iff.1 hi).1
  obtain ⟨v,hv,hgv⟩:=hg.at (k:=i) (by rw[Array.getElem?_toList];exact hi);have agree:∀ t,t∈oi.looksAt ops→a'.tmps[t]? = A.tmps[t]? := fun t ht=>by
   by_cases hx:∃ (j:Nat) (oj:Oper),ops[j]? = some oj∧oj.dst=some t
   ·obtain ⟨j,oj,hj,hd⟩:=hx
    have:=waits i j oi oj t hi hj hd ht;rw[Array.any_eq_true'] at this;obtain ⟨e,he,h1⟩:=this;rw[Bool.and_eq_true,beq_iff_eq] at h1;have h2:=hw8 e he h1.1;rw[h1.2] at h2;exact hI.on j oj t hj hd h2
   ·have hno:∀ (i:Nat) (oi:Oper),ops[i]? = some oi→oi.dst≠some t:=fun i oi hi hd=>hx ⟨i,oi,hi,hd⟩
    rw[hI.off t (fun i oi hi hd=>absurd hd (hno i oi hi)),aOther t hno]
  have hex:execOp a'.eval oi=execOp A.eval oi:=execOp_congr oi (fun cs b=>by
    exact Region.noSelect_spec hsel i oi cs b hi) (fun x hx=>by
   cases x with
   | tmp t=>
    have:=agree t (List.mem_append_left _ (List.mem_filterMap.2 ⟨.tmp t,by simpa using hx,rfl⟩));simp only[Act.eval,Array.getD_eq_getD_getElem?,this]
   | const v=>rfl
   | global g=>rfl
   | func f=>rfl)
  have hwt:Region.wanted oi (yielded ops a'.tmps)=Region.wanted oi (yielded ops A.tmps):=by
   unfold Region.wanted;cases hgd:oi.guard with
   | none=>rfl
   | some gw=>
    obtain ⟨g,want⟩:=gw;have hy:yielded ops a'.tmps g=yielded ops A.tmps g:=by
     unfold yielded;cases ht:(ops[g]?).bind (·.dst) with
     | none=>rfl
     | some t=>
      have:=agree t (by simp[Oper.looksAt,hgd,ht]);simp[this]
    simp only[hy]
  have next:∀ w2,zc [] w' w2→znT ops W0 a A (l.setIfInBounds i true) (a'.put oi.dst v) w2:=fun w2 k2=>by
   refine ⟨by simpa using hI.size,hI.kept.quiet k2,by rw[Qj,hI.sz],by rw[Zi,hI.df],fun j oj d hj hd hl=> ?_,fun d hd=> ?_⟩
   ·by_cases hij:i=j
    ·subst hij
     rw[hi] at hj;cases hj;rw[hd,zbO (by rw[hI.sz,hn];exact lt i oi d hi hd),aAt i oi d v hi hd hv]
    ·rw[jl (dist j i oj oi d hj hi (Ne.symm hij) hd)]
     rw[zL hij] at hl;exact hI.on j oj d hj hd hl
   ·have h1:oi.dst≠some d:=fun e=>by
     have:=hd i oi hi e;rw[qf hil] at this;cases this
    rw[jl h1];refine hI.off d (fun j oj hj hdj=> ?_);have:=hd j oj hj hdj;by_cases hij:i=j
    ·subst hij
     rw[hi] at hj;cases hj;exact absurd hdj h1
    ·rw[zL hij] at this
     exact this
  refine wpOp_step hi (fun K' hK=> ?_);rw[hwt];rcases hgv with ⟨hw1,hr1⟩ | ⟨hw1,rfl⟩
  ·rw[if_pos hw1]
   unfold Oper.wp;rw[hex];rcases hr1 w' hI.kept with ⟨w2,he,k2⟩ | ⟨f,args,he,hc⟩
   ·rw[he]
    exact hK _ _ (next w2 k2)
   ·rw[he]
    simp only[Oper.upon];refine Calls.mono hc (fun e w2=> ?_);rintro ⟨rfl,k2⟩;exact hK _ _ (next w2 k2)
  ·rw[if_neg (by rw[hw1];simp)]
   exact hK _ _ (next w' (zc.refl _ _))
 ·refine ⟨by simp,hS,rfl,rfl,fun i oi d hi hd hl=> ?_,fun d hd=>rfl⟩
  exfalso;rw[Array.getD_eq_getD_getElem?] at hl;by_cases hlt:i<ops.size
  ·rw[Array.getElem?_replicate,if_pos hlt] at hl
   cases hl
  ·rw[Array.getElem?_replicate,if_neg hlt] at hl
   cases hl
 ·unfold left
  exact Nat.le_trans List.countP_le_length (by simp)
end
section
variable {P:Program}{ops:Array Oper}{A:Act}{W0:World}
theorem zk.cons{o:Oper}{v:Value}{os:List Oper}{vs:List Value}(h:zlt P ops A W0 o v)(t:zk P ops A W0 os vs):zk P ops A W0 (o :: os) (v :: vs):=⟨h,t⟩
theorem zk.nil:zk P ops A W0 [] []:=trivial
theorem gY{o:Oper}{v:Value}{os:List Oper}{vs:List Value}(h:∀ w,zc [] W0 w→(execOp A.eval o).run P w=.ok (.value v) w)(t:zk P ops A W0 os vs)(hw:Region.wanted o (yielded ops A.tmps)=true:=by rfl):zk P ops A W0 (o :: os) (v :: vs):=⟨zaG hw h,t⟩
theorem gR{o:Oper}{v:Value}{os:List Oper}{vs:List Value}(t:zk P ops A W0 os vs)(h:∀ w,zc [] W0 w→(execOp A.eval o).run P w=.ok (.value v) w:=by exact fun _ _=>rfl)(hw:Region.wanted o (yielded ops A.tmps)=true:=by rfl):zk P ops A W0 (o :: os) (v :: vs):=⟨zaG hw h,t⟩
theorem gP{o:Oper}{os:List Oper}{vs:List Value}(t:zk P ops A W0 os vs)(hw:Region.wanted o (yielded ops A.tmps)=false:=by rfl):zk P ops A W0 (o :: os) (undef :: vs):=⟨zgs hw,t⟩
theorem Jc{ev:Operand→Value}{oi:Oper}{f:Nat}{x y z:Operand}{ts:Array TypeId}{v u t:Value}{w:World}(ho:oi.op=.call { callee:=.value (.func f),args:=#[x,y,z],argTypes:=ts })(hf:ev (.func f)=.func (.func f) #[] #[])(hx:ev x=v)(hy:ev y=u)(hz:ev z=t)(hc:(callFunc f #[v,u,t]).run P w=.ok (.enter f #[v,u,t]) w):(execOp ev oi).run P w=.ok (.enter f #[v,u,t]) w:=by
 subst hx hy hz;simp[execOp,ho,hf,go_sem,hc]
theorem Jo{ev:Operand→Value}{oi:Oper}{f:Nat}{x y z p:Operand}{ts:Array TypeId}{v u t s:Value}{w:World}(ho:oi.op=.call { callee:=.value (.func f),args:=#[x,y,z,p],argTypes:=ts })(hf:ev (.func f)=.func (.func f) #[] #[])(hx:ev x=v)(hy:ev y=u)(hz:ev z=t)(hp:ev p=s)(hc:(callFunc f #[v,u,t,s]).run P w=.ok (.enter f #[v,u,t,s]) w):(execOp ev oi).run P w=.ok (.enter f #[v,u,t,s]) w:=by
 subst hx hy hz hp;simp[execOp,ho,hf,go_sem,hc]
end
theorem z9(v u:Value)(w:World):(callFunc 175 #[v,u]).run Tryz.prog w=.ok (.enter 175 #[v,u]) w:=by go_simp
theorem zbg(v u:Value)(w:World):(callFunc 113 #[v,u]).run Tryz.prog w=.ok (.enter 113 #[v,u]) w:=by go_simp
theorem zeG(v u t:Value)(w:World):(callFunc 112 #[v,u,t]).run Tryz.prog w=.ok (.enter 112 #[v,u,t]) w:=by go_simp
theorem Jl(v u t s:Value)(w:World):(callFunc 176 #[v,u,t,s]).run Tryz.prog w=.ok (.enter 176 #[v,u,t,s]) w:=by go_simp
theorem zS(hc:w.cell? ad=some v)(ho:oi.op=.load 3 y)(hy:ev y=.pointer (some ad)):(execOp ev oi).run Tryz.prog w=.ok (.value v) w:=by simp[execOp,ho,hy,go_sem,hc]
theorem zjg(hc:w.cell? ad=some v)(ho:oi.op=.load 47 y)(hy:ev y=.pointer (some ad)):(execOp ev oi).run Tryz.prog w=.ok (.value v) w:=by simp[execOp,ho,hy,go_sem,hc]
theorem zfY(hc:w.cell? ad=some v)(ho:oi.op=.load 40 y)(hy:ev y=.pointer (some ad)):(execOp ev oi).run Tryz.prog w=.ok (.value v) w:=by simp[execOp,ho,hy,go_sem,hc]
theorem zc0(hc:w.cell? ad=some v)(ho:oi.op=.load 41 y)(hy:ev y=.pointer (some ad)):(execOp ev oi).run Tryz.prog w=.ok (.value v) w:=by simp[execOp,ho,hy,go_sem,hc]
theorem zm7(hc:w.cell? ad=some v)(ho:oi.op=.load 39 y)(hy:ev y=.pointer (some ad)):(execOp ev oi).run Tryz.prog w=.ok (.value v) w:=by simp[execOp,ho,hy,go_sem,hc]
theorem zhs(hc:w.cell? ad=some v)(ho:oi.op=.load 43 y)(hy:ev y=.pointer (some ad)):(execOp ev oi).run Tryz.prog w=.ok (.value v) w:=by simp[execOp,ho,hy,go_sem,hc]
theorem zkS(hc:w.cell? ad=some v)(ho:oi.op=.load 36 y)(hy:ev y=.pointer (some ad)):(execOp ev oi).run Tryz.prog w=.ok (.value v) w:=by simp[execOp,ho,hy,go_sem,hc]
theorem zlw(h0:w.cell? ⟨b,o+0,none⟩=some v0)(h1:w.cell? ⟨b,o+1,none⟩=some v1)(ho:oi.op=.load 52 y)(hy:ev y=pointer (some ⟨b,o,none⟩)):(execOp ev oi).run Tryz.prog w=.ok (.value (agg #[v0,v1])) w:=by
 rw[Nat.add_zero] at h0;simp[execOp,ho,hy,go_sem,h0,h1]
theorem qK(h0:w.cell? ⟨b,o+0,none⟩=some v0)(h1:w.cell? ⟨b,o+1,none⟩=some v1)(h2:w.cell? ⟨b,o+2,none⟩=some v2)(ho:oi.op=.load 50 y)(hy:ev y=pointer (some ⟨b,o,none⟩)):(execOp ev oi).run Tryz.prog w=.ok (.value (agg #[v0,v1,v2])) w:=by
 rw[Nat.add_zero] at h0;simp[execOp,ho,hy,go_sem,h0,h1,h2]
theorem zjA(h0:w.cell? ⟨b,o+0,none⟩=some v0)(h1:w.cell? ⟨b,o+1,none⟩=some v1)(h2:w.cell? ⟨b,o+2,none⟩=some v2)(ho:oi.op=.load 59 y)(hy:ev y=pointer (some ⟨b,o,none⟩)):(execOp ev oi).run Tryz.prog w=.ok (.value (agg #[v0,v1,v2])) w:=by
 rw[Nat.add_zero] at h0;simp[execOp,ho,hy,go_sem,h0,h1,h2]
theorem zgG{v3 v4 v5:Value}(h0:w.cell? ⟨b,o+0,none⟩=some v0)(h1:w.cell? ⟨b,o+1,none⟩=some v1)(h2:w.cell? ⟨b,o+2,none⟩=some v2)(h3:w.cell? ⟨b,o+3,none⟩=some v3)(h4:w.cell? ⟨b,o+4,none⟩=some v4)(h5:w.cell? ⟨b,o+5,none⟩=some v5)(ho:oi.op=.load 54 y)(hy:ev y=pointer (some ⟨b,o,none⟩)):(execOp ev oi).run Tryz.prog w=.ok (.value (agg #[v0,v1,v2,v3,v4,v5])) w:=by
 rw[Nat.add_zero] at h0;simp[execOp,ho,hy,go_sem,h0,h1,h2,h3,h4,h5]
theorem qt{a b:Int}{r:Bool}(ho:oi.op=.binOp .eql 3 x y 3)(hx:ev x=int i64 a)(hy:ev y=int i64 b)(hr:(a == b)=r):(execOp ev oi).run Tryz.prog w=.ok (.value (.bool r)) w:=by
 simp[execOp,ho,hx,hy,go_sem,hr]
theorem zkG{a:Int}{r:Bool}(ho:oi.op=.binOp .geq 3 x y 3)(hx:ev x=int i64 a)(hy:ev y=int i64 0)(hr:decide (0≤a)=r):(execOp ev oi).run Tryz.prog w=.ok (.value (.bool r)) w:=by
 simp[execOp,ho,hx,hy,go_sem,hr]
theorem zjm(ho:oi.op=.indexAddr 43 x y)(hx:ev x=.slice (some ⟨b,o,none⟩) n c)(hy:ev y=int i64 (j:Int))(hj:(j:Int)<(n:Int)):(execOp ev oi).run Tryz.prog w=.ok (.value (pointer (some ⟨b,o+j * 3,none⟩))) w:=by
 simp[execOp,ho,hx,hy,go_sem];intro h';omega
theorem zcV(ho:oi.op=.indexAddr 41 x y)(hx:ev x=.slice (some ⟨b,o,none⟩) n c)(hy:ev y=int i64 (j:Int))(hj:(j:Int)<(n:Int)):(execOp ev oi).run Tryz.prog w=.ok (.value (pointer (some ⟨b,o+j * 3,none⟩))) w:=by
 simp[execOp,ho,hx,hy,go_sem];intro h';omega
theorem zgQ(ho:oi.op=.indexAddr 40 x y)(hx:ev x=.slice (some ⟨b,o,none⟩) n c)(hy:ev y=int i64 (j:Int))(hj:(j:Int)<(n:Int)):(execOp ev oi).run Tryz.prog w=.ok (.value (pointer (some ⟨b,o+j,none⟩))) w:=by
 simp[execOp,ho,hx,hy,go_sem];intro h';omega
theorem zjl(ho:oi.op=.indexAddr 47 x y)(hx:ev x=.slice (some ⟨b,o,none⟩) n c)(hy:ev y=int i64 (j:Int))(hj:(j:Int)<(n:Int)):(execOp ev oi).run Tryz.prog w=.ok (.value (pointer (some ⟨b,o+j * 2,none⟩))) w:=by
 simp[execOp,ho,hx,hy,go_sem];intro h';omega
theorem zlM(ho:oi.op=.indexAddr 39 x y)(hx:ev x=.slice (some ⟨b,o,none⟩) n c)(hy:ev y=int i64 (j:Int))(hj:(j:Int)<(n:Int)):(execOp ev oi).run Tryz.prog w=.ok (.value (pointer (some ⟨b,o+j,none⟩))) w:=by
 simp[execOp,ho,hx,hy,go_sem];intro h';omega
theorem zkj(ho:oi.op=.indexAddr 36 x y)(hx:ev x=.slice (some ⟨b,o,none⟩) n c)(hy:ev y=int i64 (j:Int))(hj:(j:Int)<(n:Int)):(execOp ev oi).run Tryz.prog w=.ok (.value (pointer (some ⟨b,o+j,none⟩))) w:=by
 simp[execOp,ho,hx,hy,go_sem];intro h';omega
def qH(R B:Nat)(fin reg tt els:Int):Bool:=
 if fin=1 then decide (reg=0) && (inB tt B && decide (els=0)) else if fin=2 then inB reg R && (inB tt B && inB els B) else if fin=3 then inB reg R && (decide (tt=0) && decide (els=0)) else false
theorem zno(R B:Nat)(reg tt els:Int)(fb fo bb bo:Nat)(ba:Option Addr)(bp:Nat)(w:World)(h2:w.cell? ⟨fb,fo+2,none⟩=some (.slice ba B bp))(e1:w.cell? ⟨bb,bo+1,none⟩=some (int i64 1))(e2:w.cell? ⟨bb,bo+2,none⟩=some (int i64 reg))(e3:w.cell? ⟨bb,bo+3,none⟩=some (int i64 tt))(e4:w.cell? ⟨bb,bo+4,none⟩=some (int i64 els)):
  Calls Tryz.prog 193 #[pointer (some ⟨fb,fo,none⟩),pointer (some ⟨bb,bo,none⟩)] w fun e w'=>e=.returned (.bool (qH R B 1 reg tt els))∧zc [] w w':=by
 by_cases hreg:reg=0
 case neg=>
  have greg:=neb hreg;have HE:Box (qH R B 1 reg tt els=false):=hid (by simp[qH,hreg]);clear hreg;generalize qH R B 1 reg tt els=res at *;go_enter Tryz.func193,Tryz.ntmps193;go_upto_region 3 with fail;go_quiet (fail);go_wp2_with fail;go_ret;exact ⟨by rw[HE.o];rfl,zc.drewN _ _ _⟩
 have greg:=eqb hreg;by_cases htt:inB tt B=true
 case neg=>
  have htt:inB tt B=false:=by simpa using htt
  have Wtt:=hid fun (w:World)=>z6 tt B w;rw[htt] at Wtt;have HE:Box (qH R B 1 reg tt els=false):=hid (by simp[qH,hreg,htt]);clear hreg htt;generalize qH R B 1 reg tt els=res at *;go_enter Tryz.func193,Tryz.ntmps193;go_upto_region 3 with fail;go_quiet ((go_at_call 123;first | with_reducible exact Calls.quiet_of_same (Wtt.o _)));go_wp2_with fail;go_ret;exact ⟨by rw[HE.o];rfl,zc.drewN _ _ _⟩
 have Wtt:=hid fun (w:World)=>z6 tt B w;rw[htt] at Wtt;by_cases hels:els=0
 case neg=>
  have gels:=neb hels;have HE:Box (qH R B 1 reg tt els=false):=hid (by simp[qH,hreg,htt,hels]);clear hreg htt hels;generalize qH R B 1 reg tt els=res at *;go_enter Tryz.func193,Tryz.ntmps193;go_upto_region 3 with fail;go_quiet ((go_at_call 123;first | with_reducible exact Calls.quiet_of_same (Wtt.o _)));go_wp2_with fail;go_ret;exact ⟨by rw[HE.o];rfl,zc.drewN _ _ _⟩
 have gels:=eqb hels;have HE:Box (qH R B 1 reg tt els=true):=hid (by simp[qH,hreg,htt,hels]);clear hreg htt hels;generalize qH R B 1 reg tt els=res at *;go_enter Tryz.func193,Tryz.ntmps193;go_upto_region 3 with fail;go_quiet ((go_at_call 123;first | with_reducible exact Calls.quiet_of_same (Wtt.o _)));go_wp2_with fail;go_ret;exact ⟨by rw[HE.o];rfl,zc.drewN _ _ _⟩
theorem zni(R B:Nat)(reg tt els:Int)(fb fo bb bo:Nat)(ra ba:Option Addr)(rp bp:Nat)(w:World)(h1:w.cell? ⟨fb,fo+1,none⟩=some (.slice ra R rp))(h2:w.cell? ⟨fb,fo+2,none⟩=some (.slice ba B bp))(e1:w.cell? ⟨bb,bo+1,none⟩=some (int i64 2))(e2:w.cell? ⟨bb,bo+2,none⟩=some (int i64 reg))(e3:w.cell? ⟨bb,bo+3,none⟩=some (int i64 tt))(e4:w.cell? ⟨bb,bo+4,none⟩=some (int i64 els)):
  Calls Tryz.prog 193 #[pointer (some ⟨fb,fo,none⟩),pointer (some ⟨bb,bo,none⟩)] w fun e w'=>e=.returned (.bool (qH R B 2 reg tt els))∧zc [] w w':=by
 by_cases hreg:inB reg R=true
 case neg=>
  have hreg:inB reg R=false:=by simpa using hreg
  have Wreg:=hid fun (w:World)=>z6 reg R w;rw[hreg] at Wreg;have HE:Box (qH R B 2 reg tt els=false):=hid (by simp[qH,hreg]);clear hreg;generalize qH R B 2 reg tt els=res at *;go_enter Tryz.func193,Tryz.ntmps193;go_upto_region 5 with fail;go_quiet ((go_at_call 123;first | with_reducible exact Calls.quiet_of_same (Wreg.o _)));go_wp2_with fail;go_ret;exact ⟨by rw[HE.o];rfl,zc.drewN _ _ _⟩
 have Wreg:=hid fun (w:World)=>z6 reg R w;rw[hreg] at Wreg;by_cases htt:inB tt B=true
 case neg=>
  have htt:inB tt B=false:=by simpa using htt
  have Wtt:=hid fun (w:World)=>z6 tt B w;rw[htt] at Wtt;have HE:Box (qH R B 2 reg tt els=false):=hid (by simp[qH,hreg,htt]);clear hreg htt;generalize qH R B 2 reg tt els=res at *;go_enter Tryz.func193,Tryz.ntmps193;go_upto_region 5 with fail;go_quiet ((go_at_call 123;first | with_reducible exact Calls.quiet_of_same (Wreg.o _) | with_reducible exact Calls.quiet_of_same (Wtt.o _)));go_wp2_with fail;go_ret;exact ⟨by rw[HE.o];rfl,zc.drewN _ _ _⟩
 have Wtt:=hid fun (w:World)=>z6 tt B w;rw[htt] at Wtt;by_cases hels:inB els B=true
 case neg=>
  have hels:inB els B=false:=by simpa using hels
  have Wels:=hid fun (w:World)=>z6 els B w;rw[hels] at Wels;have HE:Box (qH R B 2 reg tt els=false):=hid (by simp[qH,hreg,htt,hels]);clear hreg htt hels;generalize qH R B 2 reg tt els=res at *;go_enter Tryz.func193,Tryz.ntmps193;go_upto_region 5 with fail;go_quiet ((go_at_call 123;first | with_reducible exact Calls.quiet_of_same (Wreg.o _) | with_reducible exact Calls.quiet_of_same (Wtt.o _) | with_reducible exact Calls.quiet_of_same (Wels.o _)));go_wp2_with fail;go_ret;exact ⟨by rw[HE.o];rfl,zc.drewN _ _ _⟩
 have Wels:=hid fun (w:World)=>z6 els B w;rw[hels] at Wels;have HE:Box (qH R B 2 reg tt els=true):=hid (by simp[qH,hreg,htt,hels]);clear hreg htt hels;generalize qH R B 2 reg tt els=res at *;go_enter Tryz.func193,Tryz.ntmps193;go_upto_region 5 with fail;go_quiet ((go_at_call 123;first | with_reducible exact Calls.quiet_of_same (Wreg.o _) | with_reducible exact Calls.quiet_of_same (Wtt.o _) | with_reducible exact Calls.quiet_of_same (Wels.o _)));go_wp2_with fail;go_ret;exact ⟨by rw[HE.o];rfl,zc.drewN _ _ _⟩
theorem zn0(R B:Nat)(reg tt els:Int)(fb fo bb bo:Nat)(ra:Option Addr)(rp:Nat)(w:World)(h1:w.cell? ⟨fb,fo+1,none⟩=some (.slice ra R rp))(e1:w.cell? ⟨bb,bo+1,none⟩=some (int i64 3))(e2:w.cell? ⟨bb,bo+2,none⟩=some (int i64 reg))(e3:w.cell? ⟨bb,bo+3,none⟩=some (int i64 tt))(e4:w.cell? ⟨bb,bo+4,none⟩=some (int i64 els)):
  Calls Tryz.prog 193 #[pointer (some ⟨fb,fo,none⟩),pointer (some ⟨bb,bo,none⟩)] w fun e w'=>e=.returned (.bool (qH R B 3 reg tt els))∧zc [] w w':=by
 by_cases hreg:inB reg R=true
 case neg=>
  have hreg:inB reg R=false:=by simpa using hreg
  have Wreg:=hid fun (w:World)=>z6 reg R w;rw[hreg] at Wreg;have HE:Box (qH R B 3 reg tt els=false):=hid (by simp[qH,hreg]);clear hreg;generalize qH R B 3 reg tt els=res at *;go_enter Tryz.func193,Tryz.ntmps193;go_upto_region 7 with fail;go_quiet ((go_at_call 123;first | with_reducible exact Calls.quiet_of_same (Wreg.o _)));go_wp2_with fail;go_ret;exact ⟨by rw[HE.o];rfl,zc.drewN _ _ _⟩
 have Wreg:=hid fun (w:World)=>z6 reg R w;rw[hreg] at Wreg;by_cases htt:tt=0
 case neg=>
  have gtt:=neb htt;have HE:Box (qH R B 3 reg tt els=false):=hid (by simp[qH,hreg,htt]);clear hreg htt;generalize qH R B 3 reg tt els=res at *;go_enter Tryz.func193,Tryz.ntmps193;go_upto_region 7 with fail;go_quiet ((go_at_call 123;first | with_reducible exact Calls.quiet_of_same (Wreg.o _)));go_wp2_with fail;go_ret;exact ⟨by rw[HE.o];rfl,zc.drewN _ _ _⟩
 have gtt:=eqb htt;by_cases hels:els=0
 case neg=>
  have gels:=neb hels;have HE:Box (qH R B 3 reg tt els=false):=hid (by simp[qH,hreg,htt,hels]);clear hreg htt hels;generalize qH R B 3 reg tt els=res at *;go_enter Tryz.func193,Tryz.ntmps193;go_upto_region 7 with fail;go_quiet ((go_at_call 123;first | with_reducible exact Calls.quiet_of_same (Wreg.o _)));go_wp2_with fail;go_ret;exact ⟨by rw[HE.o];rfl,zc.drewN _ _ _⟩
 have gels:=eqb hels;have HE:Box (qH R B 3 reg tt els=true):=hid (by simp[qH,hreg,htt,hels]);clear hreg htt hels;generalize qH R B 3 reg tt els=res at *;go_enter Tryz.func193,Tryz.ntmps193;go_upto_region 7 with fail;go_quiet ((go_at_call 123;first | with_reducible exact Calls.quiet_of_same (Wreg.o _)));go_wp2_with fail;go_ret;exact ⟨by rw[HE.o];rfl,zc.drewN _ _ _⟩
theorem zl8(R B:Nat)(fin reg tt els:Int)(fb fo bb bo:Nat)(w:World)(hf:¬ (1≤fin∧fin≤3))(e1:w.cell? ⟨bb,bo+1,none⟩=some (int i64 fin)):
  Calls Tryz.prog 193 #[pointer (some ⟨fb,fo,none⟩),pointer (some ⟨bb,bo,none⟩)] w fun e w'=>e=.returned (.bool (qH R B fin reg tt els))∧zc [] w w':=by
 have HE:Box (qH R B fin reg tt els=false):=hid (by unfold qH;rw[if_neg (by omega),if_neg (by omega),if_neg (by omega)]);have o1:=neb (show fin≠1 by omega);have o2:=neb (show fin≠2 by omega);have o3:=neb (show fin≠3 by omega);clear hf;generalize qH R B fin reg tt els=res at *;go_enter Tryz.func193,Tryz.ntmps193;go_wp2_with fail;go_ret;exact ⟨by rw[HE.o];rfl,zc.refl _ _⟩
theorem zj2{fb fo bb bo:Nat}{x:Fu8}{y:Bl8}(h:FuC w fb fo x)(hb:BlC w bb bo y):Calls Tryz.prog 193 #[pointer (some ⟨fb,fo,none⟩),pointer (some ⟨bb,bo,none⟩)] w fun e w'=>e=.returned (.bool (qH x.regs.length x.blocks.length y.fin y.reg y.to y.els))∧zc [] w w':=by
 obtain ⟨ra,rp,h1,_⟩:=h.c1;obtain ⟨ba,bp,h2,_⟩:=h.c2;have e1:=hb.c1.1;have e2:=hb.c2.1;have e3:=hb.c3.1;have e4:=hb.c4.1;by_cases hf:1≤y.fin∧y.fin≤3
 ·rcases (show y.fin=1∨y.fin=2∨y.fin=3 by omega) with e | e | e
  all_goals rw[e] at e1 ⊢
  ·exact zno _ _ _ _ _ fb fo bb bo ba bp w h2 e1 e2 e3 e4
  ·exact zni _ _ _ _ _ fb fo bb bo ra ba rp bp w h1 h2 e1 e2 e3 e4
  ·exact zn0 _ _ _ _ _ fb fo bb bo ra rp w h1 e1 e2 e3 e4
 ·exact zl8 _ _ _ _ _ _ fb fo bb bo w hf e1
theorem zeD{α:Type}{l:List α}{k:Nat}{y:α}(h:l[k]? = some y):l.take (k+1)=l.take k ++ [y]:=by
 rw[List.take_add_one,h];rfl
theorem zgm{pb po:Nat}(h:PrC w pb po P)(hs:zcu P):Calls Tryz.prog 188 #[pointer (some ⟨pb,po,none⟩)] w fun e w'=>e=.returned (int i64 (jA P (pts P):Int))∧zc [] w w':=by
 have HP:=hid h;have HC:=hid (Qb h hs);have HS:=hid hs.pts;clear h hs;go_enter Tryz.func188,Tryz.ntmps188;go_wp2_with fail;refine HC.o.mono ?_;rintro e w1 ⟨a,cp,rfl,hr,k1⟩;have HR:=hid hr;have HK1:=hid k1;clear hr k1 HC;obtain ⟨N,hN⟩:∃ N,N=(pts P).length:=⟨_,rfl⟩;rw[← hN];have HN:=hid hN;have hN9:(N:Int)≤4500:=by have:=HS.o;omega
 clear hN;go_wp2_with fail
 go_loopw [3,10] (fun nv kv wr=>∃ k:Nat,k≤N∧kv=int i64 (k:Int)∧nv=int i64 (jA P ((pts P).take k):Int)∧Box (zc [] w1 wr)) (fun _ kv _=>N - (intOf kv).toNat)
 case atStart=>exact ⟨0,by omega,rfl,rfl,hid (zc.refl _ _)⟩
 case round=>
  obtain ⟨k,hk,rfl,rfl,HK⟩:=hrel;by_cases hlt:k<N
  ·have hlt':(k:Int)<(N:Int):=by omega
   obtain ⟨f,b,i,hpt,hq⟩:=zd0 (p:=P) (n:=k) (by rw[← HN.o];exact hlt);obtain ⟨lb,lo,rfl,hc⟩:=HR.o.at hq;have d0:=za HK.o hc.c0;have d1:=za HK.o hc.c1;have d2:=za HK.o hc.c2;have HQ:=hid (JR P ((pts P).take k) (f,b,i));rw[← zeD hq] at HQ;have hle:=zae P ((pts P).take k);rw[List.length_take] at hle;have hle9:jA P ((pts P).take k)≤4500:=by omega
   have HPT:=hid hpt;clear hc hq hpt hle;generalize jA P ((pts P).take k)=S at *;generalize hS2:jA P ((pts P).take (k+1))=S2 at *;have HS2:=hid hS2;clear hS2;go_upto_region 5 with fail;have h3:=zh wr (.cells #[int i64 (f:Int),int i64 (b:Int),int i64 (i:Int)] 99);have k3:=zc.alloc [] wr (.cells #[int i64 (f:Int),int i64 (b:Int),int i64 (i:Int)] 99);have HK3:=hid (HK.o.quiet k3);generalize wr.alloc (.cells #[int i64 (f:Int),int i64 (b:Int),int i64 (i:Int)] 99)=w3 at *;generalize wr.heap.size=q at *;have e0:=zd h3 0;have e1:=zd h3 1;have e2:=zd h3 2;have pr:=PrC.stays _ _ _ _ _ (HK1.o.quiet HK3.o) HP.o;obtain ⟨fa,fcp,H⟩:=pr.fns;have g4:=H.cell;obtain ⟨fb,fo,ba,bcp,rfl,B⟩:=H.at HPT.o.1;have g2:=B.cell;obtain ⟨bb,bo,rfl,L⟩:=B.at HPT.o.2.1;obtain ⟨ca,ccp,g0,hrows,hccp,_⟩:=L.c0;have hff:f<P.funcs.length:=HPT.o.1;have hbb:b<(zf P f).blocks.length:=HPT.o.2.1;have hii:i≤(zr (zf P f) b).code.length:=HPT.o.2.2;have HRW:=hid hrows;have hsite:Jw P (f,b,i)=(decide (i<(zr (zf P f) b).code.length) && decide ((zT (zr (zf P f) b) i).op=5)):=rfl;rw[hsite] at HQ;have hff':(f:Int)<(P.funcs.length:Int):=by omega
   have hbb':(b:Int)<((zf P f).blocks.length:Int):=by omega
   clear pr H B L hrows h3 k3 hsite d0 d1 d2;have HCL:Box (∃ c,c=(zr (zf P f) b).code.length):=hid ⟨_,rfl⟩;obtain ⟨c,hcc⟩:=HCL.o;have HCC:=hid hcc;rw[← hcc] at g0 HQ hii;clear hcc HCL;generalize P.funcs.length=FN at *;generalize (zf P f).blocks.length=BN at *
   go_region
   by_cases hic:i<c
   ·have hic':(i:Int)<(c:Int):=by omega
    obtain ⟨cb,co,rfl,LI⟩:=HRW.o.at (show (zr (zf P f) b).code[i]? = some (zT (zr (zf P f) b) i) from zg (by rw[← HCC.o];exact hic));have l0:=LI.c0.1;clear LI;generalize (zT (zr (zf P f) b) i).op=op at *;by_cases hop:op=5
    ·have hop':=eqb hop
     have HE:Box (S2=S+1):=hid (by rw[HQ.o];simp[hic,hop]);clear HQ hop;go_wp2_with fail;go_roundw
     case rel=>exact ⟨k+1,by omega,by go_num,by rw[HS2.o,HE.o];go_num,hid (HK3.o.quiet (zc.drew _ _))⟩
     case measure=>simp[intOf];omega
    ·have hop':=neb hop
     have HE:Box (S2=S):=hid (by rw[HQ.o];simp[hop]);clear HQ hop;go_wp2_with fail;go_roundw
     case rel=>exact ⟨k+1,by omega,by go_num,by rw[HS2.o,HE.o],hid (HK3.o.quiet (zc.drew _ _))⟩
     case measure=>simp[intOf];omega
   ·have hic':¬ (i:Int)<(c:Int):=by omega
    have HE:Box (S2=S):=hid (by rw[HQ.o];simp[hic]);clear HQ;go_wp2_with fail;go_roundw
    case rel=>exact ⟨k+1,by omega,by go_num,by rw[HS2.o,HE.o],hid (HK3.o.quiet (zc.drew _ _))⟩
    case measure=>simp[intOf];omega
  ·obtain rfl:k=N:=by omega
   have HE:Box (jA P ((pts P).take k)=jA P (pts P)):=hid (by rw[HN.o,List.take_length]);go_wp2_with fail;go_ret;exact ⟨by rw[HE.o];rfl,HK1.o.quiet HK.o⟩
section
open Go.ChangeShapes Go.WideShapes Go.ChangeAt
theorem zc.below{L:List Nat}{w':World}(h:zc L w w'){B:Nat}(hB:B≤w.heap.size)(hL:∀ x,x∈L→B≤x):Below B w w':=
 ⟨h.os,h.tape,h.output,h.size,fun k hk=>h.block k (by omega) (fun hx=>by have:=hL k hx;omega)⟩
theorem own:ownKnob Tryz.prog.godebug=none:=by kernel_rfl
theorem zjN:laidOutB Tryz.prog=true:=by kernel_rfl
theorem znr:Tryz.prog.globalNamed "errors.errorType" = some 0:=by kernel_rfl
theorem ziD:(Tryz.prog.cutTypes.find? (·.1 == "internal/reflectlite.rtype")).map (·.2)=some 323:=by kernel_rfl
theorem zfv:Tryz.prog.types.size=376:=by kernel_rfl
theorem ziL:((List.range 376).filter fun t=>Tryz.prog.rowNamed t [101,114,114,111,114])=[105]:=by kernel_rfl
theorem znJ:Tryz.prog.globalNamed "math/bits.deBruijn64tab" = some 1:=by kernel_rfl
theorem ziz:(Tryz.prog.globals[1]?).map (·.type)=some 347:=by kernel_rfl
theorem zhG:Tryz.prog.cellsOf 347=64:=by kernel_rfl
theorem zj8:Tryz.prog.cellsOf 5=1:=by kernel_rfl
def zcG:List Int:=[0,1,56,2,57,49,28,3,61,58,42,50,38,29,17,4,62,47,59,36,45,43,51,22,53,39,33,30,24,18,12,5,63,55,48,27,60,41,37,16,46,35,44,21,52,32,23,11,54,26,40,15,34,20,31,10,25,14,19,9,13,8,7,6]
theorem zlL:∀ j,j<64→zcG.getD j 0=((Go.Lib.deBruijn64tab.getD j 0:Nat):Int):=by decide +kernel
theorem zcd{W:World}(h:laidMetH Tryz.prog [("math/bits.deBruijn64tab",Rows.laid_math_bits_deBruijn64tab),("errors.errorType",Rows.laid_errors_errorType)] W):zeP W:=by
 have h':laidMet Tryz.prog [("math/bits.deBruijn64tab",Rows.laid_math_bits_deBruijn64tab)] W∧handlesMet Tryz.prog [("errors.errorType",Rows.laid_errors_errorType)] W:=h;constructor;obtain ⟨name,u,ty,e1,e2,e3,e4,e5⟩:=h'.2 _ (List.mem_singleton.2 rfl);have en:name=[101,114,114,111,114]:=(Option.some.inj e1).symm;subst en;obtain rfl:=Option.some.inj (ziD.symm.trans e2);have hm:ty∈(List.range 376).filter fun t=>Tryz.prog.rowNamed t [101,114,114,111,114]:=List.mem_filter.2 ⟨List.mem_range.2 (by rw[← zfv];exact e3),e4⟩;rw[ziL] at hm;obtain rfl:=List.mem_singleton.1 hm;have hh:typeHandle Tryz.prog 105=pointer (some ⟨2,105,none⟩):=by kernel_rfl
 rw[hh] at e5;simpa using World.var?_cell znr e5 0
theorem zb4{W:World}(h:laidMetH Tryz.prog [("math/bits.deBruijn64tab",Rows.laid_math_bits_deBruijn64tab),("errors.errorType",Rows.laid_errors_errorType)] W):Ze W:=by
 have h':laidMet Tryz.prog [("math/bits.deBruijn64tab",Rows.laid_math_bits_deBruijn64tab)] W∧handlesMet Tryz.prog [("errors.errorType",Rows.laid_errors_errorType)] W:=h;have ht:Lib.TabIs Tryz.prog W "math/bits.deBruijn64tab" .u8 zcG:=Lib.tabIs_of_head (rest:=[]) znJ ziz Tryz.underlying347 Tryz.underlying5 zj8 zhG h'.1;intro j hj;have hc:=ht.cell znJ j hj;rw[zlL j hj] at hc;exact hc
def zdD(cs:Array Value):Obj→Obj
 | .cells _ t frozen=>.cells cs t frozen
 | o=>o
def JL(P:Program)(os:Os):World:=
 { World.holding P os ⟨#[],#[],[]⟩ with heap:=((World.holding P os ⟨#[],#[],[]⟩).heap.modify 0 (zdD #[.iface 323 (agg #[pointer (some ⟨2,105,none⟩)])])).modify 1 (zdD (zcG.map fun n=>Value.int .u8 n).toArray) }
end
end Go.Proofs.YthflgjkmbakedaaGreatDoor
