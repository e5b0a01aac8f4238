import Derived.Deep.Slices
import Derived.SizedLaws
import Derived.Test.YthflgjkmbakedaaGreatDoorN16

namespace Go.Proofs.YthflgjkmbakedaaGreatDoor
open Go.RowKit
open Go.Value (int pointer agg)
open Go.IntKind (i64)
set_option maxRecDepth 20000
set_option maxHeartbeats 8000000
variable {A:Act}{P:Pr8}{f i pb po:Nat}{o:Oper}{v:Value}{vs:List Value}{w:World}{x:In8}
def jp(P:Pr8)(f:Fu8)(x:In8):Bool:=
 if x.op=1 then ((zk f x.dst).1 == 0) else
 if x.op=2 then ((zk f x.a).1 == 0 && ((zk f x.b).1 == 0 && (zk f x.dst).1 == 0)) else
 if x.op=3 then ((zk f x.dst).1 == 0) else
 if x.op=4 then ((zk f x.dst).1 != 0) else
 if x.op=5 then ((zk f x.dst).1 == 1) else
 if x.op=6 then (tyE (zk f x.dst) (zk f x.a)) else
 if x.op=7 then (match zQ P (zk f x.a) x.n with | none=>false | some t=>tyE t (zk f x.dst)) else
 if x.op=8 then (match zQ P (zk f x.a) x.n with | none=>false | some t=>tyE t (zk f x.b)) else
 if x.op=9 then ((zk f x.a).1 == 1) else
 if x.op=10 then (tyE (zk f x.dst) (2,(zf P x.n.toNat).sig)) else
 if x.op=11 then ((zk f x.dst).1 == 3 && ((zk f x.a).1 == 1 && Jq P (zk f x.a).2 (zk f x.dst).2)) else
 if x.op=12 then (match (jN P (zf P x.n.toNat).sig) with | none=>false | some s=>qo f x.args s.1 && tyE s.2 (zk f x.dst)) else
 if x.op=13 then (match (if (zk f x.a).1=2 then jN P (zk f x.a).2 else none) with | none=>false | some s=>qo f x.args s.1 && tyE s.2 (zk f x.dst)) else
 if x.op=14 then (match (qV P (zk f x.a) x.n) with | none=>false | some s=>qo f x.args s.1 && tyE s.2 (zk f x.dst)) else
 if x.op=15 then ((zk f x.a).1 == 0) else
 false
theorem zfq{f:Fu8}(h:qJ P f x=true):1≤x.op∧x.op≤15:=by
 unfold qJ zu at h;rw[Bool.and_eq_true,Bool.and_eq_true] at h;exact of_decide_eq_true h.1.1
theorem zc3{f:Fu8}(h:qJ P f x=true):ZY P f x=true:=by
 unfold qJ at h;rw[Bool.and_eq_true,Bool.and_eq_true] at h;exact h.2.2
theorem zaD{f:Fu8}(h:qJ P f x=true)(hop:x.op=10∨x.op=12):inB x.n P.funcs.length=true:=by
 have:=zc3 h;unfold ZY at this;rw[if_pos hop] at this;exact this
theorem zeT(h:PrC w pb po P)(hf:f<P.funcs.length)(x:In8){a:Option Addr}{cp:Nat}(hz:zw w a x.args)(hl:x.args.length≤1000):Calls Tryz.prog 197 #[pointer (some ⟨pb,po,none⟩),int i64 (f:Int),zt x (.slice a x.args.length cp)] w fun e w'=>e=.returned (.bool (qJ P (zf P f) x && (rtB P (zf P f) x && jp P (zf P f) x)))∧za [] w w':=
 zgN h hf x hz hl _ fun hok fb fo w' k hp hfu=>by
  have h15:=zfq hok;have hc:x.op=1∨x.op=2∨x.op=3∨x.op=4∨x.op=5∨x.op=6∨x.op=7∨x.op=8∨x.op=9∨x.op=10∨x.op=11∨x.op=12∨x.op=13∨x.op=14∨x.op=15:=by omega
  have hz':=hz.kept k (fun _ _ _=>by simp);rcases hc with e | e | e | e | e | e | e | e | e | e | e | e | e | e | e
  ·have hB:jp P (zf P f) x=((zk (zf P f) x.dst).1 == 0):=by unfold jp;rw[e];rfl
   rw[hB];exact zju hfu x _ e
  ·have hB:jp P (zf P f) x=((zk (zf P f) x.a).1 == 0 && ((zk (zf P f) x.b).1 == 0 && (zk (zf P f) x.dst).1 == 0)):=by unfold jp;rw[e];rfl
   rw[hB];exact zj9 hfu x _ e
  ·have hB:jp P (zf P f) x=((zk (zf P f) x.dst).1 == 0):=by unfold jp;rw[e];rfl
   rw[hB];exact zjl hfu x _ e
  ·have hB:jp P (zf P f) x=((zk (zf P f) x.dst).1 != 0):=by unfold jp;rw[e];rfl
   rw[hB];exact zjs hfu x _ e
  ·have hB:jp P (zf P f) x=((zk (zf P f) x.dst).1 == 1):=by unfold jp;rw[e];rfl
   rw[hB];exact zj8 hfu x _ e
  ·have hB:jp P (zf P f) x=(tyE (zk (zf P f) x.dst) (zk (zf P f) x.a)):=by unfold jp;rw[e];rfl
   rw[hB];exact zjy hfu x _ e
  ·have hB:jp P (zf P f) x=(match zQ P (zk (zf P f) x.a) x.n with | none=>false | some t=>tyE t (zk (zf P f) x.dst)):=by unfold jp;rw[e];rfl
   rw[hB];exact zjp hp hfu x _ e
  ·have hB:jp P (zf P f) x=(match zQ P (zk (zf P f) x.a) x.n with | none=>false | some t=>tyE t (zk (zf P f) x.b)):=by unfold jp;rw[e];rfl
   rw[hB];exact zj3 hp hfu x _ e
  ·have hB:jp P (zf P f) x=((zk (zf P f) x.a).1 == 1):=by unfold jp;rw[e];rfl
   rw[hB];exact zjO hfu x _ e
  ·have hB:jp P (zf P f) x=(tyE (zk (zf P f) x.dst) (2,(zf P x.n.toNat).sig)):=by unfold jp;rw[e];rfl
   rw[hB];exact ziK hp hfu x _ (zaD hok (.inl e)) e
  ·have hB:jp P (zf P f) x=((zk (zf P f) x.dst).1 == 3 && ((zk (zf P f) x.a).1 == 1 && Jq P (zk (zf P f) x.a).2 (zk (zf P f) x.dst).2)):=by unfold jp;rw[e];rfl
   rw[hB];exact zhV hp hfu x _ e
  ·have hB:jp P (zf P f) x=(match (jN P (zf P x.n.toNat).sig) with | none=>false | some s=>qo (zf P f) x.args s.1 && tyE s.2 (zk (zf P f) x.dst)):=by unfold jp;rw[e];rfl
   rw[hB];exact ziG hp hfu x _ rfl hz' hl (zaD hok (.inr e)) e
  ·have hB:jp P (zf P f) x=(match (if (zk (zf P f) x.a).1=2 then jN P (zk (zf P f) x.a).2 else none) with | none=>false | some s=>qo (zf P f) x.args s.1 && tyE s.2 (zk (zf P f) x.dst)):=by unfold jp;rw[e];rfl
   rw[hB];exact ziR hp hfu x _ rfl hz' hl e
  ·have hB:jp P (zf P f) x=(match (qV P (zk (zf P f) x.a) x.n) with | none=>false | some s=>qo (zf P f) x.args s.1 && tyE s.2 (zk (zf P f) x.dst)):=by unfold jp;rw[e];rfl
   rw[hB];exact ziJ hp hfu x _ rfl hz' hl e
  ·have hB:jp P (zf P f) x=((zk (zf P f) x.a).1 == 0):=by unfold jp;rw[e];rfl
   rw[hB];exact zih hfu x _ e
def zcc(P:Pr8)(q:Nat × Nat × Nat):Bool:=
 if q.2.2<(zq (zf P q.1) q.2.1).code.length then qJ P (zf P q.1) (qm (zq (zf P q.1) q.2.1) q.2.2)
 else qz (zf P q.1).regs.length (zf P q.1).blocks.length (zq (zf P q.1) q.2.1).fin (zq (zf P q.1) q.2.1).reg (zq (zf P q.1) q.2.1).to (zq (zf P q.1) q.2.1).els
def ptI(q:Nat × Nat × Nat):Int × Int × Int:=(q.1,q.2.1,q.2.2)
def jD(P:Pr8)(f:Nat):Bool:=inB (zf P f).sig P.sigs.length && JI P (zf P f).regs
def Qu(P:Pr8)(f:Nat):Option (Int × Int × Int):=if jD P f then ((ptF (zf P f) f (zf P f).blocks.length).find? fun q=> !zcc P q).map ptI else some (-1,0,0)
def zP(P:Pr8):Option (Int × Int × Int):=
 if zA P then (match (List.range P.funcs.length).findSome? (Qu P) with
  | some q=>some q
  | none=>if inB P.main P.funcs.length then none else some (-1,0,0)) else some (-1,0,0)
theorem zhy{b:Nat}(h:i<(zq (zf P f) b).code.length):zcc P (f,b,i)=qJ P (zf P f) (qm (zq (zf P f) b) i):=by unfold zcc;rw[if_pos h]
theorem zen(P:Pr8)(f b:Nat):zcc P (f,b,(zq (zf P f) b).code.length)=qz (zf P f).regs.length (zf P f).blocks.length (zq (zf P f) b).fin (zq (zf P f) b).reg (zq (zf P f) b).to (zq (zf P f) b).els:=by unfold zcc;rw[if_neg (by simp)]
theorem Qk{α:Type}{p:α→Bool}{l r:List α}{q:α}(hl:∀ x,x∈l→p x=false)(hq:p q=true):(l ++ q :: r).find? p=some q:=by
 rw[List.find?_append];have h1:l.find? p=none:=List.find?_eq_none.2 fun x hx=>by rw[hl x hx];simp
 rw[h1,List.find?_cons,hq];rfl
theorem Jm{α:Type}{p:α→Bool}{l:List α}(hl:∀ x,x∈l→p x=false):l.find? p=none:=List.find?_eq_none.2 fun x hx=>by rw[hl x hx];simp
def jA(P:Pr8)(l:List (Nat × Nat × Nat)):Prop:=∀ q,q∈l→zcc P q=true
theorem jA.nil(P:Pr8):jA P []:=fun q hq=>by cases hq
theorem jA.snoc{l:List (Nat × Nat × Nat)}{q:Nat × Nat × Nat}(h:jA P l)(hq:zcc P q=true):jA P (l ++ [q]):=fun x hx=>by
 rcases List.mem_append.1 hx with h1 | h1
 ·exact h x h1
 ·rw[List.mem_singleton.1 h1];exact hq
theorem jA.cast{l l':List (Nat × Nat × Nat)}(h:jA P l)(e:l=l'):jA P l':=e ▸ h
theorem Jn{n k:Nat}(h:k<n):∃ r,List.range n=List.range k ++ k :: r:=by
 refine ⟨(List.range n).drop (k+1),?_⟩;have h2:=List.take_append_drop k (List.range n);rw[List.drop_eq_getElem_cons (by simpa using h),List.getElem_range] at h2
 conv=>lhs;rw[← h2]
 congr 1
 rw[List.take_range,Nat.min_eq_left (by omega)]
theorem zhz(f b:Nat){n:Nat}(h:i<n):∃ r,ptB f b n=ptB f b i ++ (f,b,i) :: r:=by
 obtain ⟨r,hr⟩:=Jn h;refine ⟨r.map fun j=>(f,b,j),?_⟩;unfold ptB;rw[hr,List.map_append,List.map_cons]
theorem zf2{b:Nat}(hh:jD P f=true)(hb:b<(zf P f).blocks.length)(hi:i≤(zq (zf P f) b).code.length)(hl:jA P (ptF (zf P f) f b ++ ptB f b i))(hq:zcc P (f,b,i)=false):Qu P f=some ((f:Int),(b:Int),(i:Int)):=by
 unfold Qu;rw[if_pos hh];obtain ⟨r1,h1⟩:=Zf (zf P f) f hb;obtain ⟨r2,h2⟩:=zhz f b (show i<(zq (zf P f) b).code.length+1 by omega);rw[h1,h2,show ptF (zf P f) f b ++ (ptB f b i ++ (f,b,i) :: r2 ++ r1)=(ptF (zf P f) f b ++ ptB f b i) ++ (f,b,i) :: (r2 ++ r1) by simp[List.append_assoc]];rw[Qk (fun x hx=>by rw[hl x hx];rfl) (by rw[hq];rfl)];rfl
theorem zd9(hh:jD P f=true)(hl:jA P (ptF (zf P f) f (zf P f).blocks.length)):Qu P f=none:=by
 unfold Qu;rw[if_pos hh,Jm (fun x hx=>by rw[hl x hx];rfl)];rfl
theorem Ja(hh:jD P f=false):Qu P f=some (-1,0,0):=by
 unfold Qu;rw[hh];rfl
theorem zb1{α β:Type}{p:α→Option β}{l r:List α}{q:α}{y:β}(hl:∀ x,x∈l→p x=none)(hq:p q=some y):(l ++ q :: r).findSome? p=some y:=by
 rw[List.findSome?_append];have h1:l.findSome? p=none:=List.findSome?_eq_none_iff.2 hl;rw[h1,List.findSome?_cons,hq];rfl
theorem Qt(h:zA P=false):zP P=some (-1,0,0):=by unfold zP;rw[h];rfl
theorem zcT(h:zA P=true){k:Nat}(hk:k<P.funcs.length)(hl:∀ j,j<k→Qu P j=none){q:Int × Int × Int}(hq:Qu P k=some q):zP P=some q:=by
 unfold zP;obtain ⟨r,hr⟩:=Jn hk;rw[if_pos h,hr,zb1 (fun x hx=>hl x (List.mem_range.1 hx)) hq]
theorem zbA(h:zA P=true)(hl:∀ j,j<P.funcs.length→Qu P j=none):zP P=if inB P.main P.funcs.length then none else some (-1,0,0):=by
 unfold zP;rw[if_pos h,List.findSome?_eq_none_iff.2 (fun x hx=>hl x (List.mem_range.1 hx))]
def jb(o:Option (Int × Int × Int))(y:Int)(w:World)(e:Ending)(w':World):Prop:=match o with
 | none=>e=.returned .nilIface∧za [] w w'
 | some q=>jt y q.1 q.2.1 q.2.2 w e w'
theorem jb.no{o:Option (Int × Int × Int)}{q:Int × Int × Int}{y:Int}{w':World}{e:Ending}(h:o=some q)(r:jt y q.1 q.2.1 q.2.2 w e w'):jb o y w e w':=by subst h;exact r
theorem jb.yes{o:Option (Int × Int × Int)}{y:Int}{w':World}{e:Ending}(h:o=none)(r:e=.returned .nilIface∧za [] w w'):jb o y w e w':=by subst h;exact r
def zjH(P:Pr8):Prop:=∀ f b i,f<P.funcs.length→b<(zf P f).blocks.length→i<(zq (zf P f) b).code.length→(qm (zq (zf P f) b) i).args.length≤1000
theorem zbj(h:PrC w pb po P)(ha:zjH P)(hf:f<P.funcs.length):Calls Tryz.prog 122 #[pointer (some ⟨pb,po,none⟩),int i64 (f:Int)] w (jb (Qu P f) 3 w):=by
 obtain ⟨fa,fp,c4,r4,_,hfl⟩:=h.c4;obtain ⟨sa,sp,c1,_⟩:=h.c1;obtain ⟨fb,fo,rfl,hfu0⟩:=r4.at (zi (d:=⟨0,[],[]⟩) hf);have hfu:FuC w fb (fo+f * 3) (zf P f):=hfu0;obtain ⟨ra,rp,e1,q1⟩:=hfu.c1.val;obtain ⟨ba,bp,e2,rb,_,hbl⟩:=hfu.c2;have e0:=hfu.c0.1;have hf':(f:Int)<(P.funcs.length:Int):=by omega
 have HW:=hid fun (w':World)=>zo (zf P f).sig P.sigs.length w';have HT:=hid fun (w':World) (k:za [] w w')=>Zw (PrC.stays _ _ _ _ _ k h) (q1.keeps TyC.stays k);have HRF:=hid fun (w':World)=>qx 3 w';have HRA:=hid fun (b i:Int) (w':World)=>je 3 (f:Int) b i w';have HIN:=hid fun (w':World) (k:za [] w w') (x:In8) (a:Option Addr) (cp:Nat) (hz:zw w' a x.args) (hl:x.args.length≤1000)=>zdP (cp:=cp) (PrC.stays _ _ _ _ _ k h) (FuC.stays _ _ _ _ _ k hfu) x hz hl;have HEN:=hid fun (w':World) (k:za [] w w') (bb bo:Nat) (y:Bl8) (hb:BlC w' bb bo y)=>zhe (FuC.stays _ _ _ _ _ k hfu) hb;have HA:Box (∀ b i,b<(zf P f).blocks.length→i<(zq (zf P f) b).code.length→(qm (zq (zf P f) b) i).args.length≤1000):=hid fun b i h1 h2=>ha f b i hf h1 h2;have HRB:=hid rb;have HH:Box (jD P f=(inB (zf P f).sig P.sigs.length && JI P (zf P f).regs)):=hid rfl;have HBAD:=hid fun (hh:jD P f=true) (b i:Nat)=>zf2 (P:=P) (f:=f) (b:=b) (i:=i) hh;have HGOOD:=hid fun (hh:jD P f=true)=>zd9 (P:=P) (f:=f) hh;have HHD:=hid (Ja (P:=P) (f:=f));have E2:Box (∀ w',za [] w w'→w'.cell? ⟨fb,fo+f * 3+2,none⟩=some (.slice ba (zf P f).blocks.length bp)):=hid fun w' k=>zb k e2;have E1:Box (∀ w',za [] w w'→w'.cell? ⟨fb,fo+f * 3+1,none⟩=some (.slice ra (zf P f).regs.length rp)):=hid fun w' k=>zb k e1;have E0:Box (∀ w',za [] w w'→w'.cell? ⟨fb,fo+f * 3,none⟩=some (int i64 (zf P f).sig)):=hid fun w' k=>zb k e0;have S1:Box (∀ w',za [] w w'→w'.cell? ⟨pb,po+1,none⟩=some (.slice sa P.sigs.length sp)):=hid fun w' k=>zb k c1;clear h hfu0 hfu r4 rb ha;obtain ⟨bn,hbn⟩:∃ m,m=(zf P f).blocks.length:=⟨_,rfl⟩;rw[← hbn] at E2 hbl e2;have HBN:=hid hbn;have hbl9:(bn:Int)≤9223372036854775807:=by unfold maxLen at hbl;omega
 generalize P.funcs.length=FN at *;generalize P.sigs.length=SN at *;generalize hsg:(zf P f).sig=sg at *;obtain ⟨RN,hrn⟩:∃ m,m=(zf P f).regs.length:=⟨_,rfl⟩;rw[← hrn] at E1 e1 HT;have HRN:=hid hrn;clear hrn;clear hbn hsg hbl;cases hw:inB sg SN with
 | false=>
  rw[hw] at HW;rw[HHD.o (by rw[HH.o,hw];rfl)];clear hw;go_enter Tryz.func122,Tryz.ntmps122;go_upto_region 2 with fail;go_quiet ((go_at_call 123;exact Calls.quiet_of_same (HW.o _)));go_wp2_with fail;refine (HRF.o _).mono ?_;rintro e w1 ⟨p,rfl,h1,h2⟩;go_wp2_with fail;go_ret;exact ⟨p,rfl,h1,(za.drewN _ _ _).quiet h2⟩
 | true=>
  rw[hw] at HW;go_enter Tryz.func122,Tryz.ntmps122;go_upto_region 2 with fail;cases ht:JI P (zf P f).regs with
  | false=>
   rw[ht] at HT;have HQ:=hid (HHD.o (by rw[HH.o,hw,ht];rfl));clear hw ht
   go_region_held3 (fun w'=>w'.cell? ⟨pb,po+1,none⟩=some (.slice sa SN sp)∧w'.cell? ⟨fb,fo+f * 3,none⟩=some (int i64 sg)∧w'.cell? ⟨fb,fo+f * 3+1,none⟩=some (.slice ra RN rp)) (go_keep) (first
    | (go_at_call 123;refine (HW.o _).mono ?_;rintro e w5 ⟨rfl,hw5⟩;have K5:za [] w w5:=(by rw[hw5];exact za.drew _ _);have f51:=S1.o _ K5;have f52:=E0.o _ K5;have f53:=E1.o _ K5;clear hw5)
    | (go_at_call 189;refine (HT.o _ K5).mono ?_;rintro e w6 ⟨rfl,k6⟩;have K6:=K5.quiet k6;have f61:=S1.o _ K6;have f62:=E0.o _ K6;have f63:=E1.o _ K6;clear k6))
   go_wp2_with fail;refine (HRF.o _).mono ?_;rintro e w1 ⟨p,rfl,h1,h2⟩;go_wp2_with fail;go_ret;exact jb.no HQ.o ⟨p,rfl,h1,K6.quiet h2⟩
  | true=>
   rw[ht] at HT;have HHT:Box (jD P f=true):=hid (by rw[HH.o,hw,ht];rfl);clear hw ht
   go_region_held3 (fun w'=>w'.cell? ⟨pb,po+1,none⟩=some (.slice sa SN sp)∧w'.cell? ⟨fb,fo+f * 3,none⟩=some (int i64 sg)∧w'.cell? ⟨fb,fo+f * 3+1,none⟩=some (.slice ra RN rp)) (go_keep) (first
    | (go_at_call 123;refine (HW.o _).mono ?_;rintro e w5 ⟨rfl,hw5⟩;have K5:za [] w w5:=(by rw[hw5];exact za.drew _ _);have f51:=S1.o _ K5;have f52:=E0.o _ K5;have f53:=E1.o _ K5;clear hw5)
    | (go_at_call 189;refine (HT.o _ K5).mono ?_;rintro e w6 ⟨rfl,k6⟩;have K6:=K5.quiet k6;have f61:=S1.o _ K6;have f62:=E0.o _ K6;have f63:=E1.o _ K6;have HK6:=hid K6;have g2:=E2.o _ K6;clear k6))
   go_wp2_with fail;clear f51 f52 f53 f61 f62 f63 K5 K6 g2;clear e0 e1 e2 c1 c4 hf'
   go_loopw [41] (fun bv wr=>∃ b:Nat,b≤bn∧bv=int i64 (b:Int)∧Box (za [] w wr)∧Box (jA P (ptF (zf P f) f b))) (fun bv _=>bn - (intOf bv).toNat)
   case atStart=>exact ⟨0,by omega,rfl,HK6,hid (jA.nil P)⟩
   case round=>
    obtain ⟨b,hb,rfl,HK,HAL⟩:=hrel;clear HK6;by_cases hlt:b<bn
    ·have hlt':(b:Int)<(bn:Int):=by omega
     have hbf:Box (b<(zf P f).blocks.length):=hid (by rw[← HBN.o];exact hlt);have g2:=E2.o _ HK.o;obtain ⟨bb,bo,rfl,hbl0⟩:=HRB.o.at (show (zf P f).blocks[b]? = some (zq (zf P f) b) from zi hbf.o);have HBL:=hid hbl0;obtain ⟨ca,cp,e3,rc,_,hcl⟩:=hbl0.c0;have E3:=zb HK.o e3;have E3B:Box (∀ w',za [] w w'→w'.cell? ⟨bb,bo+b * 5,none⟩=some (.slice ca (zq (zf P f) b).code.length cp)):=hid fun w' k=>zb k e3;have HRC:=hid rc;obtain ⟨cn,hcn⟩:∃ m,m=(zq (zf P f) b).code.length:=⟨_,rfl⟩;rw[← hcn] at E3 hcl;have HCN:=hid hcn;have hcl9:(cn:Int)≤9223372036854775807:=by unfold maxLen at hcl;omega
     have HAL2:Box (jA P (ptF (zf P f) f b ++ ptB f b 0)):=hid (HAL.o.cast (by rw[zaB,List.append_nil]));clear hbl0 e3 rc hcn hcl;go_wp2_with fail;clear g2 E3;have HK0:=HK;clear HK
     go_loopw [54] (fun iv wr=>∃ i:Nat,i≤cn∧iv=int i64 (i:Int)∧Box (za [] w wr)∧Box (jA P (ptF (zf P f) f b ++ ptB f b i))) (fun iv _=>cn - (intOf iv).toNat)
     case atStart=>exact ⟨0,by omega,rfl,HK0,HAL2⟩
     case round=>
      obtain ⟨i,hi,rfl,HK,HAL⟩:=hrel;clear HK0 HAL2;by_cases hli:i<cn
      ·have hli':(i:Int)<(cn:Int):=by omega
       have hif:Box (i<(zq (zf P f) b).code.length):=hid (by rw[← HCN.o];exact hli);obtain ⟨ib,io,rfl,hin⟩:=HRC.o.at (show (zq (zf P f) b).code[i]? = some (qm (zq (zf P f) b) i) from zi hif.o);obtain ⟨ga,gp,e5,q5⟩:=SlC.val hin.c5;have hz:zw w ga (qm (zq (zf P f) b) i).args:=qT q5.slice.2.1;have F0:=zb HK.o hin.c0.1;have F1:=zb HK.o hin.c1.1;have F2:=zb HK.o hin.c2.1;have F3:=zb HK.o hin.c3.1;have F4:=zb HK.o hin.c4.1;have F5:=zb HK.o e5;have HC:=hid (HIN.o wr HK.o (qm (zq (zf P f) b) i) ga gp (hz.kept HK.o (fun _ _ _=>by simp)) (HA.o b i hbf.o hif.o));have HPT:=hid (zhy (P:=P) (f:=f) (b:=b) hif.o);have HSN:Box (ptF (zf P f) f b ++ ptB f b (i+1)=(ptF (zf P f) f b ++ ptB f b i) ++ [(f,b,i)]):=hid (by rw[jU, ← List.append_assoc]);unfold zt at HC;clear hin e5 q5 hz;cases hok:qJ P (zf P f) (qm (zq (zf P f) b) i) with
       | true=>
        rw[hok] at HC;have HAL9:Box (jA P (ptF (zf P f) f b ++ ptB f b (i+1))):=hid ((HAL.o.snoc (q:=(f,b,i)) (by rw[HPT.o,hok])).cast HSN.o.symm);clear hok;go_wp2_with fail;refine HC.o.mono ?_;rintro e w3 ⟨rfl,k3⟩;have K3:=hid (HK.o.quiet k3);clear k3;go_wp2_with fail;go_roundw
        case rel=>exact ⟨i+1,by omega,by go_num,K3,HAL9⟩
        case measure=>simp[intOf];omega
       | false=>
        rw[hok] at HC;have HQ:=hid (HBAD.o HHT.o b i hbf.o (Nat.le_of_lt hif.o) HAL.o (by rw[HPT.o,hok]));clear hok;go_wp2_with fail;refine HC.o.mono ?_;rintro e w3 ⟨rfl,k3⟩;have K3:=hid (HK.o.quiet k3);clear k3;go_wp2_with fail;refine (HRA.o _ _ _).mono ?_;rintro e w4 ⟨p,rfl,h1,h2⟩;go_wp2_with fail;go_ret;exact jb.no HQ.o ⟨p,rfl,h1,K3.o.quiet h2⟩
      ·obtain rfl:i=cn:=by omega
       have g2:=E2.o _ HK.o;have HC:=hid (HEN.o wr HK.o bb (bo+b * 5) (zq (zf P f) b) (BlC.stays _ _ _ _ _ HK.o HBL.o));have HPT:=hid (zen P f b);generalize qz (zf P f).regs.length (zf P f).blocks.length (zq (zf P f) b).fin (zq (zf P f) b).reg (zq (zf P f) b).to (zq (zf P f) b).els=eb at *;cases eb with
       | true=>
        have HAL9:Box (jA P (ptF (zf P f) f (b+1))):=hid ((HAL.o.snoc (q:=(f,b,i)) (by rw[HCN.o,HPT.o])).cast (by rw[qr, ← HCN.o,jU, ← List.append_assoc]));go_wp2_with fail;refine HC.o.mono ?_;rintro e w3 ⟨rfl,k3⟩;have K3:=hid (HK.o.quiet k3);clear k3;go_wp2_with fail;go_roundw
        case rel=>exact ⟨b+1,by omega,by go_num,K3,HAL9⟩
        case measure=>simp[intOf];omega
       | false=>
        have HQ:=hid (HBAD.o HHT.o b i hbf.o (by rw[HCN.o];exact Nat.le_refl _) HAL.o (by rw[HCN.o,HPT.o]));go_wp2_with fail;refine HC.o.mono ?_;rintro e w3 ⟨rfl,k3⟩;have K3:=hid (HK.o.quiet k3);clear k3;go_wp2_with fail;refine (HRA.o _ _ _).mono ?_;rintro e w4 ⟨p,rfl,h1,h2⟩;go_wp2_with fail;go_ret;exact jb.no HQ.o ⟨p,rfl,h1,K3.o.quiet h2⟩
    ·obtain rfl:b=bn:=by omega
     have HQ:=hid (HGOOD.o HHT.o (HAL.o.cast (by rw[HBN.o])));go_wp2_with fail;go_ret;exact jb.yes HQ.o ⟨rfl,HK.o⟩
theorem zgx(h:P.recs.all (JI P)=false):zA P=false:=by unfold zA;rw[h];rfl
theorem zde(h:P.sigs.all (zgd P)=false):zA P=false:=by unfold zA;rw[h];simp
theorem zhA(h:P.ifs.all (fun l=>J1 l P.sigs.length)=false):zA P=false:=by unfold zA;rw[h];simp
theorem zaq(h:P.ims.all (zfV P)=false):zA P=false:=by unfold zA;rw[h];simp
theorem zbK(h:PrC w pb po P):Calls Tryz.prog 121 #[pointer (some ⟨pb,po,none⟩)] w fun e w'=>e=.returned (.bool (zA P))∧za [] w w':=by
 obtain ⟨a0,p0,c0,r0,_,l0⟩:=h.c0;have R0:=hid r0;obtain ⟨n0,hn0⟩:∃ n,n=P.recs.length:=⟨_,rfl⟩;rw[← hn0] at c0 l0;have N0:=hid hn0;have m0:(n0:Int)≤9223372036854775807:=by unfold maxLen at l0;omega
 have C0:Box (∀ w',za [] w w'→w'.cell? ⟨pb,po,none⟩=some (.slice a0 n0 p0)):=hid (by have c:=c0;exact fun w' k=>zb k c);obtain ⟨a1,p1,c1,r1,_,l1⟩:=h.c1;have R1:=hid r1;obtain ⟨n1,hn1⟩:∃ n,n=P.sigs.length:=⟨_,rfl⟩;rw[← hn1] at c1 l1;have N1:=hid hn1;have m1:(n1:Int)≤9223372036854775807:=by unfold maxLen at l1;omega
 have C1:Box (∀ w',za [] w w'→w'.cell? ⟨pb,po+1,none⟩=some (.slice a1 n1 p1)):=hid (by have c:=c1;exact fun w' k=>zb k c);obtain ⟨a2,p2,c2,r2,_,l2⟩:=h.c2;have R2:=hid r2;obtain ⟨n2,hn2⟩:∃ n,n=P.ifs.length:=⟨_,rfl⟩;rw[← hn2] at c2 l2;have N2:=hid hn2;have m2:(n2:Int)≤9223372036854775807:=by unfold maxLen at l2;omega
 have C2:Box (∀ w',za [] w w'→w'.cell? ⟨pb,po+2,none⟩=some (.slice a2 n2 p2)):=hid (by have c:=c2;exact fun w' k=>zb k c);obtain ⟨a3,p3,c3,r3,_,l3⟩:=h.c3;have R3:=hid r3;obtain ⟨n3,hn3⟩:∃ n,n=P.ims.length:=⟨_,rfl⟩;rw[← hn3] at c3 l3;have N3:=hid hn3;have m3:(n3:Int)≤9223372036854775807:=by unfold maxLen at l3;omega
 have C3:Box (∀ w',za [] w w'→w'.cell? ⟨pb,po+3,none⟩=some (.slice a3 n3 p3)):=hid (by have c:=c3;exact fun w' k=>zb k c);obtain ⟨a4,p4,c4,r4,_,l4⟩:=h.c4;have R4:=hid r4;obtain ⟨n4,hn4⟩:∃ n,n=P.funcs.length:=⟨_,rfl⟩;rw[← hn4] at c4 l4;have N4:=hid hn4;have m4:(n4:Int)≤9223372036854775807:=by unfold maxLen at l4;omega
 have C4:Box (∀ w',za [] w w'→w'.cell? ⟨pb,po+4,none⟩=some (.slice a4 n4 p4)):=hid (by have c:=c4;exact fun w' k=>zb k c);have HT:=hid fun (w':World) (k:za [] w w') (v:Value) (l:List (Int × Int)) (hv:zeh w v l)=>Zw (PrC.stays _ _ _ _ _ k h) (hv.keeps TyC.stays k);have HTY:=hid fun (w':World) (k:za [] w w') (t:Int × Int)=>Zm (PrC.stays _ _ _ _ _ k h) t;have HW:=hid fun (k:Int) (n:Nat) (w':World)=>zo k n w';have HAW:=hid fun (w':World) (k:za [] w w') (a:Option Addr) (cp:Nat) (l:List Int) (hz:zw w a l) (hl:l.length≤maxLen) (m:Nat)=>jV (cp:=cp) (hz.kept k (fun _ _ _=>by simp)) hl m;clear r0 r1 r2 r3 r4 hn0 hn1 hn2 hn3 hn4 l0 l1 l2 l3 l4 h m4;go_enter Tryz.func121,Tryz.ntmps121;go_wp2_with fail;have K0:=hid (za.refl [] w);clear c1 c2 c3 c4
 go_loopw [16] (fun kv wr=>∃ k:Nat,k≤n0∧kv=int i64 (k:Int)∧Box (za [] w wr)∧Box (∀ j y,j<k→P.recs[j]? = some y→JI P y=true)) (fun kv _=>n0 - (intOf kv).toNat)
 case atStart=>exact ⟨0,by omega,rfl,K0,hid fun j y hj=>by omega⟩
 case round=>
  obtain ⟨k,hk,rfl,HK,HB⟩:=hrel;clear K0 c0;by_cases hlt:k<n0
  ·have hlt':(k:Int)<(n0:Int):=by omega
   obtain ⟨y,hy⟩:∃ y,P.recs[k]? = some y:=⟨_,List.getElem?_eq_getElem (by rw[← N0.o];exact hlt)⟩;obtain ⟨b,off,rfl,hc⟩:=R0.o.at hy;rw[Nat.mul_one] at hc;obtain ⟨ga,gp,e5,q5⟩:=hc.val;have d5:=zb HK.o e5;have HC:=hid (HT.o wr HK.o _ _ q5);clear e5 q5;have HY:=hid hy;clear hy hc;have REL:Box (JI P y=true→∀ j z,j<k+1→P.recs[j]? = some z→JI P z=true):=hid fun hg j z hj hz=>by
    by_cases e:j<k
    ·exact HB.o j z e hz
    ·obtain rfl:j=k:=by omega
     rw[HY.o] at hz;cases hz;exact hg
   cases hg:JI P y with
   | true=>
    rw[hg] at HC;have HG:=hid hg;clear hg;go_wp2_with fail;refine HC.o.mono ?_;rintro e w3 ⟨rfl,k3⟩;have K3:=hid (HK.o.quiet k3);clear k3;go_wp2_with fail;go_roundw
    case rel=>exact ⟨k+1,by omega,by go_num,K3,hid (REL.o HG.o)⟩
    case measure=>simp[intOf];omega
   | false=>
    rw[hg] at HC;have HE:Box (zA P=false):=hid (zgx (qy HY.o hg));clear hg;go_wp2_with fail;refine HC.o.mono ?_;rintro e w3 ⟨rfl,k3⟩;have K3:=hid (HK.o.quiet k3);clear k3;go_wp2_with fail;go_ret;exact ⟨by rw[HE.o];rfl,K3.o⟩
  ·obtain rfl:n0=k:=by omega
   have T0:Box (P.recs.all (JI P)=true):=hid (qG (fun j y hy=>HB.o j y (by rw[N0.o];exact (List.getElem?_eq_some_iff.1 hy).1) hy));have c1:=C1.o _ HK.o;clear HB hk;go_wp2_with fail;clear hlt;have K1:=HK;clear HK
   go_loopw [30] (fun kv wr=>∃ k:Nat,k≤n1∧kv=int i64 (k:Int)∧Box (za [] w wr)∧Box (∀ j y,j<k→P.sigs[j]? = some y→zgd P y=true)) (fun kv _=>n1 - (intOf kv).toNat)
   case atStart=>exact ⟨0,by omega,rfl,K1,hid fun j y hj=>by omega⟩
   case round=>
    obtain ⟨k,hk,rfl,HK,HB⟩:=hrel;clear K1 c1;by_cases hlt:k<n1
    ·have hlt':(k:Int)<(n1:Int):=by omega
     obtain ⟨y,hy⟩:∃ y,P.sigs[k]? = some y:=⟨_,List.getElem?_eq_getElem (by rw[← N1.o];exact hlt)⟩;obtain ⟨b,off,rfl,hc⟩:=R1.o.at hy;obtain ⟨ga,gp,e5,q5⟩:=hc.c0.val;have d0:=zb HK.o e5;have d1:=zb HK.o hc.c1.1;have d2:=zb HK.o hc.c2.1;have HN:=hid (zd wr (.cells #[.slice ga y.1.length gp,int i64 y.2.1,int i64 y.2.2] 59));have HKA:=hid (HK.o.quiet (za.alloc [] wr (.cells #[.slice ga y.1.length gp,int i64 y.2.1,int i64 y.2.2] 59)));have HC:=hid (HT.o _ HKA.o _ _ q5);have HSG:Box (zgd P y=(JI P y.1 && tyB P y.2)):=hid rfl;clear e5 q5;have HY:=hid hy;clear hy hc;have REL:Box (zgd P y=true→∀ j z,j<k+1→P.sigs[j]? = some z→zgd P z=true):=hid fun hg j z hj hz=>by
      by_cases e:j<k
      ·exact HB.o j z e hz
      ·obtain rfl:j=k:=by omega
       rw[HY.o] at hz;cases hz;exact hg
     go_upto_region 10 with fail;generalize wr.alloc (.cells #[.slice ga y.1.length gp,int i64 y.2.1,int i64 y.2.2] 59)=w2 at *;generalize wr.heap.size=q at *;have s0:=zc HN.o 0;cases h1:JI P y.1 with
     | false=>
      rw[h1] at HC;have HE:Box (zA P=false):=hid (zde (qy HY.o (by rw[HSG.o,h1];rfl)));clear h1;go_wp2_with fail;refine HC.o.mono ?_;rintro e w3 ⟨rfl,k3⟩;have K3:=hid (HKA.o.quiet k3);clear k3;go_wp2_with fail;go_ret;exact ⟨by rw[HE.o];rfl,K3.o⟩
     | true=>
      rw[h1] at HC;go_wp2_with fail;refine HC.o.mono ?_;rintro e w3 ⟨rfl,k3⟩;have K3:=hid (HKA.o.quiet k3);have h3:=ze HN.o k3;have s1:=zc h3 1;have s2:=zc h3 2;have HC2:=hid (HTY.o w3 K3.o y.2);clear k3 h3 s0;cases h2:tyB P y.2 with
      | false=>
       rw[h2] at HC2;have HE:Box (zA P=false):=hid (zde (qy HY.o (by rw[HSG.o,h1,h2];rfl)));clear h1 h2;go_wp2_with fail;refine HC2.o.mono ?_;rintro e w4 ⟨rfl,k3⟩;have K4:=hid (K3.o.quiet k3);clear k3;go_wp2_with fail;go_ret;exact ⟨by rw[HE.o];rfl,K4.o⟩
      | true=>
       rw[h2] at HC2;have HG:Box (zgd P y=true):=hid (by rw[HSG.o,h1,h2];rfl);clear h1 h2;go_wp2_with fail;refine HC2.o.mono ?_;rintro e w4 ⟨rfl,k3⟩;have K4:=hid (K3.o.quiet k3);clear k3;go_wp2_with fail;go_roundw
       case rel=>exact ⟨k+1,by omega,by go_num,K4,hid (REL.o HG.o)⟩
       case measure=>simp[intOf];omega
    ·obtain rfl:n1=k:=by omega
     have T1:Box (P.sigs.all (zgd P)=true):=hid (qG (fun j y hy=>HB.o j y (by rw[N1.o];exact (List.getElem?_eq_some_iff.1 hy).1) hy));have c2:=C2.o _ HK.o;clear HB hk;go_wp2_with fail;clear hlt;have K2:=HK;clear HK
     go_loopw [52] (fun kv wr=>∃ k:Nat,k≤n2∧kv=int i64 (k:Int)∧Box (za [] w wr)∧Box (∀ j y,j<k→P.ifs[j]? = some y→J1 y P.sigs.length=true)) (fun kv _=>n2 - (intOf kv).toNat)
     case atStart=>exact ⟨0,by omega,rfl,K2,hid fun j y hj=>by omega⟩
     case round=>
      obtain ⟨k,hk,rfl,HK,HB⟩:=hrel;clear K2 c2;by_cases hlt:k<n2
      ·have hlt':(k:Int)<(n2:Int):=by omega
       obtain ⟨y,hy⟩:∃ y,P.ifs[k]? = some y:=⟨_,List.getElem?_eq_getElem (by rw[← N2.o];exact hlt)⟩;obtain ⟨b,off,rfl,hc⟩:=R2.o.at hy;rw[Nat.mul_one] at hc;obtain ⟨ga,gp,e5,q5⟩:=SlC.val hc;have d0:=zb HK.o e5;have HN:=hid (zd wr (.cells #[.slice ga y.length gp] 38));have HKA:=hid (HK.o.quiet (za.alloc [] wr (.cells #[.slice ga y.length gp] 38)));have HZ:=hid (qT q5.slice.2.1);have HL:=hid q5.slice.2.2.2;clear e5 q5;have HY:=hid hy;clear hy hc;have REL:Box (J1 y P.sigs.length=true→∀ j z,j<k+1→P.ifs[j]? = some z→J1 z P.sigs.length=true):=hid fun hg j z hj hz=>by
        by_cases e:j<k
        ·exact HB.o j z e hz
        ·obtain rfl:j=k:=by omega
         rw[HY.o] at hz;cases hz;exact hg
       go_upto_region 16 with fail;generalize wr.alloc (.cells #[.slice ga y.length gp] 38)=w2 at *;generalize wr.heap.size=q at *;have s0:=zc HN.o 0;have c1:=C1.o _ HKA.o;have HC:=hid fun (m:Nat)=>HAW.o (w2.drewN m) (HKA.o.quiet (za.drewN _ _ _)) ga gp y HZ.o HL.o P.sigs.length;rw[← N1.o] at HC REL;cases hg:J1 y n1 with
       | true=>
        rw[hg] at HC;have HG:=hid hg;clear hg;go_quiet ((go_at_call 191;exact Calls.quiet_of_same (HC.o _)));go_wp2_with fail;go_roundw
        case rel=>exact ⟨k+1,by omega,by go_num,hid (HKA.o.quiet (za.drewN _ _ _)),hid (by rw[← N1.o];exact REL.o HG.o)⟩
        case measure=>simp[intOf];omega
       | false=>
        rw[hg] at HC;have HE:Box (zA P=false):=hid (zhA (qy HY.o (by rw[← N1.o];exact hg)));clear hg;go_quiet ((go_at_call 191;exact Calls.quiet_of_same (HC.o _)));go_wp2_with fail;go_ret;exact ⟨by rw[HE.o];rfl,HKA.o.quiet (za.drewN _ _ _)⟩
      ·obtain rfl:n2=k:=by omega
       have T2:Box (P.ifs.all (fun l=>J1 l P.sigs.length)=true):=hid (qG (fun j y hy=>HB.o j y (by rw[N2.o];exact (List.getElem?_eq_some_iff.1 hy).1) hy));have c3:=C3.o _ HK.o;clear HB hk;go_wp2_with fail;clear hlt;have K3:=HK;clear HK
       go_loopw [71] (fun kv wr=>∃ k:Nat,k≤n3∧kv=int i64 (k:Int)∧Box (za [] w wr)∧Box (∀ j y,j<k→P.ims[j]? = some y→zfV P y=true)) (fun kv _=>n3 - (intOf kv).toNat)
       case atStart=>exact ⟨0,by omega,rfl,K3,hid fun j y hj=>by omega⟩
       case round=>
        obtain ⟨k,hk,rfl,HK,HB⟩:=hrel;clear K3 c3;by_cases hlt:k<n3
        ·have hlt':(k:Int)<(n3:Int):=by omega
         obtain ⟨y,hy⟩:∃ y,P.ims[k]? = some y:=⟨_,List.getElem?_eq_getElem (by rw[← N3.o];exact hlt)⟩;obtain ⟨b,off,rfl,hc⟩:=R3.o.at hy;obtain ⟨ga,gp,e5,q5⟩:=SlC.val hc.c2;have d0:=zb HK.o hc.c0.1;have d1:=zb HK.o hc.c1.1;have d2:=zb HK.o e5;have HN:=hid (zd wr (.cells #[int i64 y.1,int i64 y.2.1,.slice ga y.2.2.length gp] 61));have HKA:=hid (HK.o.quiet (za.alloc [] wr (.cells #[int i64 y.1,int i64 y.2.1,.slice ga y.2.2.length gp] 61)));have HZ:=hid (qT q5.slice.2.1);have HL:=hid q5.slice.2.2.2;clear e5 q5;have HY:=hid hy;clear hy hc;have REL:Box (zfV P y=true→∀ j z,j<k+1→P.ims[j]? = some z→zfV P z=true):=hid fun hg j z hj hz=>by
          by_cases e:j<k
          ·exact HB.o j z e hz
          ·obtain rfl:j=k:=by omega
           rw[HY.o] at hz;cases hz;exact hg
         go_upto_region 22 with fail;generalize wr.alloc (.cells #[int i64 y.1,int i64 y.2.1,.slice ga y.2.2.length gp] 61)=w2 at *;generalize wr.heap.size=q at *;have s0:=zc HN.o 0;have s1:=zc HN.o 1;have s2:=zc HN.o 2;have c0:=C0.o _ HKA.o;have c2:=C2.o _ HKA.o;have c4:=C4.o _ HKA.o;have H1:=hid fun (m:Nat)=>HW.o y.1 n0 (w2.drewN m);have H2:=hid fun (m:Nat)=>HW.o y.2.1 n2 (w2.drewN m);have H3:=hid fun (m:Nat)=>HAW.o (w2.drewN m) (HKA.o.quiet (za.drewN _ _ _)) ga gp y.2.2 HZ.o HL.o n4;have HIM:Box (zfV P y=(inB y.1 n0 && (inB y.2.1 n2 && J1 y.2.2 n4))):=hid (by rw[N0.o,N2.o,N4.o];rfl);cases h1:inB y.1 n0 with
         | false=>
          rw[h1] at H1;have HE:Box (zA P=false):=hid (zaq (qy HY.o (by rw[HIM.o,h1];rfl)));clear h1;go_quiet (first | (go_at_call 123;with_reducible exact Calls.quiet_of_same (H1.o _)));go_wp2_with fail;go_ret;exact ⟨by rw[HE.o];rfl,HKA.o.quiet (za.drewN _ _ _)⟩
         | true=>
          rw[h1] at H1;cases h2:inB y.2.1 n2 with
          | false=>
           rw[h2] at H2;have HE:Box (zA P=false):=hid (zaq (qy HY.o (by rw[HIM.o,h1,h2];rfl)));clear h1 h2;go_quiet (first | (go_at_call 123;with_reducible exact Calls.quiet_of_same (H1.o _)) | (go_at_call 123;with_reducible exact Calls.quiet_of_same (H2.o _)));go_wp2_with fail;go_ret;exact ⟨by rw[HE.o];rfl,HKA.o.quiet (za.drewN _ _ _)⟩
          | true=>
           rw[h2] at H2;cases h3:J1 y.2.2 n4 with
           | false=>
            rw[h3] at H3;have HE:Box (zA P=false):=hid (zaq (qy HY.o (by rw[HIM.o,h1,h2,h3];rfl)));clear h1 h2 h3;go_quiet (first | (go_at_call 123;with_reducible exact Calls.quiet_of_same (H1.o _)) | (go_at_call 123;with_reducible exact Calls.quiet_of_same (H2.o _)) | (go_at_call 191;with_reducible exact Calls.quiet_of_same (H3.o _)));go_wp2_with fail;go_ret;exact ⟨by rw[HE.o];rfl,HKA.o.quiet (za.drewN _ _ _)⟩
           | true=>
            rw[h3] at H3;have HG:Box (zfV P y=true):=hid (by rw[HIM.o,h1,h2,h3];rfl);clear h1 h2 h3;go_quiet (first | (go_at_call 123;with_reducible exact Calls.quiet_of_same (H1.o _)) | (go_at_call 123;with_reducible exact Calls.quiet_of_same (H2.o _)) | (go_at_call 191;with_reducible exact Calls.quiet_of_same (H3.o _)));go_wp2_with fail;go_roundw
            case rel=>exact ⟨k+1,by omega,by go_num,hid (HKA.o.quiet (za.drewN _ _ _)),hid (REL.o HG.o)⟩
            case measure=>simp[intOf];omega
        ·obtain rfl:n3=k:=by omega
         have T3:Box (P.ims.all (zfV P)=true):=hid (qG (fun j y hy=>HB.o j y (by rw[N3.o];exact (List.getElem?_eq_some_iff.1 hy).1) hy));have HE:Box (zA P=true):=hid (by unfold zA;rw[T0.o,T1.o,T2.o,T3.o];rfl);clear HB hk;go_wp2_with fail;go_ret;exact ⟨by rw[HE.o];rfl,HK.o⟩
theorem zdX(h:PrC w pb po P)(ha:zjH P):Calls Tryz.prog 82 #[pointer (some ⟨pb,po,none⟩)] w (jb (zP P) 3 w):=by
 have HT:=hid (zbK h);have HF:=hid fun (w':World) (k:za [] w w') (f:Nat) (hf:f<P.funcs.length)=>zbj (PrC.stays _ _ _ _ _ k h) ha hf;have HRF:=hid fun (w':World)=>qx 3 w';have HW:=hid fun (w':World)=>zo P.main P.funcs.length w';obtain ⟨fa,fp,c4,_,_,hfl⟩:=h.c4;have c5:=h.c5.1;have C4:Box (∀ w',za [] w w'→w'.cell? ⟨pb,po+4,none⟩=some (.slice fa P.funcs.length fp)):=hid fun w' k=>zb k c4;have C5:Box (∀ w',za [] w w'→w'.cell? ⟨pb,po+5,none⟩=some (int i64 P.main)):=hid fun w' k=>zb k c5;have HT0:=hid (Qt (P:=P));have HFN:=hid fun (h1:zA P=true) (k:Nat) (h2:k<P.funcs.length) (h3:∀ j,j<k→Qu P j=none) (q:Int × Int × Int) (h4:Qu P k=some q)=>zcT h1 h2 h3 h4;have HEND:=hid fun (h1:zA P=true) (h3:∀ j,j<P.funcs.length→Qu P j=none)=>zbA h1 h3;clear h ha c4 c5;obtain ⟨n,hn⟩:∃ n,n=P.funcs.length:=⟨_,rfl⟩;rw[← hn] at C4 hfl HW HEND;have HN:=hid hn;have hn9:(n:Int)≤9223372036854775807:=by unfold maxLen at hfl;omega
 clear hn hfl;go_enter Tryz.func82,Tryz.ntmps82;go_wp2_with fail;refine HT.o.mono ?_;rintro e w1 ⟨rfl,k1⟩;have K1:=hid k1;clear k1 HT;cases ht:zA P with
 | false=>
  have HQ:=hid (HT0.o ht);go_wp2_with fail;refine (HRF.o _).mono ?_;rintro e w2 ⟨p,rfl,h1,h2⟩;go_wp2_with fail;go_ret;exact jb.no HQ.o ⟨p,rfl,h1,K1.o.quiet h2⟩
 | true=>
  have HTT:=hid ht;clear ht;have c4:=C4.o _ K1.o;go_wp2_with fail;clear c4
  go_loopw [18] (fun kv wr=>∃ k:Nat,k≤n∧kv=int i64 (k:Int)∧Box (za [] w wr)∧Box (∀ j,j<k→Qu P j=none)) (fun kv _=>n - (intOf kv).toNat)
  case atStart=>exact ⟨0,by omega,rfl,K1,hid fun j hj=>by omega⟩
  case round=>
   obtain ⟨k,hk,rfl,HK,HB⟩:=hrel;clear K1;by_cases hlt:k<n
   ·have hlt':(k:Int)<(n:Int):=by omega
    have HC:=hid (HF.o wr HK.o k (by rw[← HN.o];exact hlt));go_wp2_with fail;refine HC.o.mono ?_;intro e w2 hp;cases hq:Qu P k with
    | none=>
     rw[hq] at hp;obtain ⟨rfl,k2⟩:=hp;have K2:=hid (HK.o.quiet k2);have HB2:Box (∀ j,j<k+1→Qu P j=none):=hid fun j hj=>by
      by_cases e:j<k
      ·exact HB.o j e
      ·obtain rfl:j=k:=by omega
       exact hq
     clear k2 hq;go_wp2_with fail;go_roundw
     case rel=>exact ⟨k+1,by omega,by go_num,K2,HB2⟩
     case measure=>simp[intOf];omega
    | some q=>
     rw[hq] at hp;obtain ⟨p,rfl,h1,k2⟩:=hp;have HQ:=hid (HFN.o HTT.o k (by rw[← HN.o];exact hlt) HB.o q hq);have H1:=hid h1;have K2:=hid (HK.o.quiet k2);clear k2 hq h1;go_wp2_with fail;go_ret;exact jb.no HQ.o ⟨p,rfl,H1.o,K2.o⟩
   ·obtain rfl:n=k:=by omega
    have HE:=hid (HEND.o HTT.o HB.o);have c4:=C4.o _ HK.o;have c5:=C5.o _ HK.o;go_upto_region 10 with fail;cases hm:inB P.main n with
    | true=>
     rw[hm] at HW HE;have HQ:Box (zP P=none):=hid (by rw[HE.o];rfl);clear hm;go_quiet ((go_at_call 123;exact Calls.quiet_of_same (HW.o _)));go_wp2_with fail;go_ret;exact jb.yes HQ.o ⟨rfl,HK.o.quiet (za.drewN _ _ _)⟩
    | false=>
     rw[hm] at HW HE;have HQ:Box (zP P=some (-1,0,0)):=hid (by rw[HE.o];rfl);clear hm;go_quiet ((go_at_call 123;exact Calls.quiet_of_same (HW.o _)));go_wp2_with fail;refine (HRF.o _).mono ?_;rintro e w2 ⟨p,rfl,h1,h2⟩;go_wp2_with fail;go_ret;exact jb.no HQ.o ⟨p,rfl,h1,(HK.o.quiet (za.drewN _ _ _)).quiet h2⟩
section
variable {P:Program}{ops:Array Oper}{Q:Exit→Act→World→Prop}{S:World→Prop}{E:Array Bool→World→Prop}
def zau (P : Program) (ops : Array Oper) (A : Act) (S : World → Prop) (E : Array Bool → World → Prop) (i : Nat) (o : Oper) (v : Value) : Prop :=
  (Region.wanted o (yielded ops A.tmps) = true ∧ ∀ l w, i < l.size → l.getD i false = false → (∀ e, e ∈ o.after → Region.binds .any e = true → l.getD e.on false = true) → S w → E l w →
    ((∃ w', (execOp A.eval o).run P w = .ok (.value v) w' ∧ S w' ∧ E (l.setIfInBounds i true) w') ∨
     (∃ w', (execOp A.eval o).run P w = .ok .skip w' ∧ v = undef ∧ S w' ∧ E (l.setIfInBounds i true) w') ∨
     (∃ f args, (execOp A.eval o).run P w = .ok (.enter f args) w ∧ Calls P f args w fun e w' => e = .returned v ∧ S w' ∧ E (l.setIfInBounds i true) w'))) ∨
  (Region.wanted o (yielded ops A.tmps) = false ∧ v = undef ∧ ∀ l w, S w → E l w → E (l.setIfInBounds i true) w)
theorem ZI{A:Act}{i:Nat}{o:Oper}{v:Value}(hw:Region.wanted o (yielded ops A.tmps)=true)(hE:∀ l w,E l w→E (l.setIfInBounds i true) w)(h:∀ w,S w→(execOp A.eval o).run P w=.ok (.value v) w):zau P ops A S E i o v:=
 .inl ⟨hw,fun l w _ _ _ hs he=>.inl ⟨w,h w hs,hs,hE l w he⟩⟩
theorem zhM{A:Act}{i:Nat}{o:Oper}(hw:Region.wanted o (yielded ops A.tmps)=false)(hE:∀ l w,E l w→E (l.setIfInBounds i true) w):zau P ops A S E i o undef:=.inr ⟨hw,rfl,fun l w _ he=>hE l w he⟩
theorem zhR{A:Act}{i:Nat}{o:Oper}(hw:Region.wanted o (yielded ops A.tmps)=true)(h:∀ l w,i<l.size→l.getD i false=false→(∀ e,e∈o.after→Region.binds .any e=true→l.getD e.on false=true)→S w→E l w→∃ w',(execOp A.eval o).run P w=.ok .skip w'∧S w'∧E (l.setIfInBounds i true) w'):zau P ops A S E i o undef:=
 .inl ⟨hw,fun l w hi hu hp hs he=>by
  obtain ⟨w',h1,h2,h3⟩:=h l w hi hu hp hs he
  exact .inr (.inl ⟨w',h1,rfl,h2,h3⟩)⟩
theorem zbI{A:Act}{i:Nat}{o:Oper}{v:Value}(hw:Region.wanted o (yielded ops A.tmps)=true)(f:Nat)(args:Array Value)(he:∀ w,(execOp A.eval o).run P w=.ok (.enter f args) w)
  (hc:∀ l w,i<l.size→l.getD i false=false→(∀ e,e∈o.after→Region.binds .any e=true→l.getD e.on false=true)→S w→E l w→Calls P f args w fun e w'=>e=.returned v∧S w'∧E (l.setIfInBounds i true) w'):zau P ops A S E i o v:=
 .inl ⟨hw,fun l w hi hu hp hs hE=>.inr (.inr ⟨f,args,he w,hc l w hi hu hp hs hE⟩)⟩
def zI(P:Program)(ops:Array Oper)(A:Act)(S:World→Prop)(E:Array Bool→World→Prop):Nat→List Oper→List Value→Prop
 | i,o :: os,v :: vs=>zau P ops A S E i o v∧zI P ops A S E (i+1) os vs
 | _,[],[]=>True
 | _,_,_=>False
theorem zI.cons{A:Act}{i:Nat}{o:Oper}{v:Value}{os:List Oper}{vs:List Value}(h:zau P ops A S E i o v)(t:zI P ops A S E (i+1) os vs):zI P ops A S E i (o :: os) (v :: vs):=⟨h,t⟩
theorem gFR{A:Act}{i:Nat}{o:Oper}{v:Value}{os:List Oper}{vs:List Value}(t:zI P ops A S E (i+1) os vs)(hE:∀ l w,E l w→E (l.setIfInBounds i true) w:=by exact fun _ _ h=>h.keep (by decide))(h:∀ w,S w→(execOp A.eval o).run P w=.ok (.value v) w:=by exact fun _ _=>rfl)(hw:Region.wanted o (yielded ops A.tmps)=true:=by rfl):zI P ops A S E i (o :: os) (v :: vs):=⟨ZI hw hE h,t⟩
theorem gFY{A:Act}{i:Nat}{o:Oper}{v:Value}{os:List Oper}{vs:List Value}(h:∀ w,S w→(execOp A.eval o).run P w=.ok (.value v) w)(t:zI P ops A S E (i+1) os vs)(hE:∀ l w,E l w→E (l.setIfInBounds i true) w:=by exact fun _ _ h=>h.keep (by decide))(hw:Region.wanted o (yielded ops A.tmps)=true:=by rfl):zI P ops A S E i (o :: os) (v :: vs):=⟨ZI hw hE h,t⟩
theorem zI.nil{A:Act}{i:Nat}:zI P ops A S E i [] []:=trivial
theorem zI.at{A:Act}:∀ {os:List Oper}{vs:List Value}{i:Nat},zI P ops A S E i os vs→∀ {k:Nat}{o:Oper},os[k]? = some o→∃ v,vs[k]? = some v∧zau P ops A S E (i+k) o v
 | [],_,_,_,k,o,ho=>by simp at ho
 | _ :: _,[],_,h,_,_,_=>by cases h
 | o :: os,v :: vs,i,h,0,o',ho=>by
  simp at ho;subst ho;exact ⟨v,rfl,h.1⟩
 | o :: os,v :: vs,i,h,k+1,o',ho=>by
  obtain ⟨u,hu,hg⟩:=zI.at h.2 (k:=k) (by simpa using ho);exact ⟨u,by simpa using hu,by rw[show i+(k+1)=i+1+k by omega];exact hg⟩
structure zjQ (ops:Array Oper) (S:World→Prop) (E:Array Bool→World→Prop) (a A:Act) (l:Array Bool) (a':Act) (w:World):Prop where
 size:l.size=ops.size
 kept:S w
 told:E l w
 sz:a'.tmps.size=a.tmps.size
 df:a'.defers=a.defers
 on:∀ (i:Nat) (oi:Oper) (d:Nat),ops[i]? = some oi→oi.dst=some d→l.getD i false=true→a'.tmps[d]? = A.tmps[d]?
 off:∀ d:Nat,(∀ (i:Nat) (oi:Oper),ops[i]? = some oi→oi.dst=some d→l.getD i false=false)→a'.tmps[d]? = a.tmps[d]?
theorem Qa{id:Nat}{a:Act}{w:World}(S:World→Prop)(E:Array Bool→World→Prop)(n:Nat)(vs:List Value)(hm:P.follows .mixedOrders=true)(hn:a.tmps.size=n)(hok:zb0 ops n=true)(hk:S w.drew)(he:E (Array.replicate ops.size false) w.drew)
  (h:∀ A,zE ops.toList vs a=A→zI P ops A S E 0 ops.toList vs∧∀ l w',(∀ i,i<ops.size→l.getD i false=true)→S w'→E l w'→Q .normal A w'):(Code.region id ops true).wp P Q a w:=by
 obtain ⟨A,hA⟩:∃ A,zE ops.toList vs a=A:=⟨_,rfl⟩;obtain ⟨hg,hQ⟩:=h A hA;unfold zb0 at hok;rw[Bool.and_eq_true,Bool.and_eq_true] at hok;obtain ⟨hsel,hp,hall⟩:=hok;have pair:∀ (i j:Nat) (oi oj:Oper),ops[i]? = some oi→ops[j]? = some oj→qc ops n i j=true:=fun i j oi oj hi hj=>by
  have h1:=List.all_eq_true.1 hp i (List.mem_range.2 (Array.getElem?_eq_some_iff.1 hi).1);exact List.all_eq_true.1 h1 j (List.mem_range.2 (Array.getElem?_eq_some_iff.1 hj).1)
 have dist:∀ (i j:Nat) (oi oj:Oper) (d:Nat),ops[i]? = some oi→ops[j]? = some oj→i≠j→oi.dst=some d→oj.dst≠some d:=fun i j oi oj d hi hj hij hd he=>by
  have:=pair i j oi oj hi hj;unfold qc at this;rw[hi,hj] at this;simp[hij,hd,he] at this
 have lt:∀ (i:Nat) (oi:Oper) (d:Nat),ops[i]? = some oi→oi.dst=some d→d<n:=fun i oi d hi hd=>by
  have:=pair i i oi oi hi hi;unfold qc at this;rw[hi] at this;simp only[hd,Bool.and_eq_true,decide_eq_true_eq] at this;exact this.2.1
 have waits:∀ (i j:Nat) (oi oj:Oper) (d:Nat),ops[i]? = some oi→ops[j]? = some oj→oj.dst=some d→d∈oi.looksAt ops→oi.after.any (fun e=>Region.binds .any e && e.on == j)=true:=fun i j oi oj d hi hj hd hm=>by
  have:=pair i j oi oj hi hj;unfold qc at this;rw[hi,hj] at this;simp only[hd,Bool.and_eq_true,Bool.or_eq_true,Bool.not_eq_true',decide_eq_true_eq] at this;rcases this.2.2 with h0 | h0
  ·rw[List.contains_iff_mem.2 hm] at h0
   cases h0
  ·exact h0
 have aOther:∀ d:Nat,(∀ (i:Nat) (oi:Oper),ops[i]? = some oi→oi.dst≠some d)→A.tmps[d]? = a.tmps[d]? := fun d hd=>by
  rw[← hA];exact qj _ _ _ (fun k o ho=>hd k o (by rw[← Array.getElem?_toList];exact ho))
 have aAt:∀ (i:Nat) (oi:Oper) (d:Nat) (v:Value),ops[i]? = some oi→oi.dst=some d→vs[i]? = some v→A.tmps[d]? = some v:=fun i oi d v hi hd hv=>by
  rw[← hA];exact Zg _ _ _ i (by rw[Array.getElem?_toList];exact hi) hv hd (by rw[hn];exact lt i oi d hi hd) (fun j oj hj ho=>dist i j oi oj d hi (by rw[← Array.getElem?_toList];exact ho) (Ne.symm hj) hd)
 refine wp_region_held_drew (S:=S) hm hk (fun hS=> ?_);refine qN (zjQ ops S E a A) (fun _ _ _ h=>h.kept) (fun l a' w' hI hr=> ?_) (fun l a' w' i hI hr=> ?_) _ _ _ _ ?_ ?_
 ·have hl:=jz (md:=.any) (ops:=ops) hI.size hr hall
  have e:a'=A:=by
   have ht:a'.tmps=A.tmps:=by
    apply Array.ext_getElem?;intro d;by_cases hx:∃ (i:Nat) (oi:Oper),ops[i]? = some oi∧oi.dst=some d
    ·obtain ⟨i,oi,hi,hd⟩:=hx
     exact hI.on i oi d hi hd (hl i (Array.getElem?_eq_some_iff.1 hi).1)
    ·have hno:∀ (i:Nat) (oi:Oper),ops[i]? = some oi→oi.dst≠some d:=fun i oi hi hd=>hx ⟨i,oi,hi,hd⟩
     rw[hI.off d (fun i oi hi hd=>absurd hd (hno i oi hi)),aOther d hno]
   have hdf:a'.defers=A.defers:=by rw[hI.df, ← hA,qn]
   cases a';cases A;simp only at ht hdf;rw[ht,hdf]
  rw[e];exact hQ l w' hl hI.kept hI.told
 ·obtain ⟨hun,oi,hi,hw8⟩:=mem_ready.1 hr
  have hil:i<l.size:=by rw[hI.size];exact (Array.getElem?_eq_some_iff.1 hi).1
  obtain ⟨v,hv,hgv⟩:=hg.at (k:=i) (by rw[Array.getElem?_toList];exact hi);rw[Nat.zero_add] at hgv;have agree:∀ t,t∈oi.looksAt ops→a'.tmps[t]? = A.tmps[t]? := fun t ht=>by
   by_cases hx:∃ (j:Nat) (oj:Oper),ops[j]? = some oj∧oj.dst=some t
   ·obtain ⟨j,oj,hj,hd⟩:=hx
    have:=waits i j oi oj t hi hj hd ht;rw[Array.any_eq_true'] at this;obtain ⟨e,he,h1⟩:=this;rw[Bool.and_eq_true,beq_iff_eq] at h1;have h2:=hw8 e he h1.1;rw[h1.2] at h2;exact hI.on j oj t hj hd h2
   ·have hno:∀ (i:Nat) (oi:Oper),ops[i]? = some oi→oi.dst≠some t:=fun i oi hi hd=>hx ⟨i,oi,hi,hd⟩
    rw[hI.off t (fun i oi hi hd=>absurd hd (hno i oi hi)),aOther t hno]
  have hex:execOp a'.eval oi=execOp A.eval oi:=execOp_congr oi (fun cs b=>by
    exact Region.noSelect_spec hsel i oi cs b hi) (fun x hx=>by
   cases x with
   | tmp t=>
    have:=agree t (List.mem_append_left _ (List.mem_filterMap.2 ⟨.tmp t,by simpa using hx,rfl⟩));simp only[Act.eval,Array.getD_eq_getD_getElem?,this]
   | const v=>rfl
   | global g=>rfl
   | func f=>rfl)
  have hwt:Region.wanted oi (yielded ops a'.tmps)=Region.wanted oi (yielded ops A.tmps):=by
   unfold Region.wanted;cases hgd:oi.guard with
   | none=>rfl
   | some gw=>
    obtain ⟨g,want⟩:=gw;have hy:yielded ops a'.tmps g=yielded ops A.tmps g:=by
     unfold yielded;cases ht:(ops[g]?).bind (·.dst) with
     | none=>rfl
     | some t=>
      have:=agree t (by simp[Oper.looksAt,hgd,ht]);simp[this]
    simp only[hy]
  have next:∀ w2,S w2→E (l.setIfInBounds i true) w2→zjQ ops S E a A (l.setIfInBounds i true) (a'.put oi.dst v) w2:=fun w2 k2 e2=>by
   refine ⟨by simpa using hI.size,k2,e2,by rw[jS,hI.sz],by rw[j6,hI.df],fun j oj d hj hd hl=> ?_,fun d hd=> ?_⟩
   ·by_cases hij:i=j
    ·subst hij
     rw[hi] at hj;cases hj;rw[hd,zaG (by rw[hI.sz,hn];exact lt i oi d hi hd),aAt i oi d v hi hd hv]
    ·rw[q8 (dist j i oj oi d hj hi (Ne.symm hij) hd)]
     rw[js hij] at hl;exact hI.on j oj d hj hd hl
   ·have h1:oi.dst≠some d:=fun e=>by
     have:=hd i oi hi e;rw[jj hil] at this;cases this
    rw[q8 h1];refine hI.off d (fun j oj hj hdj=> ?_);have:=hd j oj hj hdj;by_cases hij:i=j
    ·subst hij
     rw[hi] at hj;cases hj;exact absurd hdj h1
    ·rw[js hij] at this
     exact this
  refine wpOp_step hi (fun K' hK=> ?_);rw[hwt];rcases hgv with ⟨hw1,hr1⟩ | ⟨hw1,rfl,hpass⟩
  ·rw[if_pos hw1]
   unfold Oper.wp;rw[hex];rcases hr1 l w' hil (by rw[Array.getD_eq_getD_getElem?,Array.getElem?_eq_getElem hil] at hun ⊢;exact hun) hw8 hI.kept hI.told with ⟨w2,he,k2,e2⟩ | ⟨w2,he,rfl,k2,e2⟩ | ⟨f,args,he,hc⟩
   ·rw[he]
    exact hK _ _ (next w2 k2 e2)
   ·rw[he]
    exact hK _ _ (next w2 k2 e2)
   ·rw[he]
    simp only[Oper.upon];refine Calls.mono hc (fun e w2=> ?_);rintro ⟨rfl,k2,e2⟩;exact hK _ _ (next w2 k2 e2)
  ·rw[if_neg (by rw[hw1];simp)]
   exact hK _ _ (next w' hI.kept (hpass l w' hI.kept hI.told))
 ·refine ⟨by simp,hS,he,rfl,rfl,fun i oi d hi hd hl=> ?_,fun d hd=>rfl⟩
  exfalso;rw[Array.getD_eq_getD_getElem?] at hl;by_cases hlt:i<ops.size
  ·rw[Array.getElem?_replicate,if_pos hlt] at hl
   cases hl
  ·rw[Array.getElem?_replicate,if_neg hlt] at hl
   cases hl
 ·unfold left
  exact Nat.le_trans List.countP_le_length (by simp)
end
section
open Go.ChangeShapes Go.WideShapes Go.ChangeAt
theorem Zp(h:Z7 P=true):qk P.funcs 12 fnB=true:=by
 unfold Z7 zix at h;simp only[Bool.and_eq_true] at h;exact h.1.2.2.2.2.2
theorem zas(h:Z7 P=true):zjH P:=by
 intro f b i hf hb hi;have h1:fnB (zf P f)=true:=qY (Zp h) (zi hf);unfold fnB at h1;simp only[Bool.and_eq_true] at h1;have h2:zej (zq (zf P f) b)=true:=qY h1.2.2 (zi hb);have h3:zei (qm (zq (zf P f) b) i)=true:=qY h2 (zi hi);unfold zei at h3;have:=of_decide_eq_true h3;omega
end
end Go.Proofs.YthflgjkmbakedaaGreatDoor
