import Derived.Test.YtkgoimokgbdgfaaGreatDoorV08

namespace Go.Proofs.YtkgoimokgbdgfaaGreatDoor
open Go.RowKit
open Go.Value (int pointer agg)
open Go.IntKind (i64)
set_option maxRecDepth 20000
set_option maxHeartbeats 8000000
variable {a:Act}{d fuel i:Nat}{listed:Array Bool}{oi:Oper}{v:Value}{w:World}
theorem OB.row{w0:World}{B:List UInt8}(h:OB w0 w v B)(hB:0<B.length):∃ g cp,v=.slice (some ⟨g,0,none⟩) B.length cp∧(∀ i,i<B.length→w.cell? ⟨g,0+i,none⟩=some (.int .u8 ((B.getD i 0).toNat:Int))):=by
 obtain ⟨a,cp,rfl,h1,h2,h3⟩:=h.open;rcases h1 with h1 | ⟨b,off,rfl,h1⟩
 ·rw[h1] at hB
  simp at hB
 ·obtain ⟨_,rfl⟩:=h3 b off rfl
  exact ⟨b,cp,rfl,h1⟩
theorem ZP{w0 w':World}{q:Nat}{cs:Array Value}{t:TypeId}{B:List UInt8}(h:w.heap[q]? = some (.cells cs t (0,0)))(ht:t≠5)(hO:OB w0 w v B)(hgr:w.grownBy w' v.ownBlock):w'.heap[q]? = some (.cells cs t (0,0)):=by
 rw[hgr.block q (z8 h) (fun e=> ?_)]
 ·exact h
 ·rcases hO.own.2 with ⟨rfl,_⟩ | ⟨g,cap,cur,rfl,_,hg,_⟩
  ·simp[Value.ownBlock] at e
  ·simp[Value.ownBlock] at e
   subst e;rw[hg] at h;simp at h;exact ht h.2.symm
def Qx(w:World)(T:List UInt8)(e:Ending)(w':World):Prop:=∃ v,e=.returned v∧OB w w' v T
theorem zjD(b:Nat)(hb:b<18446744073709551616):18446744073709551615 ^^^ b=18446744073709551615 - b:=by
 apply Nat.eq_of_testBit_eq;intro i;have h1:=Nat.testBit_two_pow_sub_succ (n:=64) (x:=b) (by omega) i;have h2:=Nat.testBit_two_pow_sub_succ (n:=64) (x:=0) (by omega) i;rw[show 2 ^ 64 - (b+1)=18446744073709551615 - b by omega] at h1;rw[show 2 ^ 64 - (0+1)=18446744073709551615 by omega] at h2;rw[Nat.testBit_xor,h1,h2];by_cases hi:i<64
 ·simp[hi]
 ·simp only[hi,decide_false,Bool.false_and,Bool.false_bne]
  exact Nat.testBit_lt_two_pow (Nat.lt_of_lt_of_le (show b<2 ^ 64 by omega) (Nat.pow_le_pow_right (by omega) (by omega)))
theorem zlO{n:Int}(h:n<0)(hn:b64 n):IntKind.u64.wrap n=n+18446744073709551616:=by
 rw[IntKind.wrap_u64];unfold b64 at hn;omega
theorem zN(n:Int)(hn:b64 n)(w:World):Calls Tryz.prog 40 #[int i64 n] w (Qx w (zK n)):=by
 have hlt:=zcG hn;have hlen:=qq hn;have HL:Box ((zK n).length≤10):=hid hlen;have hb:=hn;obtain ⟨hl,hr⟩:=hb;have HS:Box (OB w w (.slice none 0 0) []):=hid (OB.nil (zc.refl _ _));by_cases h0:n<0
 ·have e:=Zz h0
  have e1:=zlO h0 hn;have e2:IntKind.u64.wrap ((n+18446744073709551616) * 2)=2 * n+18446744073709551616:=by rw[IntKind.wrap_u64];omega
  have e3:bits BinOp.xor IntKind.u64 IntKind.u64.max (2 * n+18446744073709551616)= -2 * n - 1:=by
   have h1:IntKind.u64.max=((18446744073709551615:Nat):Int):=by decide
   have h2:2 * n+18446744073709551616=(((2 * n+18446744073709551616).toNat:Nat):Int):=by omega
   rw[h1,h2,u64_xor_nat _ _ (by omega) (by omega),zjD _ (by omega)];omega
  have HE:=hid e;clear hlen e;go_enter Tryz.func40,Tryz.ntmps40;go_wp2_with fail;clear e1 e2 e3
  go_loopw [3,4] (fun uv bv wr=>∃ u:Nat,u<18446744073709551616∧uv=.int .u64 (u:Int)∧Box (∃ B1,OB w wr bv B1∧B1 ++ ZR u=zK n)) (fun uv _ _=>(intOf uv).toNat)
  case atStart=>exact ⟨Jg n,hlt,by rw[HE.o],hid ⟨[],HS.o,rfl⟩⟩
  case round=>
   obtain ⟨u,hu,rfl,HB⟩:=hrel;obtain ⟨B1,hO,hE⟩:=HB.o;obtain ⟨a,cp,hva,_⟩:=hO.open;have hlenE:=congrArg List.length hE;rw[List.length_append] at hlenE;have hN1:=HL.o;have HE2:=hid hE;have HO:=hid hO;clear hE HB hO HS HE;by_cases hg:128≤u
   ·have hg':(128:Int)≤(u:Int):=by omega
    have e7:=ZM (show ¬ u<128 by omega);have hsz:=JK (u / 128);have HE3:Box ((B1 ++ [UInt8.ofNat (u % 128+128)]) ++ ZR (u / 128)=zK n):=hid (by rw[← HE2.o,e7,List.append_assoc];rfl);rw[e7,List.length_cons] at hlenE;have hbl:Box (B1.length+1≤20010):=hid (by omega);have hch:(UInt8.ofNat (u % 128+128)).toNat=u % 128+128:=qO (by omega);have HCH:Box ((u:Int) % 128+128=((UInt8.ofNat (u % 128+128)).toNat:Int)):=hid (by rw[hch];omega);generalize UInt8.ofNat (u % 128+128)=ch at *;have HDV:Box (((u / 128:Nat):Int)=(u:Int) / 128):=hid (by omega);have hlt8:Box (u / 128<u):=hid (by omega);clear hlenE hN1 e7 hsz hch;subst hva;go_wp2_with (at_builtin;go_must (refine Zo rfl _ _ rfl rfl (HO.o.quiet (zc.alloc [] wr _)) rfl rfl (T:=[ch]) (by simp) (zaD (zf wr _) HCH.o) (by have:=hbl.o;simp;omega) ?_;intro g cap N3 w3 hN3 hob hgr;have hob':=hid hob;clear hob hgr));go_roundw
    case rel=>exact ⟨u / 128,by have:=hlt8.o;omega,by rw[HDV.o],hid ⟨_,hob'.o,HE3.o⟩⟩
    case measure=>have:=hlt8.o;simp[intOf];omega
   ·have hg':¬ (128:Int)≤(u:Int):=by omega
    have e7:=jY (show u<128 by omega);have HE3:Box (B1 ++ [UInt8.ofNat u]=zK n):=hid (by rw[← HE2.o,e7]);rw[e7] at hlenE;have hbl:Box (B1.length+1≤20010):=hid (by simp at hlenE;omega);have hch:(UInt8.ofNat u).toNat=u:=qO (by omega);have HCH:Box ((u:Int)=((UInt8.ofNat u).toNat:Int)):=hid (by rw[hch]);have hu8:u<256:=by omega
    have hu9:(u:Int)<256:=by omega
    generalize UInt8.ofNat u=ch at *;clear hlenE hN1 e7 hch;subst hva;go_wp2_with (at_builtin;go_must (refine Zo rfl _ _ rfl rfl (HO.o.quiet (zc.alloc [] wr _)) rfl rfl (T:=[ch]) (by simp) (zaD (zf wr _) (by first | exact HCH.o | (rw[← HCH.o];go_num))) (by have:=hbl.o;simp;omega) ?_;intro g cap N3 w3 hN3 hob hgr;have hob':=hid hob;clear hob hgr));go_ret;exact ⟨_,rfl,by rw[← HE3.o];exact hob'.o⟩
 ·have e:=Zx h0
  have HE:=hid e;clear hlen e;go_enter Tryz.func40,Tryz.ntmps40;go_wp2_with fail
  go_loopw [3,4] (fun uv bv wr=>∃ u:Nat,u<18446744073709551616∧uv=.int .u64 (u:Int)∧Box (∃ B1,OB w wr bv B1∧B1 ++ ZR u=zK n)) (fun uv _ _=>(intOf uv).toNat)
  case atStart=>exact ⟨Jg n,hlt,by rw[HE.o];first | rfl | go_num,hid ⟨[],HS.o,rfl⟩⟩
  case round=>
   obtain ⟨u,hu,rfl,HB⟩:=hrel;obtain ⟨B1,hO,hE⟩:=HB.o;obtain ⟨a,cp,hva,_⟩:=hO.open;have hlenE:=congrArg List.length hE;rw[List.length_append] at hlenE;have hN1:=HL.o;have HE2:=hid hE;have HO:=hid hO;clear hE HB hO HS HE;by_cases hg:128≤u
   ·have hg':(128:Int)≤(u:Int):=by omega
    have e7:=ZM (show ¬ u<128 by omega);have hsz:=JK (u / 128);have HE3:Box ((B1 ++ [UInt8.ofNat (u % 128+128)]) ++ ZR (u / 128)=zK n):=hid (by rw[← HE2.o,e7,List.append_assoc];rfl);rw[e7,List.length_cons] at hlenE;have hbl:Box (B1.length+1≤20010):=hid (by omega);have hch:(UInt8.ofNat (u % 128+128)).toNat=u % 128+128:=qO (by omega);have HCH:Box ((u:Int) % 128+128=((UInt8.ofNat (u % 128+128)).toNat:Int)):=hid (by rw[hch];omega);generalize UInt8.ofNat (u % 128+128)=ch at *;have HDV:Box (((u / 128:Nat):Int)=(u:Int) / 128):=hid (by omega);have hlt8:Box (u / 128<u):=hid (by omega);clear hlenE hN1 e7 hsz hch;subst hva;go_wp2_with (at_builtin;go_must (refine Zo rfl _ _ rfl rfl (HO.o.quiet (zc.alloc [] wr _)) rfl rfl (T:=[ch]) (by simp) (zaD (zf wr _) HCH.o) (by have:=hbl.o;simp;omega) ?_;intro g cap N3 w3 hN3 hob hgr;have hob':=hid hob;clear hob hgr));go_roundw
    case rel=>exact ⟨u / 128,by have:=hlt8.o;omega,by rw[HDV.o],hid ⟨_,hob'.o,HE3.o⟩⟩
    case measure=>have:=hlt8.o;simp[intOf];omega
   ·have hg':¬ (128:Int)≤(u:Int):=by omega
    have e7:=jY (show u<128 by omega);have HE3:Box (B1 ++ [UInt8.ofNat u]=zK n):=hid (by rw[← HE2.o,e7]);rw[e7] at hlenE;have hbl:Box (B1.length+1≤20010):=hid (by simp at hlenE;omega);have hch:(UInt8.ofNat u).toNat=u:=qO (by omega);have HCH:Box ((u:Int)=((UInt8.ofNat u).toNat:Int)):=hid (by rw[hch]);have hu8:u<256:=by omega
    have hu9:(u:Int)<256:=by omega
    generalize UInt8.ofNat u=ch at *;clear hlenE hN1 e7 hch;subst hva;go_wp2_with (at_builtin;go_must (refine Zo rfl _ _ rfl rfl (HO.o.quiet (zc.alloc [] wr _)) rfl rfl (T:=[ch]) (by simp) (zaD (zf wr _) (by first | exact HCH.o | (rw[← HCH.o];go_num))) (by have:=hbl.o;simp;omega) ?_;intro g cap N3 w3 hN3 hob hgr;have hob':=hid hob;clear hob hgr));go_ret;exact ⟨_,rfl,by rw[← HE3.o];exact hob'.o⟩
theorem zaY{a:Option Addr}{cp:Nat}{l:List Int}(hr:zy w 1 qF a l)(hl:l.length≤maxLen)(hs:(qE l).length≤35184372088832):Calls Tryz.prog 42 #[.slice a l.length cp] w (Qx w (qE l)):=by
 have hb:b64 (l.length:Int):=by unfold b64;unfold maxLen at hl;omega
 have H1:=hid (zN _ hb w);have HP:=hid fun (w':World) (x:Int) (hx:b64 x)=>zN x hx w';have HR:=hid hr;have HZ:Box (∀ k,(zx zK l k).length≤35184372088832):=hid (fun k=>Nat.le_trans (jp zK l k) hs);obtain ⟨n,hn⟩:∃ n,n=l.length:=⟨_,rfl⟩;rw[← hn] at H1 hl ⊢;have HL:=hid hn;have hn1:(n:Int)≤9223372036854775807:=by unfold maxLen at hl;omega
 clear hr hb hl hn hs;go_enter Tryz.func42,Tryz.ntmps42;go_wp2_with fail;refine H1.o.mono ?_;rintro e w1 ⟨v1,rfl,O1⟩;have HO0:Box (OB w w1 v1 (zx zK l 0)):=hid (by rw[qk, ← HL.o];exact O1);clear H1 O1;go_wp2_with fail
 go_loopw [3,4] (fun bv iv wr=>∃ k:Nat,k≤n∧iv=int i64 (k:Int)∧Box (OB w wr bv (zx zK l k))) (fun _ iv _=>n - (intOf iv).toNat)
 case atStart=>exact ⟨0,by omega,rfl,HO0⟩
 case round=>
  obtain ⟨k,hk,rfl,HO⟩:=hrel;clear HO0;by_cases hlt:k<n
  ·have hlt':(k:Int)<(n:Int):=by omega
   obtain ⟨y,hy⟩:∃ y,l[k]? = some y:=⟨_,List.getElem?_eq_getElem (by rw[← HL.o];exact hlt)⟩;obtain ⟨b,off,rfl,hc⟩:=HR.o.at hy;rw[Nat.mul_one] at hc;have d0:=za HO.o.keeps hc.1;have HC:=hid (HP.o wr y hc.2);have HE:=hid (qf zK hy);have hz:=HZ.o (k+1);rw[HE.o,List.length_append] at hz;have HY:=hid hz;have HPY:=hid (zR y);clear hc hy hz;go_wp2_with fail;refine HC.o.mono ?_;rintro e w2 ⟨v2,rfl,O2⟩;obtain ⟨g2,c2,rfl,n2⟩:=O2.row HPY.o;have HN2:=hid n2;have HO2:=hid (HO.o.quiet O2.keeps);obtain ⟨m,hm⟩:∃ m,m=(zK y).length:=⟨_,rfl⟩;have HM:=hid hm;rw[← hm];clear O2 n2 HC hm d0;go_wp2_with (at_builtin;go_must (refine Zo rfl _ _ rfl rfl HO2.o rfl HM.o HPY.o HN2.o (by have:=HY.o;omega) ?_;intro g cap N3 w3 hN3 hob hgr;have hob':=hid hob;clear hob hgr));go_roundw
   case rel=>exact ⟨k+1,by omega,by go_num,hid (by rw[HE.o];exact hob'.o)⟩
   case measure=>simp[intOf];omega
  ·obtain rfl:k=n:=by omega
   go_wp2_with fail;go_ret;exact ⟨_,rfl,by rw[show qE l=zx zK l k by rw[HL.o];exact (jF zK l).symm];exact HO.o⟩
theorem qP{ops:Array Oper}{o:Oper}{K:Act→World→Prop}{Q:Exit→Act→World→Prop}{E:Prop}(hgd:o.guard=none)(s x:Operand)(ho:o.op=.call { callee:=.builtin .append,args:=#[s,x],argTypes:=#[63,63] })
  {w0 w:World}{v:Value}{B:List UInt8}(hs:a.eval s=v) (hB:OB w0 w v B) {b off m c:Nat}{T:List UInt8}(hx:a.eval x=.slice (some ⟨b,off,none⟩) m c) (hm:m=T.length) (hT:0<T.length) (hnews:∀ i,i<T.length→w.cell? ⟨b,off+i,none⟩=some (.int .u8 ((T.getD i 0).toNat:Int)))
  (hlen:B.length+T.length≤140737488355328)
  (h:∀ g cap N w',Box (N=(B ++ T).length)→OB w0 w' (.slice (some ⟨g,0,none⟩) N cap) (B ++ T)→w.grownBy w' v.ownBlock→K (a.put o.dst (.slice (some ⟨g,0,none⟩) N cap)) w'):
  if Region.wanted o (yielded ops a.tmps)=true then Oper.wp Tryz.prog o a w K Q else E:=by
 subst hm;refine step_append_lies w hgd s x 63 ho w0.heap.size 5 Tryz.t5 (.int .u8 0) 1 1 zaR zi2 zhP ziv zfe rfl (by decide) v B.length (Lib.byteCells B) hs hB.own ⟨b,off,none⟩ T.length c (Lib.byteCells T) hx (by rw[Lib.byteCells_length];omega) (zbV hnews) (zdW T) hT (by unfold maxLen;omega) (by omega) hB.keeps.size w.heap.size rfl ?_;intro g cap w' h1 h2 _ _;exact h g cap (B.length+T.length) w' (hid List.length_append.symm) ⟨by rw[List.length_append,Lib.byteCells_append];exact h1,(zc.refl [] w0).quiet (hB.keeps.appended hB.own h2 (Nat.le_refl _))⟩ h2
structure NB (w:World) (g:Nat) (T:List UInt8):Prop where
 at_:∀ i,i<T.length→w.cell? ⟨g,0+i,none⟩=some (.int .u8 ((T.getD i 0).toNat:Int))
theorem zak{a:Option Addr}{cp:Nat}{l:List (Int × Int)}(hr:zy w 2 TyC a l)(hl:l.length≤maxLen)(hs:(ZE l).length≤35184372088832):Calls Tryz.prog 41 #[.slice a l.length cp] w (Qx w (ZE l)):=by
 have hb:b64 (l.length:Int):=by unfold b64;unfold maxLen at hl;omega
 have H1:=hid (zN _ hb w);have HR:=hid hr;have HZ:Box (∀ k,(zx zb2 l k).length≤35184372088832):=hid (fun k=>Nat.le_trans (jp zb2 l k) hs);obtain ⟨n,hn⟩:∃ n,n=l.length:=⟨_,rfl⟩;rw[← hn] at H1 hl ⊢;have HL:=hid hn;have hn1:(n:Int)≤9223372036854775807:=by unfold maxLen at hl;omega
 clear hr hb hl hn hs;go_enter Tryz.func41,Tryz.ntmps41;go_wp2_with fail;refine H1.o.mono ?_;rintro e w1 ⟨v1,rfl,O1⟩;have HO0:Box (OB w w1 v1 (zx zb2 l 0)):=hid (by rw[qk, ← HL.o];exact O1);clear H1 O1;go_wp2_with fail
 go_loopw [3,4] (fun bv iv wr=>∃ k:Nat,k≤n∧iv=int i64 (k:Int)∧Box (OB w wr bv (zx zb2 l k))) (fun _ iv _=>n - (intOf iv).toNat)
 case atStart=>exact ⟨0,by omega,rfl,HO0⟩
 case round=>
  obtain ⟨k,hk,rfl,HO⟩:=hrel;clear HO0;by_cases hlt:k<n
  ·have hlt':(k:Int)<(n:Int):=by omega
   have hk0:(0:Int)≤(k:Int):=by omega
   obtain ⟨y,hy⟩:∃ y,l[k]? = some y:=⟨_,List.getElem?_eq_getElem (by rw[← HL.o];exact hlt)⟩;obtain ⟨b,off,rfl,hc⟩:=HR.o.at hy;have HD:Box (∀ w',zc [] w w'→w'.cell? ⟨b,off+k * 2,none⟩=some (int i64 y.1)∧w'.cell? ⟨b,off+k * 2+1,none⟩=some (int i64 y.2)):=hid (fun w' kk=>⟨za kk hc.c0.1,za kk hc.c1.1⟩);obtain ⟨d0,d1⟩:=HD.o _ HO.o.keeps;have HC1:=hid fun (w':World)=>zN y.1 hc.c0.2 w';have HC2:=hid fun (w':World)=>zN y.2 hc.c1.2 w';have HE:Box (zx zb2 l (k+1)=zx zb2 l k ++ zK y.1 ++ zK y.2):=hid (by rw[qf zb2 hy,List.append_assoc];rfl);have hz:=HZ.o (k+1);rw[HE.o,List.length_append,List.length_append] at hz;have HY:=hid hz;have HP1:=hid (zR y.1);have HP2:=hid (zR y.2);obtain ⟨m1,hm1⟩:∃ m,m=(zK y.1).length:=⟨_,rfl⟩;obtain ⟨m2,hm2⟩:∃ m,m=(zK y.2).length:=⟨_,rfl⟩;have HM1:=hid hm1;have HM2:=hid hm2;obtain ⟨y1,hy1⟩:∃ z,z=y.1:=⟨_,rfl⟩;obtain ⟨y2,hy2⟩:∃ z,z=y.2:=⟨_,rfl⟩;rw[← hy1] at d0 HD HC1 HE HY HP1 HM1;rw[← hy2] at d1 HD HC2 HE HY HP2 HM2;clear hc hy hz hm1 hm2 hy1 hy2;have HOD:=hid (HO.o.quiet (zc.drew [] wr));obtain ⟨av,cv,hu3,_⟩:=HO.o.open;have HFIN:Box (∀ (v:Value) (w':World),OB w w' v (zx zb2 l k ++ zK y1 ++ zK y2)→OB w w' v (zx zb2 l (k+1))):=hid (fun v w' h=>by rw[HE.o];exact h);clear HE HO;generalize zx zb2 l k=B0 at *;obtain ⟨n0,hn0⟩:∃ m,m=B0.length:=⟨_,rfl⟩;rw[← hn0] at hu3;subst hu3;clear hn0;go_upto_region 5 with fail
   go_region_held3 (fun w'=>w'.cell? ⟨b,off+k * 2,none⟩=some (int i64 y1)∧w'.cell? ⟨b,off+k * 2+1,none⟩=some (int i64 y2)) (go_keep) (first
    | (go_at_call 40;revert oF;intro oF;refine (HC2.o _).mono ?_;rintro e w7 ⟨v7,rfl,O7⟩;obtain ⟨g7,c7,rfl,n7⟩:=O7.row HP2.o;have nF:=NB.mk n7;have oF:=oF.quiet O7.keeps;obtain ⟨d0,d1⟩:=HD.o _ oF.keeps;rw[← HM2.o])
    | (go_at_call 40;revert oA;intro oA;refine (HC2.o _).mono ?_;rintro e w7 ⟨v7,rfl,O7⟩;obtain ⟨g7,c7,rfl,n7⟩:=O7.row HP2.o;have nB:=NB.mk n7;have hne:=oA.apart O7;have nA:=nA.quiet O7.keeps;have oA:=oA.quiet O7.keeps;obtain ⟨d0,d1⟩:=HD.o _ oA.keeps;rw[← HM2.o])
    | (go_at_call 40;refine (HC1.o _).mono ?_;rintro e w6 ⟨v6,rfl,O6⟩;obtain ⟨g6,c6,rfl,n6⟩:=O6.row HP1.o;have nA:=NB.mk n6;have oA:=HOD.o.quiet O6.keeps;obtain ⟨d0,d1⟩:=HD.o _ oA.keeps;rw[← HM1.o])
    | (refine qP (by rfl) _ _ (by rfl) (by rfl) oF (by rfl) HM2.o HP2.o nF.at_ (by have:=HY.o;rw[List.length_append];omega) ?_;intro g9 c9 N9 w9 hN9 oZ hgr9;obtain ⟨d0,d1⟩:=HD.o _ oZ.keeps)
    | (refine qP (by rfl) _ _ (by rfl) (by rfl) oA (by rfl) HM1.o HP1.o nA.at_ (by have:=HY.o;omega) ?_;intro g8 c8 N8 w8 hN8 oF hgr8;have nF:=nB.grown hgr8 hne;obtain ⟨d0,d1⟩:=HD.o _ oF.keeps)
    | (refine qP (by rfl) _ _ (by rfl) (by rfl) oA (by rfl) HM1.o HP1.o nA.at_ (by have:=HY.o;omega) ?_;intro g8 c8 N8 w8 hN8 oF hgr8;obtain ⟨d0,d1⟩:=HD.o _ oF.keeps))
   all_goals have HZZ:=hid oZ
   all_goals clear oZ
   all_goals go_wp2_with fail
   all_goals exact ⟨⟨k+1,by omega,by go_num,hid (HFIN.o _ _ HZZ.o)⟩,by simp[intOf];omega⟩
  ·obtain rfl:k=n:=by omega
   go_wp2_with fail;go_ret;exact ⟨_,rfl,by rw[show ZE l=zx zb2 l k by rw[HL.o];exact (jF zb2 l).symm];exact HO.o⟩
def jh(R B:Nat)(fin reg tt els:Int):Bool:=
 if fin=1 then decide (reg=0) && (inB tt B && decide (els=0)) else if fin=2 then inB reg R && (inB tt B && inB els B) else if fin=3 then inB reg R && (decide (tt=0) && decide (els=0)) else false
theorem zpq(R B:Nat)(reg tt els:Int)(fb fo bb bo:Nat)(ba:Option Addr)(bp:Nat)(w:World)(h2:w.cell? ⟨fb,fo+2,none⟩=some (.slice ba B bp))(e1:w.cell? ⟨bb,bo+1,none⟩=some (int i64 1))(e2:w.cell? ⟨bb,bo+2,none⟩=some (int i64 reg))(e3:w.cell? ⟨bb,bo+3,none⟩=some (int i64 tt))(e4:w.cell? ⟨bb,bo+4,none⟩=some (int i64 els)):
  Calls Tryz.prog 100 #[pointer (some ⟨fb,fo,none⟩),pointer (some ⟨bb,bo,none⟩)] w fun e w'=>e=.returned (.bool (jh R B 1 reg tt els))∧zc [] w w':=by
 by_cases hreg:reg=0
 case neg=>
  have greg:=neb hreg;have HE:Box (jh R B 1 reg tt els=false):=hid (by simp[jh,hreg]);clear hreg;generalize jh R B 1 reg tt els=res at *;go_enter Tryz.func100,Tryz.ntmps100;go_upto_region 3 with fail;go_quiet (fail);go_wp2_with fail;go_ret;exact ⟨by rw[HE.o];rfl,zc.drewN _ _ _⟩
 have greg:=eqb hreg;by_cases htt:inB tt B=true
 case neg=>
  have htt:inB tt B=false:=by simpa using htt
  have Wtt:=hid fun (w:World)=>zC tt B w;rw[htt] at Wtt;have HE:Box (jh R B 1 reg tt els=false):=hid (by simp[jh,hreg,htt]);clear hreg htt;generalize jh R B 1 reg tt els=res at *;go_enter Tryz.func100,Tryz.ntmps100;go_upto_region 3 with fail;go_quiet ((go_at_call 50;first | with_reducible exact Calls.quiet_of_same (Wtt.o _)));go_wp2_with fail;go_ret;exact ⟨by rw[HE.o];rfl,zc.drewN _ _ _⟩
 have Wtt:=hid fun (w:World)=>zC tt B w;rw[htt] at Wtt;by_cases hels:els=0
 case neg=>
  have gels:=neb hels;have HE:Box (jh R B 1 reg tt els=false):=hid (by simp[jh,hreg,htt,hels]);clear hreg htt hels;generalize jh R B 1 reg tt els=res at *;go_enter Tryz.func100,Tryz.ntmps100;go_upto_region 3 with fail;go_quiet ((go_at_call 50;first | with_reducible exact Calls.quiet_of_same (Wtt.o _)));go_wp2_with fail;go_ret;exact ⟨by rw[HE.o];rfl,zc.drewN _ _ _⟩
 have gels:=eqb hels;have HE:Box (jh R B 1 reg tt els=true):=hid (by simp[jh,hreg,htt,hels]);clear hreg htt hels;generalize jh R B 1 reg tt els=res at *;go_enter Tryz.func100,Tryz.ntmps100;go_upto_region 3 with fail;go_quiet ((go_at_call 50;first | with_reducible exact Calls.quiet_of_same (Wtt.o _)));go_wp2_with fail;go_ret;exact ⟨by rw[HE.o];rfl,zc.drewN _ _ _⟩
theorem zpB(R B:Nat)(reg tt els:Int)(fb fo bb bo:Nat)(ra ba:Option Addr)(rp bp:Nat)(w:World)(h1:w.cell? ⟨fb,fo+1,none⟩=some (.slice ra R rp))(h2:w.cell? ⟨fb,fo+2,none⟩=some (.slice ba B bp))(e1:w.cell? ⟨bb,bo+1,none⟩=some (int i64 2))(e2:w.cell? ⟨bb,bo+2,none⟩=some (int i64 reg))(e3:w.cell? ⟨bb,bo+3,none⟩=some (int i64 tt))(e4:w.cell? ⟨bb,bo+4,none⟩=some (int i64 els)):
  Calls Tryz.prog 100 #[pointer (some ⟨fb,fo,none⟩),pointer (some ⟨bb,bo,none⟩)] w fun e w'=>e=.returned (.bool (jh R B 2 reg tt els))∧zc [] w w':=by
 by_cases hreg:inB reg R=true
 case neg=>
  have hreg:inB reg R=false:=by simpa using hreg
  have Wreg:=hid fun (w:World)=>zC reg R w;rw[hreg] at Wreg;have HE:Box (jh R B 2 reg tt els=false):=hid (by simp[jh,hreg]);clear hreg;generalize jh R B 2 reg tt els=res at *;go_enter Tryz.func100,Tryz.ntmps100;go_upto_region 5 with fail;go_quiet ((go_at_call 50;first | with_reducible exact Calls.quiet_of_same (Wreg.o _)));go_wp2_with fail;go_ret;exact ⟨by rw[HE.o];rfl,zc.drewN _ _ _⟩
 have Wreg:=hid fun (w:World)=>zC reg R w;rw[hreg] at Wreg;by_cases htt:inB tt B=true
 case neg=>
  have htt:inB tt B=false:=by simpa using htt
  have Wtt:=hid fun (w:World)=>zC tt B w;rw[htt] at Wtt;have HE:Box (jh R B 2 reg tt els=false):=hid (by simp[jh,hreg,htt]);clear hreg htt;generalize jh R B 2 reg tt els=res at *;go_enter Tryz.func100,Tryz.ntmps100;go_upto_region 5 with fail;go_quiet ((go_at_call 50;first | with_reducible exact Calls.quiet_of_same (Wreg.o _) | with_reducible exact Calls.quiet_of_same (Wtt.o _)));go_wp2_with fail;go_ret;exact ⟨by rw[HE.o];rfl,zc.drewN _ _ _⟩
 have Wtt:=hid fun (w:World)=>zC tt B w;rw[htt] at Wtt;by_cases hels:inB els B=true
 case neg=>
  have hels:inB els B=false:=by simpa using hels
  have Wels:=hid fun (w:World)=>zC els B w;rw[hels] at Wels;have HE:Box (jh R B 2 reg tt els=false):=hid (by simp[jh,hreg,htt,hels]);clear hreg htt hels;generalize jh R B 2 reg tt els=res at *;go_enter Tryz.func100,Tryz.ntmps100;go_upto_region 5 with fail;go_quiet ((go_at_call 50;first | with_reducible exact Calls.quiet_of_same (Wreg.o _) | with_reducible exact Calls.quiet_of_same (Wtt.o _) | with_reducible exact Calls.quiet_of_same (Wels.o _)));go_wp2_with fail;go_ret;exact ⟨by rw[HE.o];rfl,zc.drewN _ _ _⟩
 have Wels:=hid fun (w:World)=>zC els B w;rw[hels] at Wels;have HE:Box (jh R B 2 reg tt els=true):=hid (by simp[jh,hreg,htt,hels]);clear hreg htt hels;generalize jh R B 2 reg tt els=res at *;go_enter Tryz.func100,Tryz.ntmps100;go_upto_region 5 with fail;go_quiet ((go_at_call 50;first | with_reducible exact Calls.quiet_of_same (Wreg.o _) | with_reducible exact Calls.quiet_of_same (Wtt.o _) | with_reducible exact Calls.quiet_of_same (Wels.o _)));go_wp2_with fail;go_ret;exact ⟨by rw[HE.o];rfl,zc.drewN _ _ _⟩
theorem zpA(R B:Nat)(reg tt els:Int)(fb fo bb bo:Nat)(ra:Option Addr)(rp:Nat)(w:World)(h1:w.cell? ⟨fb,fo+1,none⟩=some (.slice ra R rp))(e1:w.cell? ⟨bb,bo+1,none⟩=some (int i64 3))(e2:w.cell? ⟨bb,bo+2,none⟩=some (int i64 reg))(e3:w.cell? ⟨bb,bo+3,none⟩=some (int i64 tt))(e4:w.cell? ⟨bb,bo+4,none⟩=some (int i64 els)):
  Calls Tryz.prog 100 #[pointer (some ⟨fb,fo,none⟩),pointer (some ⟨bb,bo,none⟩)] w fun e w'=>e=.returned (.bool (jh R B 3 reg tt els))∧zc [] w w':=by
 by_cases hreg:inB reg R=true
 case neg=>
  have hreg:inB reg R=false:=by simpa using hreg
  have Wreg:=hid fun (w:World)=>zC reg R w;rw[hreg] at Wreg;have HE:Box (jh R B 3 reg tt els=false):=hid (by simp[jh,hreg]);clear hreg;generalize jh R B 3 reg tt els=res at *;go_enter Tryz.func100,Tryz.ntmps100;go_upto_region 7 with fail;go_quiet ((go_at_call 50;first | with_reducible exact Calls.quiet_of_same (Wreg.o _)));go_wp2_with fail;go_ret;exact ⟨by rw[HE.o];rfl,zc.drewN _ _ _⟩
 have Wreg:=hid fun (w:World)=>zC reg R w;rw[hreg] at Wreg;by_cases htt:tt=0
 case neg=>
  have gtt:=neb htt;have HE:Box (jh R B 3 reg tt els=false):=hid (by simp[jh,hreg,htt]);clear hreg htt;generalize jh R B 3 reg tt els=res at *;go_enter Tryz.func100,Tryz.ntmps100;go_upto_region 7 with fail;go_quiet ((go_at_call 50;first | with_reducible exact Calls.quiet_of_same (Wreg.o _)));go_wp2_with fail;go_ret;exact ⟨by rw[HE.o];rfl,zc.drewN _ _ _⟩
 have gtt:=eqb htt;by_cases hels:els=0
 case neg=>
  have gels:=neb hels;have HE:Box (jh R B 3 reg tt els=false):=hid (by simp[jh,hreg,htt,hels]);clear hreg htt hels;generalize jh R B 3 reg tt els=res at *;go_enter Tryz.func100,Tryz.ntmps100;go_upto_region 7 with fail;go_quiet ((go_at_call 50;first | with_reducible exact Calls.quiet_of_same (Wreg.o _)));go_wp2_with fail;go_ret;exact ⟨by rw[HE.o];rfl,zc.drewN _ _ _⟩
 have gels:=eqb hels;have HE:Box (jh R B 3 reg tt els=true):=hid (by simp[jh,hreg,htt,hels]);clear hreg htt hels;generalize jh R B 3 reg tt els=res at *;go_enter Tryz.func100,Tryz.ntmps100;go_upto_region 7 with fail;go_quiet ((go_at_call 50;first | with_reducible exact Calls.quiet_of_same (Wreg.o _)));go_wp2_with fail;go_ret;exact ⟨by rw[HE.o];rfl,zc.drewN _ _ _⟩
theorem zoa(R B:Nat)(fin reg tt els:Int)(fb fo bb bo:Nat)(w:World)(hf:¬ (1≤fin∧fin≤3))(e1:w.cell? ⟨bb,bo+1,none⟩=some (int i64 fin)):
  Calls Tryz.prog 100 #[pointer (some ⟨fb,fo,none⟩),pointer (some ⟨bb,bo,none⟩)] w fun e w'=>e=.returned (.bool (jh R B fin reg tt els))∧zc [] w w':=by
 have HE:Box (jh R B fin reg tt els=false):=hid (by unfold jh;rw[if_neg (by omega),if_neg (by omega),if_neg (by omega)]);have o1:=neb (show fin≠1 by omega);have o2:=neb (show fin≠2 by omega);have o3:=neb (show fin≠3 by omega);clear hf;generalize jh R B fin reg tt els=res at *;go_enter Tryz.func100,Tryz.ntmps100;go_wp2_with fail;go_ret;exact ⟨by rw[HE.o];rfl,zc.refl _ _⟩
theorem zma{fb fo bb bo:Nat}{x:Fu8}{y:Bl8}(h:FuC w fb fo x)(hb:BlC w bb bo y):Calls Tryz.prog 100 #[pointer (some ⟨fb,fo,none⟩),pointer (some ⟨bb,bo,none⟩)] w fun e w'=>e=.returned (.bool (jh x.regs.length x.blocks.length y.fin y.reg y.to y.els))∧zc [] w w':=by
 obtain ⟨ra,rp,h1,_⟩:=h.c1;obtain ⟨ba,bp,h2,_⟩:=h.c2;have e1:=hb.c1.1;have e2:=hb.c2.1;have e3:=hb.c3.1;have e4:=hb.c4.1;by_cases hf:1≤y.fin∧y.fin≤3
 ·rcases (show y.fin=1∨y.fin=2∨y.fin=3 by omega) with e | e | e
  all_goals rw[e] at e1 ⊢
  ·exact zpq _ _ _ _ _ fb fo bb bo ba bp w h2 e1 e2 e3 e4
  ·exact zpB _ _ _ _ _ fb fo bb bo ra ba rp bp w h1 h2 e1 e2 e3 e4
  ·exact zpA _ _ _ _ _ fb fo bb bo ra rp w h1 e1 e2 e3 e4
 ·exact zoa _ _ _ _ _ _ fb fo bb bo w hf e1
theorem zgs{x:Bl8}(hx:BlV w v x)(hs:(blE x).length≤35184372088832):Calls Tryz.prog 43 #[v] w (Qx w (blE x)):=by
 obtain ⟨a,cp,rfl,h1,h2,h3,h4,h5⟩:=hx;obtain ⟨_,hr,_,hl⟩:=h1.slice;have hb:b64 (x.code.length:Int):=by unfold b64;unfold maxLen at hl;omega
 obtain ⟨wq,HWQ⟩:∃ wq,Box (wq=w.alloc (.cells #[.slice a x.code.length cp,int i64 x.fin,int i64 x.reg,int i64 x.to,int i64 x.els] 42)):=⟨_,hid rfl⟩;have hkq:zc [] w wq:=by rw[HWQ.o];exact zc.alloc [] w _
 have hq:wq.heap[w.heap.size]? = some (.cells #[.slice a x.code.length cp,int i64 x.fin,int i64 x.reg,int i64 x.to,int i64 x.els] 42 (0,0)):=by rw[HWQ.o];exact zf _ _
 have HKQ:=hid hkq;have H1:=hid (zN _ hb wq);have HR:=hid (hr.quiet InC.stays hkq);have hE:blE x=zjn x.code ++ zK x.fin ++ zK x.reg ++ zK x.to ++ zK x.els:=by simp only[blE,qw,List.append_assoc]
 have HE9:Box (∀ (v:Value) (w':World),OB wq w' v (zjn x.code ++ zK x.fin ++ zK x.reg ++ zK x.to ++ zK x.els)→OB w w' v (blE x)):=hid (fun v w' h=>by rw[hE];exact h.base hkq);rw[hE,List.length_append,List.length_append,List.length_append,List.length_append] at hs;have HS9:=hid hs;have HZ:Box (∀ k,(zx inE x.code k).length≤(zjn x.code).length):=hid (jp inE x.code);have HW5:=hid HWQ.o.symm;have HB2:=hid h2;have HB3:=hid h3;have HB4:=hid h4;have HB5:=hid h5;obtain ⟨n,hn⟩:∃ n,n=x.code.length:=⟨_,rfl⟩;have HL:=hid hn;rw[← hn] at H1 hl hq HW5 ⊢;have hn1:(n:Int)≤9223372036854775807:=by unfold maxLen at hl;omega
 have c0:=zd hq 0;have HQ:=hid hq;clear hr hb hl hn hs hE h1 h2 h3 h4 h5 hkq hq HWQ;go_enter Tryz.func43,Tryz.ntmps43;go_wp2_with fail;rw[HW5.o];generalize w.heap.size=q at *;clear HW5;refine H1.o.mono ?_;rintro e w1 ⟨v1,rfl,O1⟩;have HO0:Box (OB wq w1 v1 (zx inE x.code 0)):=hid (by rw[qk, ← HL.o];exact O1);clear H1 O1 c0;go_wp2_with fail
 go_loopw [3,4] (fun bv iv wr=>∃ k:Nat,k≤n∧iv=int i64 (k:Int)∧Box (OB wq wr bv (zx inE x.code k))) (fun _ iv _=>n - (intOf iv).toNat)
 case atStart=>exact ⟨0,by omega,rfl,HO0⟩
 case round=>
  obtain ⟨k,hk,rfl,HO⟩:=hrel;clear HO0;have c0:=zd (ze HQ.o HO.o.keeps) 0;by_cases hlt:k<n
  ·have hlt':(k:Int)<(n:Int):=by omega
   obtain ⟨y,hy⟩:∃ y,x.code[k]? = some y:=⟨_,List.getElem?_eq_getElem (by rw[← HL.o];exact hlt)⟩;obtain ⟨cb,co,rfl,hc⟩:=HR.o.at hy;have d:=InC.stays _ _ _ _ _ HO.o.keeps hc;obtain ⟨ar,acp,d5,q5⟩:=SlC.val hc.c5;replace d5:=za HO.o.keeps d5;obtain ⟨_,qr,_,ql⟩:=q5.slice;have d0:=d.c0.1;have d1:=d.c1.1;have d2:=d.c2.1;have d3:=d.c3.1;have d4:=d.c4.1
   have HE:Box (∀ (v:Value) (w':World),OB wq w' v (zx inE x.code k ++ zK y.op ++ zK y.dst ++ zK y.a ++ zK y.b ++ zK y.n ++ qE y.args)→OB wq w' v (zx inE x.code (k+1))):=hid (fun v w' h=>by
    rw[qf inE hy];have e:zx inE x.code k ++ inE y=zx inE x.code k ++ zK y.op ++ zK y.dst ++ zK y.a ++ zK y.b ++ zK y.n ++ qE y.args:=by simp only[inE,qw,List.append_assoc]
    rw[e]
    exact h)
   have hz:=HZ.o (k+1);rw[qf inE hy,show zx inE x.code k ++ inE y=zx inE x.code k ++ zK y.op ++ zK y.dst ++ zK y.a ++ zK y.b ++ zK y.n ++ qE y.args by simp only[inE,qw,List.append_assoc],List.length_append,List.length_append,List.length_append,List.length_append,List.length_append,List.length_append] at hz;have hs:=HS9.o;have HC1:=hid fun (w':World)=>zN y.op d.c0.2 w';have HP1:=hid (zR y.op);have HC2:=hid fun (w':World)=>zN y.dst d.c1.2 w';have HP2:=hid (zR y.dst);have HC3:=hid fun (w':World)=>zN y.a d.c2.2 w';have HP3:=hid (zR y.a);have HC4:=hid fun (w':World)=>zN y.b d.c3.2 w';have HP4:=hid (zR y.b);have HC5:=hid fun (w':World)=>zN y.n d.c4.2 w';have HP5:=hid (zR y.n);have HC6:Box (∀ (w':World),zc [] wq w'→Calls Tryz.prog 42 #[.slice ar y.args.length acp] w' (Qx w' (qE y.args))):=hid (fun w' kk=>zaY (qr.quiet qF.stays kk) ql (by omega));have HP6:=hid (Cd.ints.pos y.args);have HY:Box ((zx inE x.code k).length+(zK y.op).length+(zK y.dst).length+(zK y.a).length+(zK y.b).length+(zK y.n).length+(qE y.args).length≤35184372088832):=hid (by omega);obtain ⟨wb,HWB⟩:∃ wb,Box (wb=wr.alloc (.cells #[int i64 y.op,int i64 y.dst,int i64 y.a,int i64 y.b,int i64 y.n,.slice ar y.args.length acp] 39)):=⟨_,hid rfl⟩;have HU:=hid (show wb.heap[wr.heap.size]? = some (.cells #[int i64 y.op,int i64 y.dst,int i64 y.a,int i64 y.b,int i64 y.n,.slice ar y.args.length acp] 39 (0,0)) by rw[HWB.o];exact zf _ _);have HKB:Box (zc [] wr wb):=hid (by rw[HWB.o];exact zc.alloc [] wr _);have HB0:=hid (HO.o.quiet HKB.o);have HW6:=hid HWB.o.symm;generalize hT1:zK y.op=t1 at *;generalize hT2:zK y.dst=t2 at *;generalize hT3:zK y.a=t3 at *;generalize hT4:zK y.b=t4 at *;generalize hT5:zK y.n=t5 at *;generalize hT6:qE y.args=t6 at *;generalize zx inE x.code k=B0 at *;generalize y.args.length=na at *;generalize y.op=y1 at *;generalize y.dst=y2 at *;generalize y.a=y3 at *;generalize y.b=y4 at *;generalize y.n=y5 at *;clear hT1 hT2 hT3 hT4 hT5 hT6 hc hy hz d q5 qr ql hs HWB;go_upto_region 6 with fail;rw[HW6.o];generalize wr.heap.size=u at *;clear HW6 c0 d0 d1 d2 d3 d4 d5 HO;have b0:=zd HU.o 0;go_wp2_with fail;refine (HC1.o _).mono ?_;rintro e x1 ⟨xv1,rfl,xo1⟩;obtain ⟨xg1,xc1,rfl,xn1⟩:=xo1.row HP1.o;have XN1:=hid xn1;have XO1:=hid (HB0.o.quiet xo1.keeps);have XB1:=hid (ze HU.o xo1.keeps);obtain ⟨xm1,hxm1⟩:∃ m,m=(t1).length:=⟨_,rfl⟩;have XM1:=hid hxm1;rw[← hxm1];clear xo1 xn1 hxm1;go_wp2_with (at_builtin;go_must (refine Zo rfl _ _ rfl rfl XO1.o rfl XM1.o HP1.o XN1.o (by have:=HY.o;omega) ?_;intro g1 cap1 N1 z1 hN1 hob hgr;have ZO1:=hid hob;have ZB1:=hid (ZP XB1.o (by decide) XO1.o hgr);have b1:=zd ZB1.o 1;clear hob hgr));refine (HC2.o _).mono ?_;rintro e x2 ⟨xv2,rfl,xo2⟩;obtain ⟨xg2,xc2,rfl,xn2⟩:=xo2.row HP2.o;have XN2:=hid xn2;have XO2:=hid (ZO1.o.quiet xo2.keeps);have XB2:=hid (ze ZB1.o xo2.keeps);obtain ⟨xm2,hxm2⟩:∃ m,m=(t2).length:=⟨_,rfl⟩;have XM2:=hid hxm2;rw[← hxm2];clear xo2 xn2 hxm2;go_wp2_with (at_builtin;go_must (refine Zo rfl _ _ rfl rfl XO2.o rfl XM2.o HP2.o XN2.o (by have:=HY.o;rw[List.length_append];omega) ?_;intro g2 cap2 N2 z2 hN2 hob hgr;have ZO2:=hid hob;have ZB2:=hid (ZP XB2.o (by decide) XO2.o hgr);have b2:=zd ZB2.o 2;clear hob hgr))
   refine (HC3.o _).mono ?_;rintro e x3 ⟨xv3,rfl,xo3⟩;obtain ⟨xg3,xc3,rfl,xn3⟩:=xo3.row HP3.o;have XN3:=hid xn3;have XO3:=hid (ZO2.o.quiet xo3.keeps);have XB3:=hid (ze ZB2.o xo3.keeps);obtain ⟨xm3,hxm3⟩:∃ m,m=(t3).length:=⟨_,rfl⟩;have XM3:=hid hxm3;rw[← hxm3];clear xo3 xn3 hxm3;go_wp2_with (at_builtin;go_must (refine Zo rfl _ _ rfl rfl XO3.o rfl XM3.o HP3.o XN3.o (by have:=HY.o;rw[List.length_append,List.length_append];omega) ?_;intro g3 cap3 N3 z3 hN3 hob hgr;have ZO3:=hid hob;have ZB3:=hid (ZP XB3.o (by decide) XO3.o hgr);have b3:=zd ZB3.o 3;clear hob hgr));refine (HC4.o _).mono ?_;rintro e x4 ⟨xv4,rfl,xo4⟩;obtain ⟨xg4,xc4,rfl,xn4⟩:=xo4.row HP4.o;have XN4:=hid xn4;have XO4:=hid (ZO3.o.quiet xo4.keeps);have XB4:=hid (ze ZB3.o xo4.keeps);obtain ⟨xm4,hxm4⟩:∃ m,m=(t4).length:=⟨_,rfl⟩;have XM4:=hid hxm4;rw[← hxm4];clear xo4 xn4 hxm4;go_wp2_with (at_builtin;go_must (refine Zo rfl _ _ rfl rfl XO4.o rfl XM4.o HP4.o XN4.o (by have:=HY.o;rw[List.length_append,List.length_append,List.length_append];omega) ?_;intro g4 cap4 N4 z4 hN4 hob hgr;have ZO4:=hid hob;have ZB4:=hid (ZP XB4.o (by decide) XO4.o hgr);have b4:=zd ZB4.o 4;clear hob hgr));refine (HC5.o _).mono ?_;rintro e x5 ⟨xv5,rfl,xo5⟩;obtain ⟨xg5,xc5,rfl,xn5⟩:=xo5.row HP5.o;have XN5:=hid xn5;have XO5:=hid (ZO4.o.quiet xo5.keeps);have XB5:=hid (ze ZB4.o xo5.keeps);obtain ⟨xm5,hxm5⟩:∃ m,m=(t5).length:=⟨_,rfl⟩;have XM5:=hid hxm5;rw[← hxm5];clear xo5 xn5 hxm5;go_wp2_with (at_builtin;go_must (refine Zo rfl _ _ rfl rfl XO5.o rfl XM5.o HP5.o XN5.o (by have:=HY.o;rw[List.length_append,List.length_append,List.length_append,List.length_append];omega) ?_;intro g5 cap5 N5 z5 hN5 hob hgr;have ZO5:=hid hob;have ZB5:=hid (ZP XB5.o (by decide) XO5.o hgr);have b5:=zd ZB5.o 5;clear hob hgr));refine (HC6.o _ ZO5.o.keeps).mono ?_;rintro e x6 ⟨xv6,rfl,xo6⟩;obtain ⟨xg6,xc6,rfl,xn6⟩:=xo6.row HP6.o;have XN6:=hid xn6;have XO6:=hid (ZO5.o.quiet xo6.keeps);have XB6:=hid (ze ZB5.o xo6.keeps);obtain ⟨xm6,hxm6⟩:∃ m,m=(t6).length:=⟨_,rfl⟩;have XM6:=hid hxm6;rw[← hxm6];clear xo6 xn6 hxm6;go_wp2_with (at_builtin;go_must (refine Zo rfl _ _ rfl rfl XO6.o rfl XM6.o HP6.o XN6.o (by have:=HY.o;rw[List.length_append,List.length_append,List.length_append,List.length_append,List.length_append];omega) ?_;intro g6 cap6 N6 z6 hN6 hob hgr;have ZO6:=hid hob;have ZB6:=hid (ZP XB6.o (by decide) XO6.o hgr);clear hob hgr));go_roundw
   case rel=>exact ⟨k+1,by omega,by go_num,hid (HE.o _ _ ZO6.o)⟩
   case measure=>simp[intOf];omega
  ·obtain rfl:k=n:=by omega
   have HO1:Box (OB wq wr u3 (zjn x.code)):=hid (by rw[show zjn x.code=zx inE x.code k by rw[HL.o];exact (jF inE x.code).symm];exact HO.o);have HDa:Box (∀ w',zc [] wq w'→w'.cell? ⟨q,1,none⟩=some (int i64 x.fin)∧w'.cell? ⟨q,2,none⟩=some (int i64 x.reg)):=hid (fun w' kk=>⟨zd (ze HQ.o kk) 1,zd (ze HQ.o kk) 2⟩);have HDb:Box (∀ w',zc [] wq w'→w'.cell? ⟨q,3,none⟩=some (int i64 x.to)∧w'.cell? ⟨q,4,none⟩=some (int i64 x.els)):=hid (fun w' kk=>⟨zd (ze HQ.o kk) 3,zd (ze HQ.o kk) 4⟩);have HC1a:=hid fun (w':World)=>zN x.fin HB2.o w';have HC2a:=hid fun (w':World)=>zN x.reg HB3.o w';have HC1b:=hid fun (w':World)=>zN x.to HB4.o w';have HC2b:=hid fun (w':World)=>zN x.els HB5.o w';have HP1a:=hid (zR x.fin);have HP2a:=hid (zR x.reg);have HP1b:=hid (zR x.to);have HP2b:=hid (zR x.els);have HOk:=HO1.o.keeps;obtain ⟨d0,d1⟩:=HDa.o _ HOk;obtain ⟨e0,e1⟩:=HDb.o _ HOk;have HODa:=hid (HO1.o.quiet (zc.drew [] wr));obtain ⟨av,cv,hu3,_⟩:=HO1.o.open;clear HO HO1 HQ HR HZ HB2 HB3 HB4 HB5 HOk;generalize zjn x.code=B0 at *;generalize hta:zK x.fin=ta at *;generalize htb:zK x.reg=tb at *;generalize htc:zK x.to=tc at *;generalize htd:zK x.els=td at *;generalize x.fin=y1a at *;generalize x.reg=y2a at *;generalize x.to=y1b at *;generalize x.els=y2b at *;obtain ⟨m1,HM1a⟩:∃ m,Box (m=ta.length):=⟨_,hid rfl⟩;obtain ⟨m2,HM2a⟩:∃ m,Box (m=tb.length):=⟨_,hid rfl⟩;obtain ⟨m3,HM1b⟩:∃ m,Box (m=tc.length):=⟨_,hid rfl⟩;obtain ⟨m4,HM2b⟩:∃ m,Box (m=td.length):=⟨_,hid rfl⟩;have HYa:Box (B0.length+ta.length+tb.length≤35184372088832):=hid (by have:=HS9.o;omega);have HYb:Box ((B0 ++ ta ++ tb).length+tc.length+td.length≤35184372088832):=hid (by have:=HS9.o;rw[List.length_append,List.length_append];omega);obtain ⟨n0,hn0⟩:∃ m,m=B0.length:=⟨_,rfl⟩;rw[← hn0] at hu3;subst hu3;clear hn0 hta htb htc htd HL;go_upto_region 12 with fail
   go_region_held3 (fun w'=>w'.cell? ⟨q,1,none⟩=some (int i64 y1a)∧w'.cell? ⟨q,2,none⟩=some (int i64 y2a)) (go_keep) (first
    | (go_at_call 40;revert oFa;intro oFa;refine (HC2a.o _).mono ?_;rintro e w7a ⟨v7,rfl,O7⟩;obtain ⟨g7,c7,rfl,n7⟩:=O7.row HP2a.o;have nFa:=NB.mk n7;have oFa:=oFa.quiet O7.keeps;obtain ⟨d0,d1⟩:=HDa.o _ oFa.keeps;rw[← HM2a.o])
    | (go_at_call 40;revert oAa;intro oAa;refine (HC2a.o _).mono ?_;rintro e w7a ⟨v7,rfl,O7⟩;obtain ⟨g7,c7,rfl,n7⟩:=O7.row HP2a.o;have nBa:=NB.mk n7;have hnea:=oAa.apart O7;have nAa:=nAa.quiet O7.keeps;have oAa:=oAa.quiet O7.keeps;obtain ⟨d0,d1⟩:=HDa.o _ oAa.keeps;rw[← HM2a.o])
    | (go_at_call 40;refine (HC1a.o _).mono ?_;rintro e w6a ⟨v6,rfl,O6⟩;obtain ⟨g6,c6,rfl,n6⟩:=O6.row HP1a.o;have nAa:=NB.mk n6;have oAa:=HODa.o.quiet O6.keeps;obtain ⟨d0,d1⟩:=HDa.o _ oAa.keeps;rw[← HM1a.o])
    | (refine qP (by rfl) _ _ (by rfl) (by rfl) oFa (by rfl) HM2a.o HP2a.o nFa.at_ (by have:=HYa.o;rw[List.length_append];omega) ?_;intro g9a c9a N9a w9a hN9 oZa hgr9;obtain ⟨d0,d1⟩:=HDa.o _ oZa.keeps)
    | (refine qP (by rfl) _ _ (by rfl) (by rfl) oAa (by rfl) HM1a.o HP1a.o nAa.at_ (by have:=HYa.o;omega) ?_;intro g8 c8 N8 w8 hN8 oFa hgr8;have nFa:=nBa.grown hgr8 hnea;obtain ⟨d0,d1⟩:=HDa.o _ oFa.keeps)
    | (refine qP (by rfl) _ _ (by rfl) (by rfl) oAa (by rfl) HM1a.o HP1a.o nAa.at_ (by have:=HYa.o;omega) ?_;intro g8 c8 N8 w8 hN8 oFa hgr8;obtain ⟨d0,d1⟩:=HDa.o _ oFa.keeps))
   all_goals have HZa:=hid oZa
   all_goals clear oZa
   all_goals have HODb:=hid (HZa.o.quiet (zc.drew [] _))
   all_goals obtain ⟨d0,d1⟩:=HDb.o _ HZa.o.keeps
   all_goals go_upto_region 13 with fail
   all_goals go_region_held3 (fun w'=>w'.cell? ⟨q,3,none⟩=some (int i64 y1b)∧w'.cell? ⟨q,4,none⟩=some (int i64 y2b)) (go_keep) (first
    | (go_at_call 40;revert oFb;intro oFb;refine (HC2b.o _).mono ?_;rintro e w7b ⟨v7,rfl,O7⟩;obtain ⟨g7,c7,rfl,n7⟩:=O7.row HP2b.o;have nFb:=NB.mk n7;have oFb:=oFb.quiet O7.keeps;obtain ⟨d0,d1⟩:=HDb.o _ oFb.keeps;rw[← HM2b.o])
    | (go_at_call 40;revert oAb;intro oAb;refine (HC2b.o _).mono ?_;rintro e w7b ⟨v7,rfl,O7⟩;obtain ⟨g7,c7,rfl,n7⟩:=O7.row HP2b.o;have nBb:=NB.mk n7;have hneb:=oAb.apart O7;have nAb:=nAb.quiet O7.keeps;have oAb:=oAb.quiet O7.keeps;obtain ⟨d0,d1⟩:=HDb.o _ oAb.keeps;rw[← HM2b.o])
    | (go_at_call 40;refine (HC1b.o _).mono ?_;rintro e w6b ⟨v6,rfl,O6⟩;obtain ⟨g6,c6,rfl,n6⟩:=O6.row HP1b.o;have nAb:=NB.mk n6;have oAb:=HODb.o.quiet O6.keeps;obtain ⟨d0,d1⟩:=HDb.o _ oAb.keeps;rw[← HM1b.o])
    | (refine qP (by rfl) _ _ (by rfl) (by rfl) oFb (by rfl) HM2b.o HP2b.o nFb.at_ (by have:=HYb.o;rw[List.length_append];omega) ?_;intro g9b c9b N9b w9b hN9 oZb hgr9;obtain ⟨d0,d1⟩:=HDb.o _ oZb.keeps)
    | (refine qP (by rfl) _ _ (by rfl) (by rfl) oAb (by rfl) HM1b.o HP1b.o nAb.at_ (by have:=HYb.o;omega) ?_;intro g8 c8 N8 w8 hN8 oFb hgr8;have nFb:=nBb.grown hgr8 hneb;obtain ⟨d0,d1⟩:=HDb.o _ oFb.keeps)
    | (refine qP (by rfl) _ _ (by rfl) (by rfl) oAb (by rfl) HM1b.o HP1b.o nAb.at_ (by have:=HYb.o;omega) ?_;intro g8 c8 N8 w8 hN8 oFb hgr8;obtain ⟨d0,d1⟩:=HDb.o _ oFb.keeps))
   all_goals have HZb:=hid oZb
   all_goals clear oZb
   all_goals go_wp2_with fail
   all_goals go_ret
   all_goals exact ⟨_,rfl,HE9.o _ _ HZb.o⟩
section
variable {P:Program}{ops:Array Oper}{Q:Exit→Act→World→Prop}{md:Region.Mode}{S:World→Prop}
theorem zhE{i d:Nat}{oi:Oper}{v:Value}{fuel:Nat}{listed:Array Bool}{a:Act}{w:World}(hi:ops.toList[i]? = some oi)(hd:oi.dst=some d)
  (hs:Region.noSelect ops=true) (hf:Region.free md ops listed i=true) (hr:(Region.ready md ops listed).contains i=true)
  (hQ:∀ c a w,Q (.panic c) (a.put (some d) v) w→Q (.panic c) a w) (hw:Region.wanted oi (yielded ops a.tmps)=true) (hS:S w)
  (hy:∀ w,S w→(execOp a.eval oi).run P w=.ok (.value v) w)
  (h:wpAnyH P md ops Q S fuel (listed.setIfInBounds i true) (a.put (some d) v) w):wpAnyH P md ops Q S (fuel+1) listed a w:=by
 rw[Array.getElem?_toList] at hi;rw[← hd] at hQ h;exact wpAnyH_take hi hs hf hr hQ (Or.inl ⟨hw,hy⟩) hS h
theorem zE{i d:Nat}{oi:Oper}{v:Value}{fuel:Nat}{listed:Array Bool}{a:Act}{w:World}(hi:ops.toList[i]? = some oi)(hd:oi.dst=some d)
  (hc:(Region.noSelect ops && (Region.free md ops listed i && (Region.ready md ops listed).contains i))=true)
  (hQ:∀ c a w,Q (.panic c) (a.put (some d) v) w→Q (.panic c) a w) (hw:Region.wanted oi (yielded ops a.tmps)=true) (hS:S w)
  (hy:∀ w,S w→(execOp a.eval oi).run P w=.ok (.value v) w)
  (h:wpAnyH P md ops Q S fuel (listed.setIfInBounds i true) (a.put (some d) v) w):wpAnyH P md ops Q S (fuel+1) listed a w:=by
 rw[Bool.and_eq_true,Bool.and_eq_true] at hc;exact zhE hi hd hc.1 hc.2.1 hc.2.2 hQ hw hS hy h
theorem zlm{i j:Nat}{fuel:Nat}{listed:Array Bool}{a:Act}{w:World}(hr:Region.ready md ops listed=[i,j])
  (h1:wpOp P ops Q i (fun a' w'=>S w'∧wpAnyH P md ops Q S fuel (listed.setIfInBounds i true) a' w') a w)
  (h2:wpOp P ops Q j (fun a' w'=>S w'∧wpAnyH P md ops Q S fuel (listed.setIfInBounds j true) a' w') a w):wpAnyH P md ops Q S (fuel+1) listed a w:=
 wpAnyH_all hr (by simp) (fun x hx=>by
  rcases List.mem_cons.1 hx with rfl | hx
  ·exact h1
  ·obtain rfl:=List.mem_singleton.1 hx
   exact h2)
theorem Z6{i:Nat}{fuel:Nat}{listed:Array Bool}{a:Act}{w:World}(hr:Region.ready md ops listed=[i])
  (h1:wpOp P ops Q i (fun a' w'=>S w'∧wpAnyH P md ops Q S fuel (listed.setIfInBounds i true) a' w') a w):wpAnyH P md ops Q S (fuel+1) listed a w:=
 wpAnyH_all hr (by simp) (fun x hx=>by
  obtain rfl:=List.mem_singleton.1 hx
  exact h1)
theorem ZI{i d:Nat}{oi:Oper}{K:Act→World→Prop}{a:Act}{w:World}(hi:ops.toList[i]? = some oi)(hd:oi.dst=some d)
  (hw:Region.wanted oi (yielded ops a.tmps)=true) (f:Nat) (args:Array Value) (he:(execOp a.eval oi).run P w=.ok (.enter f args) w) {R:Value→World→Prop}
  (hc:Calls P f args w fun e w'=>∃ v,e=.returned v∧R v w') (h:∀ v w',R v w'→K (a.put (some d) v) w'):wpOp P ops Q i K a w:=by
 rw[Array.getElem?_toList] at hi;rw[← hd] at h;refine wpOp_step hi (fun K' hK=> ?_);rw[if_pos hw];unfold Oper.wp;rw[he];simp only[Oper.upon];refine Calls.mono hc (fun e w'=> ?_);rintro ⟨v,rfl,hs⟩;exact hK _ _ (h v w' hs)
theorem qY{ev:Operand→Value}{oi:Oper}{f:Nat}{x:Operand}{ts:Array TypeId}{v:Value}{w:World}(ho:oi.op=.call { callee:=.value (.func f),args:=#[x],argTypes:=ts })(hf:ev (.func f)=.func (.func f) #[] #[])(hx:ev x=v)(hc:(callFunc f #[v]).run P w=.ok (.enter f #[v]) w):(execOp ev oi).run P w=.ok (.enter f #[v]) w:=by
 subst hx;simp[execOp,ho,hf,go_sem,hc]
theorem zI{f g:Operand→Value}{oi:Oper}{w:World}{r:Result Next}(h:execOp f oi=execOp g oi)(k:(execOp g oi).run P w=r):(execOp f oi).run P w=r:=by rw[h];exact k
end
theorem zfo{ops:Array Oper}{Q:Exit→Act→World→Prop}{K:Act→World→Prop}(hi:ops.toList[i]? = some oi)(hd:oi.dst=some d)(hgd:oi.guard=none)(s x:Operand)(ho:oi.op=.call { callee:=.builtin .append,args:=#[s,x],argTypes:=#[63,63] })
  {w0 w:World}{v:Value}{B:List UInt8}(hs:a.eval s=v) (hB:OB w0 w v B) {b off m c:Nat}{T:List UInt8}(hx:a.eval x=.slice (some ⟨b,off,none⟩) m c) (hm:m=T.length) (hT:0<T.length) (hnews:∀ i,i<T.length→w.cell? ⟨b,off+i,none⟩=some (.int .u8 ((T.getD i 0).toNat:Int)))
  (hlen:B.length+T.length≤140737488355328)
  (h:∀ g cap N w',Box (N=(B ++ T).length)→OB w0 w' (.slice (some ⟨g,0,none⟩) N cap) (B ++ T)→w.grownBy w' v.ownBlock→K (a.put (some d) (.slice (some ⟨g,0,none⟩) N cap)) w'):wpOp Tryz.prog ops Q i K a w:=by
 rw[Array.getElem?_toList] at hi;rw[← hd] at h;refine wpOp_step hi (fun K' hK=> ?_);exact qP hgd s x ho hs hB hx hm hT hnews hlen (fun g cap N w' h1 h2 h3=>hK _ _ (h g cap N w' h1 h2 h3))
theorem zaG(v:Value)(w:World):(callFunc 40 #[v]).run Tryz.prog w=.ok (.enter 40 #[v]) w:=by go_simp
end Go.Proofs.YtkgoimokgbdgfaaGreatDoor
