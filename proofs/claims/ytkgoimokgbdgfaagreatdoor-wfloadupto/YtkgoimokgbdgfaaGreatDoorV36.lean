import Derived.Test.YtkgoimokgbdgfaaGreatDoorV35

namespace Go.Proofs.YtkgoimokgbdgfaaGreatDoor
open Go.RowKit
open Go.Value (int pointer agg)
open Go.IntKind (i64)
set_option maxRecDepth 20000
set_option maxHeartbeats 8000000
theorem zdl{p:Pr8}{n:Nat}(h:n<(pts p).length):∃ f b i,J1 p f b i∧(pts p)[n]? = some (f,b,i):=by
 have hm:(pts p)[n]∈pts p:=List.getElem_mem h;obtain ⟨f,b,i,e⟩:∃ f b i,(pts p)[n]=(f,b,i):=⟨(pts p)[n].1,(pts p)[n].2.1,(pts p)[n].2.2,rfl⟩;rw[e] at hm;exact ⟨f,b,i,zc8.1 hm,by rw[List.getElem?_eq_getElem h,e]⟩
theorem ziM{B:Nat × Nat × Nat→Bool}{l:List (Nat × Nat × Nat)}{n:Nat}{q:Nat × Nat × Nat}(hq:l[n]? = some q)(hw:Q1 B (l.take n))(hb:B q=true):l.find? B=some q:=by
 have hn:=(List.getElem?_eq_some_iff.1 hq).1;have e:l=l.take n ++ q :: l.drop (n+1):=by
  have h1:=List.drop_eq_getElem_cons hn;have h2:=(List.getElem?_eq_some_iff.1 hq).2;rw[← h2, ← h1,List.take_append_drop]
 rw[e,List.find?_append,List.find?_eq_none.2 (fun x hx=>by simp[hw x hx]),List.find?_cons_of_pos hb];rfl
theorem zeH{w:World}{pb po:Nat}{P:Pr8}(h:PrC w pb po P)(hs:Sm8 P)(hfew:zlS P)(hnm:zM P=none)(hrg:∀ f,f<P.funcs.length→(zg P f).regs.length≤1000):
  Calls Tryz.prog 38 #[pointer (some ⟨pb,po,none⟩)] w (Jq ((pts P).find? (zdb P)) w):=by
 have ka:=zc.alloc [] w (.cells #[int i64 0,int i64 0,int i64 0] 55);have HN0:=hid (zf w (.cells #[int i64 0,int i64 0,int i64 0] 55));have FIN:=hid fun (W':World) (u0 u1 u2:Value) (k:zc [] (w.alloc (.cells #[int i64 0,int i64 0,int i64 0] 55)) W')=>(ka.quiet k).trans (jd W' w.heap.size u0 u1 u2) (fun x hx hl=>by simp at hx;omega);have HPO:=hid (zbd (PrC.stays _ _ _ _ _ ka h) hs);have HRD:Box (∀ (w':World) (f b i:Nat),zc [] (w.alloc (.cells #[int i64 0,int i64 0,int i64 0] 55)) w'→J1 P f b i→Calls Tryz.prog 78 #[pointer (some ⟨pb,po,none⟩),ptV f b i] w' fun e w''=>∃ a cp,e=.returned (.slice a (jg P (f,b,i)).length cp)∧zw w'' a (jg P (f,b,i))∧zc [] w' w''):=hid fun w' f b i k hp=>zgh (PrC.stays _ _ _ _ _ (ka.quiet k) h) hs hfew hp;have HFR:Box (∀ (w':World) (f b i:Nat) (z:Int),zc [] (w.alloc (.cells #[int i64 0,int i64 0,int i64 0] 55)) w'→J1 P f b i→z∈jg P (f,b,i)→Calls Tryz.prog 79 #[pointer (some ⟨pb,po,none⟩),int i64 (f:Int),int i64 z,ptV f b i] w' fun e w''=>e=.returned (.bool (ZX P f z.toNat b i))∧zc [] w' w''):=hid fun w' f b i z k hp hz=>by
  have h1:=zq.1 (zba hnm hp z hz);have h2:=hrg f hp.1;obtain ⟨r,rfl⟩:=Int.eq_ofNat_of_zero_le h1.1;have hsg:inB (zg P f).sig P.sigs.length=true:=by
   have:=Jb hnm hp.1;unfold j7 at this;rw[Bool.and_eq_true] at this;exact this.1
  exact ziQ (PrC.stays _ _ _ _ _ (ka.quiet k) h) hs hp hsg (by omega)
 have HRLN:Box (∀ (f b i:Nat),J1 P f b i→(jg P (f,b,i)).length≤2000000):=hid fun f b i hp=>by
  unfold jg;split
  ·next hi=>
   have:=hfew f b i hp.1 hp.2.1 hi;have h2:=ZZ (qQ (zr (zg P f) b) i);simp only at h2 ⊢;omega
  ·split <;> simp
 have HBK:=hid fun (n:Nat) (hn:n<(pts P).length)=>zdl hn;have hpl:=hs.pt;unfold ptV at HRD HFR;have HKA:=hid ka;clear h hs hfew hnm hrg ka;obtain ⟨N,hNe⟩:∃ N,(pts P).length=N:=⟨_,rfl⟩;have HN:=hid hNe;rw[hNe] at HPO HBK hpl;clear hNe;go_enter Tryz.func38,Tryz.ntmps38;go_upto_region 1 with fail;generalize hbx:w.heap.size=bx at *;generalize w.alloc (.cells #[int i64 0,int i64 0,int i64 0] 55)=W at *;clear hbx;go_upto_region 2 with (go_at_call 73;refine HPO.o.mono ?_;rintro e w1 ⟨la,lcp,rfl,hrows,k1⟩)
 have HRO:=hid hrows;have HK1:=hid k1;clear hrows k1 HPO;go_wp2_with fail
 go_loopw [5] (fun i wr=>∃ n:Nat,n≤N∧i=int i64 (n:Int)∧Box (zc [] w1 wr)∧Box (Q1 (zdb P) ((pts P).take n))) (fun i _=>N - (intOf i).toNat)
 case atStart=>exact ⟨0,by omega,rfl,hid (zc.refl _ _),hid (by rw[List.take_zero];exact Q1.nil _)⟩
 case round=>
  obtain ⟨n,hn,rfl,HK,HW⟩:=hrel;by_cases hlt:n<N
  ·have hlt':(n:Int)<(N:Int):=by omega
   obtain ⟨f,b,i,hp,hq⟩:=HBK.o n hlt;obtain ⟨lb,lo,rfl,hpc⟩:=HRO.o.at hq;have CP:Box (∀ w',zc [] w1 w'→w'.cell? ⟨lb,lo+n * 3,none⟩=some (int i64 (f:Int))∧w'.cell? ⟨lb,lo+n * 3+1,none⟩=some (int i64 (b:Int))∧w'.cell? ⟨lb,lo+n * 3+2,none⟩=some (int i64 (i:Int))):=hid fun w' k=>⟨za k hpc.c0,za k hpc.c1,za k hpc.c2⟩
   have HTK:Box ((pts P).take (n+1)=(pts P).take n ++ [(f,b,i)]):=hid (by
    have:=qC (pts P) n (0,0,0) (by rw[HN.o];exact hlt);rw[List.getD_eq_getElem?_getD,hq] at this
    exact this)
   have HQ:=hid hq;have HRD1:=hid (HRD.o wr f b i (HK1.o.quiet HK.o) hp);have HFR1:=hid fun (w':World) (z:Int) (k:zc [] W w') (hz:z∈jg P (f,b,i))=>HFR.o w' f b i z k hp hz;have hll:=HRLN.o f b i hp;have HBP:Box (zdb P (f,b,i)=(jg P (f,b,i)).any fun z=>ZX P f z.toNat b i):=hid rfl;clear hq hpc hp;generalize jg P (f,b,i)=RL at *;obtain ⟨c0,c1,c2⟩:=CP.o _ HK.o;go_upto_region 6 with (go_at_call 78;refine HRD1.o.mono ?_;rintro e w2 ⟨ua,ucp,rfl,hz2,k2⟩)
   have HZ:=hid hz2;have HK2:=hid (HK.o.quiet k2);clear hz2 k2 c0 c1 c2 HRD1 HK;obtain ⟨ul,hul⟩:∃ ul,RL.length=ul:=⟨_,rfl⟩;have HUL:=hid hul;rw[hul] at hll ⊢;clear hul;go_wp2_with fail
   go_loopw [7] (fun i' wr=>∃ k:Nat,k≤ul∧i'=int i64 (k:Int)∧Box (zc [] w2 wr)∧Box (((RL.take k).any fun z=>ZX P f z.toNat b i)=false)) (fun i' _=>ul - (intOf i').toNat)
   case atStart=>exact ⟨0,by omega,rfl,hid (zc.refl _ _),hid (by simp)⟩
   case round=>
    obtain ⟨k,hk,rfl,HK,HA⟩:=hrel;by_cases hlk:k<ul
    ·have hlk':(k:Int)<(ul:Int):=by omega
     have hlk2:k<RL.length:=by rw[HUL.o];exact hlk
     rcases HZ.o with h0 | ⟨bz,oz,rfl,hcz⟩
     ·exfalso
      rw[h0] at hlk2;simp at hlk2
     have hc:=za HK.o (hcz k hlk2);have HTS:=hid (qC RL k 0 hlk2);have HMZ:=hid (qD RL k 0 hlk2);obtain ⟨z,hz⟩:∃ z,RL.getD k 0=z:=⟨_,rfl⟩;rw[hz] at hc HTS HMZ;clear hz hlk2 hcz;obtain ⟨c0,c1,c2⟩:=CP.o _ (HK2.o.quiet HK.o);have HFZ:=hid fun (w':World) (k':zc [] wr w')=>HFR1.o w' z ((HK1.o.quiet HK2.o).quiet (HK.o.quiet k')) HMZ.o;go_upto_region 9 with fail
     go_cut [42] (fun t42 wz=>t42=.bool (ZX P f z.toNat b i)∧Box (zc [] wr wz))
     case first=>
      go_region_with (go_at_call 79;refine (HFZ.o _ (zc.drewN [] _ _)).mono ?_;rintro e w5 ⟨rfl,k5⟩)
      all_goals
       go_wp2_with fail;go_meet;exact ⟨rfl,hid ((zc.drewN [] _ _).quiet k5)⟩
     case rest=>
      obtain ⟨rfl,HK5⟩:=hcut;clear c0 c1 c2 hc;cases hfz:ZX P f z.toNat b i with
      | false=>
       have HA2:Box (((RL.take (k+1)).any fun z=>ZX P f z.toNat b i)=false):=hid (by rw[HTS.o,List.any_append,HA.o];simp[hfz]);clear hfz;go_wp2_with fail;go_roundw
       case rel=>exact ⟨k+1,by omega,by go_num,hid (HK.o.quiet HK5.o),HA2⟩
       case measure=>simp[intOf];omega
      | true=>
       have HFD:Box ((pts P).find? (zdb P)=some (f,b,i)):=hid (ziM HQ.o HW.o (by
        rw[HBP.o,List.any_eq_true]
        exact ⟨z,HMZ.o,hfz⟩))
       clear hfz;have KZ:=hid (HK1.o.quiet (HK2.o.quiet (HK.o.quiet HK5.o)));obtain ⟨c0,c1,c2⟩:=CP.o _ (HK2.o.quiet (HK.o.quiet HK5.o));have hb6':=ze HN0.o KZ.o;have y0:=zi hb6' 0;have y1:=zi hb6' 1;have y2:=zi hb6' 2;have x0:=zd hb6' 0;have x1:=zd hb6' 1;have x2:=zd hb6' 2;have HB6:=hid hb6';clear hb6';go_wp2_with fail;have h3:=ZC HB6.o (int i64 (f:Int)) (int i64 (b:Int)) (int i64 (i:Int));have e0:=zd h3 0;have e1:=zd h3 1;have e2:=zd h3 2;exact bodyPost_ret (v:=.tuple #[agg #[int i64 (f:Int),int i64 (b:Int),int i64 (i:Int)],.bool false]) (by simp[results,Tryz.results38,go_sem,e0,e1,e2]) rfl (Jq.no HFD.o (FIN.o _ _ _ _ KZ.o))
    ·obtain rfl:k=ul:=by omega
     rw[← HUL.o,List.take_length] at HA;have HWN:=hid (Q1.one (B:=zdb P) (q:=(f,b,i)) (by rw[HBP.o];exact HA.o));go_wp2_with fail;go_roundw
     case rel=>exact ⟨n+1,by omega,by go_num,hid (HK2.o.quiet HK.o),hid (by rw[HTK.o];exact HW.o.app HWN.o)⟩
     case measure=>simp[intOf];omega
  ·obtain rfl:n=N:=by omega
   have HFD:Box ((pts P).find? (zdb P)=none):=hid (Q7 (by have:=HW.o;rw[← HN.o,List.take_length] at this;exact this));go_wp2_with (go_at_call 13;refine (qh _).mono ?_;rintro e w6 ⟨rfl,k6⟩;have hb6:=ze HN0.o (HK1.o.quiet (HK.o.quiet k6));have K6:=hid (HK1.o.quiet (HK.o.quiet k6));have y0:=zi hb6 0;have y1:=zi hb6 1;have y2:=zi hb6 2;have x0:=zd hb6 0;have x1:=zd hb6 1;have x2:=zd hb6 2;have HB6:=hid hb6;clear hb6 k6);have h3:=ZC HB6.o (int i64 (-1)) (int i64 0) (int i64 0);have e0:=zd h3 0;have e1:=zd h3 1;have e2:=zd h3 2;exact bodyPost_ret (v:=.tuple #[agg #[int i64 (-1),int i64 0,int i64 0],.bool true]) (by simp[results,Tryz.results38,go_sem,e0,e1,e2]) rfl (Jq.yes HFD.o (FIN.o _ _ _ _ K6.o))
end Go.Proofs.YtkgoimokgbdgfaaGreatDoor
