import Derived.Deep.RegionHeld
import Derived.Deep.RegionWith
import Derived.Test.YtgmbkiagdhjpnaaGreatDoorU15

namespace Go.Proofs.YtgmbkiagdhjpnaaGreatDoor
open Go.RowKit
open Go.Value (int pointer agg)
open Go.IntKind (i64)
set_option maxRecDepth 20000
set_option maxHeartbeats 4000000
variable {W0 w w':World}{b i m s:Nat}{l:Array Bool}{v:Value}
def qm(w:World)(b:Nat)(t:Int × Int):Prop:=w.heap[b]? = some (.cells #[int i64 t.1,int i64 t.2] 60 (0,0))
theorem qm.quiet{t:Int × Int}(h:qm w b t)(k:za [] w w'):qm w' b t:=zd h k
theorem qm.far{b':Nat}{t t':Int × Int}(h:qm w b t)(hn:b≠b'):qm ((w.setCell ⟨b',0,none⟩ (int i64 t'.1)).setCell ⟨b',1,none⟩ (int i64 t'.2)) b t:=by
 unfold qm;rw[heap_setCell_other _ _ _ _ hn,heap_setCell_other _ _ _ _ hn];exact h
theorem qm.put{t t':Int × Int}(h:qm w b t):qm ((w.setCell ⟨b,0,none⟩ (int i64 t'.1)).setCell ⟨b,1,none⟩ (int i64 t'.2)) b t':=zm1 h _ _
def JE(W0 w:World)(l:Array Bool)(m s:Nat)(v:Value)(b:Nat)(t:Int × Int):Prop:=
 l.getD m false=true→v=pointer (some ⟨b,0,none⟩)∧W0.heap.size≤b∧qm w b (if l.getD s false then t else (0,0))
structure zlM (W0:World) (fr:Value→Value→Value→Value→Value→Value→Act) (T1 T2 T3:Int × Int) (l:Array Bool) (a:Act) (w:World):Prop where
 size:l.size=18
 kept:za [] W0 w
 ex:∃ v7 v8 v9 v19 v23 v27 b7 b8 b9,a=fr v7 v8 v9 v19 v23 v27∧(l.getD 3 false=true→v19=tyV T1)∧(l.getD 7 false=true→v23=tyV T2)∧(l.getD 11 false=true→v27=tyV T3)∧
  JE W0 w l 12 15 v7 b7 T1∧JE W0 w l 13 16 v8 b8 T2∧JE W0 w l 14 17 v9 b9 T3∧
  (l.getD 12 false=true→l.getD 13 false=true→b7≠b8)∧(l.getD 12 false=true→l.getD 14 false=true→b7≠b9)∧(l.getD 13 false=true→l.getD 14 false=true→b8≠b9)
 nine:∀ i,i∈[0,1,2,4,5,6,8,9,10]→l.getD i true=true
 o7:l.getD 15 false=true→l.getD 12 false=true
 o8:l.getD 16 false=true→l.getD 13 false=true
 o9:l.getD 17 false=true→l.getD 14 false=true
theorem zh0(h:i<l.size):(l.setIfInBounds i true).getD i false=true:=by
 rw[Array.getD_eq_getD_getElem?,Array.getElem?_setIfInBounds_self_of_lt h];rfl
theorem zk{j:Nat}(d:Bool)(h:i≠j):(l.setIfInBounds i true).getD j d=l.getD j d:=getD_set_ne d h
theorem zgX{j:Nat}(i:Nat)(h:l.getD j true=true):(l.setIfInBounds i true).getD j true=true:=by
 by_cases e:i=j
 ·subst e
  rcases Nat.lt_or_ge i l.size with h' | h'
  ·rw[Array.getD_eq_getD_getElem?,Array.getElem?_setIfInBounds_self_of_lt h']
   rfl
  ·rw[Array.getD_eq_getD_getElem?,Array.getElem?_eq_none (by simpa using h')]
   rfl
 ·rw[zk true e]
  exact h
theorem qG(i:Nat)(h:∀ i,i∈[0,1,2,4,5,6,8,9,10]→l.getD i true=true):∀ j,j∈[0,1,2,4,5,6,8,9,10]→(l.setIfInBounds i true).getD j true=true:=fun j hj=>zgX i (h j hj)
theorem zD(i:Nat)(h:l.getD s false=true→l.getD m false=true)(hi:i=s→l.getD m false=true):(l.setIfInBounds i true).getD s false=true→(l.setIfInBounds i true).getD m false=true:=by
 intro hb;apply getD_set_true;by_cases e:i=s
 ·exact hi e
 ·rw[zk false e] at hb
  exact h hb
theorem JE.quiet{t:Int × Int}(h:JE W0 w l m s v b t)(k:za [] w w')(hm:i≠m)(hs:i≠s):JE W0 w' (l.setIfInBounds i true) m s v b t:=by
 intro hb;rw[zk false hm] at hb;rw[zk false hs];obtain ⟨h1,h2,h3⟩:=h hb;exact ⟨h1,h2,h3.quiet k⟩
theorem JE.new{t:Int × Int}(hk:za [] W0 w)(hs:l.getD s false=false)(hne:m≠s):JE W0 (w.alloc (.cells #[int i64 0,int i64 0] 60)) (l.setIfInBounds m true) m s (pointer (some ⟨w.heap.size,0,none⟩)) w.heap.size t:=by
 intro _;rw[zk false hne,hs];exact ⟨rfl,hk.size,ze w _⟩
theorem JE.far{b':Nat}{t t':Int × Int}(h:JE W0 w l m s v b t)(hn:l.getD m false=true→b≠b')(hm:i≠m)(hs:i≠s):JE W0 ((w.setCell ⟨b',0,none⟩ (int i64 t'.1)).setCell ⟨b',1,none⟩ (int i64 t'.2)) (l.setIfInBounds i true) m s v b t:=by
 intro hb;rw[zk false hm] at hb;rw[zk false hs];obtain ⟨h1,h2,h3⟩:=h hb;exact ⟨h1,h2,h3.far (hn hb)⟩
theorem JE.put{t:Int × Int}(h:JE W0 w l m s v b t)(hs:s<l.size)(hne:s≠m):JE W0 ((w.setCell ⟨b,0,none⟩ (int i64 t.1)).setCell ⟨b,1,none⟩ (int i64 t.2)) (l.setIfInBounds s true) m s v b t:=by
 intro hb;rw[zk false hne] at hb;rw[zh0 hs];obtain ⟨h1,h2,h3⟩:=h hb;exact ⟨h1,h2,h3.put⟩
theorem JE.lt{t:Int × Int}(h:JE W0 w l m s v b t)(hb:l.getD m false=true):b<w.heap.size:=zt (h hb).2.2
theorem JM(h:l.getD i true=false):l.getD i false=false:=by
 rw[Array.getD_eq_getD_getElem?] at h ⊢;cases e:l[i]? with
 | none=>rw[e] at h;cases h
 | some b=>rw[e] at h;exact h
def zlY(w:World)(b:Nat)(v0:Value)(t1 t2:Int):Prop:=w.heap[b]? = some (.cells #[v0,int i64 t1,int i64 t2] 75 (0,0))
theorem zlY.quiet{v0:Value}{t1 t2:Int}(h:zlY w b v0 t1 t2)(k:za [] w w'):zlY w' b v0 t1 t2:=zd h k
theorem zV.open{o:Option (List (Int × Int) × Int × Int)}{w0:World}{e:Ending}(h:zV o w0 w e w'):za [] w w'∧∃ a cp n t1 t2,e=.returned (.tuple #[agg #[.slice a n cp,int i64 t1,int i64 t2],.bool o.isSome])∧(∀ s,o=some s→n=s.1.length∧t1=s.2.1∧t2=s.2.2∧zq w0 2 TyC a s.1∧n≤maxLen):=by
 obtain ⟨k,h⟩:=h;refine ⟨k,?_⟩;cases o with
 | none=>exact ⟨none,0,0,0,0,h,fun s e=>by cases e⟩
 | some s=>
  obtain ⟨v,rfl,a,cp,rfl,hv,_⟩:=h;obtain ⟨_,hr,_,hl⟩:=hv.slice;exact ⟨a,cp,s.1.length,s.2.1,s.2.2,rfl,fun s' e=>by cases e;exact ⟨rfl,rfl,rfl,hr,hl⟩⟩
def ZG(P:Pr8):Bool:=match (if inB P.main P.funcs.length then jB P (zf P P.main.toNat).sig else none) with
 | some s=>decide (s.1.length=0) && decide (s.2.1=0)
 | none=>false
theorem zgN{pb po:Nat}{P:Pr8}(h:PrC w pb po P):Calls Tryz.prog 121 #[pointer (some ⟨pb,po,none⟩)] w fun e w'=>e=.returned (.bool (ZG P))∧za [] w w':=by
 obtain ⟨fa,fp,c4,r4,_⟩:=h.c4;have c5:=h.c5.1;have HP:=hid h;have HW:=hid fun (w':World)=>zp P.main P.funcs.length w';have HR:=hid r4;clear h r4;cases hin:inB P.main P.funcs.length with
 | false=>
  rw[hin] at HW;have HE:Box (ZG P=false):=hid (by unfold ZG;rw[hin];rfl);clear hin HP HR;generalize P.funcs.length=n at *;go_enter Tryz.func121,Tryz.ntmps121;go_upto_region 1 with fail;go_quiet ((go_at_call 113;exact Calls.quiet_of_same (HW.o _)));go_wp2_with fail;go_ret;exact ⟨by rw[HE.o];rfl,za.drewN _ _ _⟩
 | true=>
  rw[hin] at HW;obtain ⟨g0,g1⟩:=zm.1 hin;obtain ⟨m,hm⟩:∃ m:Nat,P.main=(m:Int):=⟨P.main.toNat,by omega⟩;obtain ⟨fb,fo,rfl,hfu⟩:=HR.o.at (zi (l:=P.funcs) (k:=m) (d:=⟨0,[],[]⟩) (by omega))
  have HE:Box (ZG P=match jB P (zf P m).sig with
   | some s=>decide (s.1.length=0) && decide (s.2.1=0)
   | none=>false):=hid (by unfold ZG;rw[hin,hm];rfl)
  have e0:w.cell? ⟨fb,fo+m * 3,none⟩=some (int i64 (zf P m).sig):=hfu.c0.1;have HSG:=hid fun (w':World) (k:za [] w w')=>ZX HP.o k (zf P m).sig;rw[hm] at c5 HW g1;have hmn:(m:Int)<(P.funcs.length:Int):=g1;generalize hO:jB P (zf P m).sig=O at *;have C4:Box (∀ w',za [] w w'→w'.cell? ⟨pb,po+4,none⟩=some (.slice (some ⟨fb,fo,none⟩) P.funcs.length fp)∧w'.cell? ⟨pb,po+5,none⟩=some (int i64 (m:Int))∧w'.cell? ⟨fb,fo+m * 3,none⟩=some (int i64 (zf P m).sig)):=hid fun w' k=>⟨zb k c4,zb k c5,zb k e0⟩;clear hin g0 hm hfu hO HP HR;generalize P.funcs.length=n at *;generalize (zf P m).sig=sg at *;go_enter Tryz.func121,Tryz.ntmps121;go_upto_region 1 with fail;go_quiet ((go_at_call 113;exact Calls.quiet_of_same (HW.o _)));go_upto_region 3 with fail;generalize hwd:w.drewN nq=wd at *;have KD:za [] w wd:=by rw[← hwd];exact za.drewN _ _ _
  have HKD:=hid KD;clear hwd KD c4 c5 e0;obtain ⟨c4,c5,e0⟩:=C4.o _ HKD.o
  go_cut [3,4] (fun v3 v4 wz=>∃ b a cp k t1 t2,v3=pointer (some ⟨b,0,none⟩)∧v4=.bool O.isSome∧Box (zlY wz b (.slice a k cp) t1 t2)∧Box (∀ s,O=some s→k=s.1.length∧t1=s.2.1)∧Box (za [] w wz))
  case first=>
   have n1:=World.new_ne wd _ c4;have n2:=World.new_ne wd _ c5;have n3:=World.new_ne wd _ e0
   go_region_held3 (fun w'=>w'.cell? ⟨pb,po+4,none⟩=some (.slice (some ⟨fb,fo,none⟩) n fp)∧w'.cell? ⟨pb,po+5,none⟩=some (int i64 (m:Int))∧w'.cell? ⟨fb,fo+m * 3,none⟩=some (int i64 sg)) (first | go_keep | simp (maxDischargeDepth:=10) [*,World.cell?_alloc_some,World.cell?_setCell_far]) (first
    | (go_at_call 173;refine (HSG.o _ (HKD.o.quiet (za.drew [] _))).mono ?_;intro e w5 h5;obtain ⟨k5,a,cp,k,t1,t2,rfl,h6⟩:=h5.open;have K5:=(HKD.o.quiet (za.drew [] _)).quiet k5;obtain ⟨f51,f52,f53⟩:=C4.o _ K5;have H6:=hid h6;have HK5:=hid K5;clear k5 h5 h6)
    | (go_at_call 173;refine (HSG.o _ ((HKD.o.quiet (za.drew [] _)).quiet (za.alloc [] _ _))).mono ?_;intro e w5 h5;obtain ⟨k5,a,cp,k,t1,t2,rfl,h6⟩:=h5.open;have K5:=((HKD.o.quiet (za.drew [] _)).quiet (za.alloc [] _ _)).quiet k5;obtain ⟨f51,f52,f53⟩:=C4.o _ K5;have H6:=hid h6;have HK5:=hid K5;have hb:w5.heap[wd.heap.size]? = some (.cells #[.slice none 0 0,int i64 0,int i64 0] 75 (0,0)):=zd (ze wd.drew (.cells #[.slice none 0 0,int i64 0,int i64 0] 75)) k5;have z0:=zg hb 0;have z1:=zg hb 1;have z2:=zg hb 2;have y0:=zc hb 0;have y1:=zc hb 1;have y2:=zc hb 2;have HB:=hid hb;clear k5 h5 h6 hb))
   ·go_wp2_with fail
    go_meet;exact ⟨w5.heap.size,a,cp,k,t1,t2,rfl,rfl,hid (ze w5 _),hid fun s hs=>⟨(H6.o s hs).1,(H6.o s hs).2.1⟩,hid (HK5.o.quiet (za.alloc _ _ _))⟩
   ·go_wp2_with fail
    go_meet;exact ⟨wd.heap.size,a,cp,k,t1,t2,rfl,rfl,hid (Jt HB.o _ _ _),hid fun s hs=>⟨(H6.o s hs).1,(H6.o s hs).2.1⟩,hid (HK5.o.trans (jh _ wd.heap.size _ _ _) (fun x hx hl=>by simp at hx;have:=HKD.o.size;omega))⟩
  case rest=>
   obtain ⟨b,a,cp,k,t1,t2,rfl,rfl,HB,HS,HKZ⟩:=hcut;have s0:=zc HB.o 0;have s1:=zc HB.o 1;clear c4 c5 e0;cases O with
   | none=>
    have HF:Box (ZG P=false):=hid HE.o;clear HE HS;go_wp2_with fail;go_ret;exact ⟨by rw[HF.o];rfl,HKZ.o⟩
   | some s=>
    obtain ⟨e1,e2⟩:=HS.o s rfl;have HF:Box (ZG P=(decide (k=0) && decide (t1=0))):=hid (by rw[HE.o,e1,e2]);clear HE HS e1 e2;by_cases hk:k=0
    ·have hk':((k:Int) == 0)=true:=eqb (by omega)
     have HG:Box (ZG P=(t1 == 0)):=hid (by rw[HF.o,hk];rfl);clear hk HF;go_wp2_with fail;go_ret;exact ⟨by rw[HG.o];rfl,HKZ.o⟩
    ·have hk':((k:Int) == 0)=false:=neb (by omega)
     have HG:Box (ZG P=false):=hid (by rw[HF.o];simp[hk]);clear hk HF;go_wp2_with fail;go_ret;exact ⟨by rw[HG.o];rfl,HKZ.o⟩
end Go.Proofs.YtgmbkiagdhjpnaaGreatDoor
