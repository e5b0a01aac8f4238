import Derived.Test.YtgmbkiagdhjpnaaGreatDoorUA1
import Derived.Test.YtgmbkiagdhjpnaaGreatDoorU31

namespace Go.Proofs.YtgmbkiagdhjpnaaGreatDoor
open Go.RowKit
open Go.Value (int pointer agg)
open Go.IntKind (i64)
set_option maxRecDepth 20000
set_option maxHeartbeats 8000000
variable {c fg n nb:Nat}{oi:Oper}{w:World}
def ClP(W0 w:World)(mp pp:Nat)(P:Pr8)(F:List Nat)(hb:Nat)(r:Int × Ma)(e:Ending)(w':World):Prop:=
 e=.returned (int i64 r.1)∧∃ F' fg' fc' rv' oa' oc' os' Fh',MaS W0 w' mp pp fg' P r.2 F' hb fc' rv' oa' oc' os' Fh'∧za F w w'∧ja w F F'
theorem OpP.cl{W0:World}{mp pp:Nat}{P:Pr8}{F:List Nat}{hb fc:Nat}{r:Int × Ma}{e:Ending}{w':World}(h:OpP W0 w mp pp fg P F hb fc r e w'):ClP W0 w mp pp P F hb r e w':=by
 obtain ⟨h1,F',rv',oa',oc',os',Fh',h2⟩:=h;exact ⟨h1,F',fg,fc,rv',oa',oc',os',Fh',h2⟩
section
variable {W0 w w':World}{mp pp fg:Nat}{P:Pr8}{m:Ma}{F:List Nat}{hb fc:Nat}{rv:Value}{oa:Option Addr}{oc:Nat}{os:List Ob}{Fh:List Nat}
theorem zek(h:MaS W0 w mp pp fg P m F hb fc rv oa oc os Fh)(x:In8)(xa:Option Addr)(xc:Nat)(ok:zlz P m x)(hn0:callee P m x=none):
  Calls Tryz.prog 85 #[pointer (some ⟨mp,0,none⟩),pointer (some ⟨fg,m.bot.length * 67,none⟩),zu x (.slice xa x.args.length xc)] w (ClP W0 w mp pp P F hb (Zw P m x)):=by
 have E:Box (Zw P m x=(1,m)):=hid (by unfold Zw;rw[hn0]);have ka:=za.alloc [] w (.cells #[int i64 x.op,int i64 x.dst,int i64 x.a,int i64 x.b,int i64 x.n,.slice xa x.args.length xc] 65);have KA:=hid ka;have H1:=hid (h.quiet ka);have hn:=ze w (.cells #[int i64 x.op,int i64 x.dst,int i64 x.a,int i64 x.b,int i64 x.n,.slice xa x.args.length xc] 65);have HN:=hid hn;have c0:=zc hn 0;have c1:=zc hn 1;have c2:=zc hn 2;have c3:=zc hn 3;have c4:=zc hn 4;have c5:=zc hn 5;have HC:=hid (ZP H1.o x (.slice xa x.args.length xc) ok.cal);rw[hn0] at HC;clear h ok ka hn hn0;unfold zu at *;go_enter Tryz.func85,Tryz.ntmps85;go_upto_region 1 with fail;generalize w.alloc (.cells #[int i64 x.op,int i64 x.dst,int i64 x.a,int i64 x.b,int i64 x.n,.slice xa x.args.length xc] 65)=w1 at *;go_wp2_with fail;refine HC.o.mono ?_;rintro e w2 ⟨rfl,k2⟩;have K2:=hid k2;have M2:=hid (H1.o.quiet k2);have HN2:=hid (zd HN.o k2);clear k2 HC c0 c1 c2 c3 c4 c5 HN;go_wp2_with fail;go_ret;exact (OpP.of (KA.o.quiet K2.o) M2.o (za.refl _ _) (ja.refl _ _) E.o).cl
theorem ze9(h:MaS W0 w mp pp fg P m F hb fc rv oa oc os Fh)(x:In8)(xa:Option Addr)(xc:Nat)(ok:zlz P m x){f:Int}(hn0:callee P m x=some f)(hfull:60≤m.bot.length+1):
  Calls Tryz.prog 85 #[pointer (some ⟨mp,0,none⟩),pointer (some ⟨fg,m.bot.length * 67,none⟩),zu x (.slice xa x.args.length xc)] w (ClP W0 w mp pp P F hb (Zw P m x)):=by
 have E:Box (Zw P m x=(6,m)):=hid (by unfold Zw;rw[hn0];exact if_pos hfull);have ka:=za.alloc [] w (.cells #[int i64 x.op,int i64 x.dst,int i64 x.a,int i64 x.b,int i64 x.n,.slice xa x.args.length xc] 65);have KA:=hid ka;have H1:=hid (h.quiet ka);have hn:=ze w (.cells #[int i64 x.op,int i64 x.dst,int i64 x.a,int i64 x.b,int i64 x.n,.slice xa x.args.length xc] 65);have HN:=hid hn;have c0:=zc hn 0;have c1:=zc hn 1;have c2:=zc hn 2;have c3:=zc hn 3;have c4:=zc hn 4;have c5:=zc hn 5;have HC:=hid (ZP H1.o x (.slice xa x.args.length xc) ok.cal);rw[hn0] at HC;have hge:(60:Int)≤(m.bot.length:Int)+1:=by omega
 clear h ok ka hn hn0;unfold zu at *;go_enter Tryz.func85,Tryz.ntmps85;go_upto_region 1 with fail;generalize w.alloc (.cells #[int i64 x.op,int i64 x.dst,int i64 x.a,int i64 x.b,int i64 x.n,.slice xa x.args.length xc] 65)=w1 at *;go_wp2_with fail;refine HC.o.mono ?_;rintro e w2 ⟨rfl,k2⟩;have K2:=hid k2;have M2:=hid (H1.o.quiet k2);have HN2:=hid (zd HN.o k2);clear k2 HC c0 c1 c2 c3 c4 c5 HN;have d4:=zc M2.o.box 4;go_wp2_with fail;go_ret;exact (OpP.of (KA.o.quiet K2.o) M2.o (za.refl _ _) (ja.refl _ _) E.o).cl
end
theorem zlD{ad:Addr}{v:Value}{ev:Operand→Value}{y:Operand}(hc:w.cell? ad=some v)(ho:oi.op=.load 100 y)(hy:ev y=.pointer (some ad)):(execOp ev oi).run Tryz.prog w=.ok (.value v) w:=by simp[execOp,ho,hy,go_sem,hc]
theorem zks{ad:Addr}{u:Value}{g:Option Addr}{ev:Operand→Value}{x y:Operand}(hc:w.cell? ad=some u)(hz:w.frozen? ad=false)(ho:oi.op=.store 100 x y)(hx:ev x=.pointer (some ad))(hy:ev y=.slice g n c):(execOp ev oi).run Tryz.prog w=.ok .skip (w.setCell ad (.slice g n c)):=by
 simp[execOp,ho,hx,hy,go_sem,hc,hz]
theorem zh6{y:Fr}(h:zT w (.slice (some ⟨nb,0,none⟩) n c) [y]):w.rangeAt nb 0 (frC y):=fun j v hv=>by
 have:=h.cell (j:=0) rfl hv;rw[Nat.zero_mul] at this;exact this
theorem QE{w':World}{cs:List Value}(h:w.rangeAt nb 0 cs)(hg:w.grownBy w' (some fg))(hn:nb≠fg):w'.rangeAt nb 0 cs:=fun j v hv=>by
 have:=h j v hv;have hl:nb<w.heap.size:=block_lt_of_cell this;rw[World.cell?_of_block (w:=w) (hg.block nb hl (fun e=>hn (Option.some.inj e)))];exact this
theorem QV{b:Nat}{cs:List Value}(h:w.rangeAt nb 0 cs)(hn:nb≠b)(o:Nat)(u:Value):(w.setCell ⟨b,o,none⟩ u).rangeAt nb 0 cs:=fun j v hv=>by
 have:=h j v hv;rw[World.cell?_of_block (w:=w) (heap_setCell_other _ _ _ _ hn)];exact this
theorem zdZ{ops:Array Oper}{Q:Exit→Act→World→Prop}{i d:Nat}{K:Act→World→Prop}{a:Act}(hi:ops.toList[i]? = some oi)(hd:oi.dst=some d)(hgd:oi.guard=none)(s x:Operand)(ho:oi.op=.call { callee:=.builtin .append,args:=#[s,x],argTypes:=#[100,100] })
  {n b:Nat}{fv:Value}{xs:List Value}(hs:a.eval s=fv) (own:w.ownsRow 0 99 67 fv n xs) (hx:a.eval x=.slice (some ⟨b,0,none⟩) 1 1) (y:Fr) (hy:y.rs.length=16) (hb:w.heap[b]? = some (.cells (frC y).toArray 99 (0,0))) (hn:n≤1000)
  (h:∀ g cap w',w'.ownsRow 0 99 67 (.slice (some ⟨g,0,none⟩) (n+1) cap) (n+1) (xs ++ frC y)→w.grownBy w' fv.ownBlock→(fv.ownBlock=some g∨g=w.heap.size)→K (a.put (some d) (.slice (some ⟨g,0,none⟩) (n+1) cap)) w'):wpOp Tryz.prog ops Q i K a w:=by
 rw[Array.getElem?_toList] at hi;rw[← hd] at h;obtain ⟨z,hz,hzs⟩:∃ z,Tryz.t99.zero=some z∧z.cells.size=67:=by
  have:=zdK;cases e:Tryz.t99.zero with
  | none=>rw[e] at this;simp at this
  | some z=>rw[e] at this;exact ⟨z,rfl,by simpa using this⟩
 refine wpOp_step hi (fun K' hK=> ?_);have hnews:=World.news_of_block hb;rw[List.toList_toArray] at hnews;exact step_append_lies w hgd s x _ ho 0 99 Tryz.t99 z 67 536 zbt zep hz zbw zmG hzs (by decide) fv n xs hs own ⟨b,0,none⟩ 1 1 (frC y) hx (by rw[qC hy]) hnews (zii y) (by omega) (by unfold maxLen;omega) (by omega) (Nat.zero_le _) w.heap.size rfl (fun g cap w' h1 h2 h3 _=>hK _ _ (h g cap w' h1 h2 h3))
section
variable {W0 w w':World}{mp pp fg:Nat}{P:Pr8}{m:Ma}{F:List Nat}{hb fc:Nat}{rv:Value}{oa:Option Addr}{oc:Nat}{os:List Ob}{Fh:List Nat}
theorem MaS.frsOwn(h:MaS W0 w mp pp fg P m F hb fc rv oa oc os Fh):w.ownsRow 0 99 67 (.slice (some ⟨fg,0,none⟩) (m.bot.length+1) fc) (m.bot.length+1) ((m.bot ++ [m.top]).flatMap frC):=by
 have:=h.frs.own
 rwa [List.length_append] at this
theorem zhN{w:World}{fg g n c:Nat}{o:Obj}(h:(Value.slice (some ⟨fg,0,none⟩) n c).ownBlock=some g∨g=(w.alloc o).heap.size):fg=g∨(w.alloc o).heap.size≤g:=h.imp (fun e=>Option.some.inj e) (fun e=>Nat.le_of_eq e.symm)
theorem MaS.pushBox(h:MaS W0 w mp pp fg P m F hb fc rv oa oc os Fh){wa w5:World}(ka:za [] w wa)(hg:wa.grownBy w5 (some fg)):w5.heap[mp]? = some (.cells (jk m pp hb fg fc rv oa oc) 104 (0,0)):=by
 have:=zd h.box ka;rw[hg.block mp (zt this) (fun e=>h.rv_ne.1 (Option.some.inj e))];exact this
end
section
variable {W0 w w':World}{mp pp fg:Nat}{P:Pr8}{m:Ma}{F:List Nat}{hb fc:Nat}{rv:Value}{oa:Option Addr}{oc:Nat}{os:List Ob}{Fh:List Nat}
theorem zhf{w:World}{nb:Nat}{y:Fr}(h:zT w (.slice (some ⟨nb,0,none⟩) 1 1) [y])(v:V3){r:Nat}(hr:r<16):Calls Tryz.prog 136 #[pointer (some ⟨nb,0,none⟩),int i64 (r:Int),vlV v] w fun e w'=>e=.returned (.tuple #[])∧zT w' (.slice (some ⟨nb,0,none⟩) 1 1) [y.set (r:Int) v]∧za [nb] w w':=by
 have sz:=h.sz y (List.mem_singleton.2 rfl);obtain ⟨q,hq⟩:∃ q,y.rs[r]? = some q:=⟨_,List.getElem?_eq_getElem (by omega)⟩;have e:∀ k,0 * 67+(3+r * 4+k)=0+3+r * 4+k:=fun k=>by omega
 have g:∀ k,k<4→∀ u,(rgC q)[k]? = some u→w.cell? ⟨nb,0+3+r * 4+k,none⟩=some u:=fun k hk u hu=>by
  rw[← e];exact h.cell (j:=0) rfl ((zeq hq hk).trans hu)
 refine (zbJ v hr (g 0 (by omega) _ rfl) (g 1 (by omega) _ rfl) (g 2 (by omega) _ rfl) (g 3 (by omega) _ rfl) h.thaw).mono ?_;rintro e1 w' ⟨rfl,w1,k1,k2⟩;have f:=(h.quiet k1).set (j:=0) rfl hr v;rw[e,e,e,e,Nat.add_zero] at f;exact ⟨rfl,f.quiet k2,((k1.mono fun _ hx=>by cases hx).step (((za.setCell [nb] _ _ _ (List.mem_singleton.2 rfl)).step (za.setCell [nb] _ _ _ (List.mem_singleton.2 rfl))).step (za.setCell [nb] _ _ _ (List.mem_singleton.2 rfl)) |>.step (za.setCell [nb] _ _ _ (List.mem_singleton.2 rfl)))).quiet k2⟩
theorem zaG(w:World)(f:Nat):zT (w.alloc (.cells (frC (fr0 f)).toArray 99)) (.slice (some ⟨w.heap.size,0,none⟩) 1 1) [fr0 f]:=by
 refine ⟨?_,fun z hz=>by rw[List.mem_singleton.1 hz];exact List.length_replicate⟩;have:=World.ownsRow_lit (base:=0) (e:=99) (size:=67) w (frC (fr0 f)).toArray 1 (Nat.zero_le _) (by unfold maxLen;omega) (by rw[List.size_toArray,qC List.length_replicate]);rw[List.toList_toArray] at this;rw[List.flatMap_singleton];exact this
structure NxI (wb wr:World) (nb:Nat) (m:Ma) (f:Nat) (l:List Int) (k:Nat) (y:Fr):Prop where
 keeps:za [] wb wr
 fr:zT wr (.slice (some ⟨nb,0,none⟩) 1 1) [y]
 fill:jl m.top k y (l.drop k)=jl m.top 0 (fr0 f) l
 new:wb.heap.size≤nb
theorem zej(h:MaS W0 w mp pp fg P m F hb fc rv oa oc os Fh)(x:In8)(xa:Option Addr)(xc:Nat)(hz:∀ w1,za [] w w1→zv w1 xa x.args)(ok:zlz P m x){f:Nat}(hn0:callee P m x=some (f:Int))(hroom:m.bot.length+1<60):
  Calls Tryz.prog 85 #[pointer (some ⟨mp,0,none⟩),pointer (some ⟨fg,m.bot.length * 67,none⟩),zu x (.slice xa x.args.length xc)] w (ClP W0 w mp pp P F hb (Zw P m x)):=by
 have E:Box (Zw P m x=(0,{ m with bot:=m.bot ++ [m.top],top:=jl m.top 0 (fr0 f) (zx x),lc:=true,lf:=(f:Int) })):=hid (by unfold Zw;rw[hn0];exact if_neg (by omega));have ka:=za.alloc [] w (.cells #[int i64 x.op,int i64 x.dst,int i64 x.a,int i64 x.b,int i64 x.n,.slice xa x.args.length xc] 65);have KA:=hid ka;have H1:=hid (h.quiet ka);have hn:=ze w (.cells #[int i64 x.op,int i64 x.dst,int i64 x.a,int i64 x.b,int i64 x.n,.slice xa x.args.length xc] 65);have HN:=hid hn;have c0:=zc hn 0;have c1:=zc hn 1;have c2:=zc hn 2;have c3:=zc hn 3;have c4:=zc hn 4;have c5:=zc hn 5;have HC:=hid (ZP H1.o x (.slice xa x.args.length xc) ok.cal);rw[hn0] at HC;have hge:¬ (60:Int)≤(m.bot.length:Int)+1:=by omega
 have HP:=hid fun (w':World) (k:za [] w w')=>zcL x xa xc (hz w' k) ok.arg;have OK:=hid ok;have HZ0:=hid (hz w (za.refl _ _));have hlen:=ok.len;obtain ⟨n,hN⟩:∃ n,n=(zx x).length:=⟨_,rfl⟩;have HL:=hid hN;rw[← hN] at hlen;simp only[← hN] at HP;have hst:∀ w':World,(storeCells ⟨w'.heap.size,0,none⟩ (((Tryz.zeroCells99.toList.set 0 (int i64 (f:Int))).set 1 (int i64 0)).set 2 (int i64 0))).run Tryz.prog (w'.alloc (.cells Tryz.zeroCells99 99))=.ok () (w'.alloc (.cells (frC (fr0 f)).toArray 99)):=fun w'=>by
  have e:((Tryz.zeroCells99.toList.set 0 (int i64 (f:Int))).set 1 (int i64 0)).set 2 (int i64 0)=(frC (fr0 f)).toArray.toList:=by rfl
  rw[e];exact run_storeCells_new w' 99 _ _ (by rw[List.size_toArray,qC List.length_replicate];exact zif) ((by kernel_rfl:Tryz.zeroCells99.size=67).trans (by rw[List.size_toArray,qC List.length_replicate])) (all_oneCell_toArray (zii _))
 clear h ok hz ka hn hn0 hN;unfold zu at *;go_enter Tryz.func85,Tryz.ntmps85;go_upto_region 1 with fail;generalize w.alloc (.cells #[int i64 x.op,int i64 x.dst,int i64 x.a,int i64 x.b,int i64 x.n,.slice xa x.args.length xc] 65)=w1 at *;go_wp2_with fail;refine HC.o.mono ?_;rintro e w2 ⟨rfl,k2⟩;have K2:=hid k2;have M2:=hid (H1.o.quiet k2);have HN2:=hid (zd HN.o k2);clear k2 HC c0 c1 c2 c3 c4 c5 HN;have d4:=zc M2.o.box 4;have b0:=zc HN2.o 0;have b1:=zc HN2.o 1;have b2:=zc HN2.o 2;have b3:=zc HN2.o 3;have b4:=zc HN2.o 4;have b5:=zc HN2.o 5;go_upto_region 7 with fail;have G0:Box (NxI w2 (w2.alloc (.cells (frC (fr0 f)).toArray 99)) w2.heap.size m f (zx x) 0 (fr0 f)):=hid ⟨za.alloc [] _ _,zaG w2 f,rfl,Nat.le_refl _⟩;clear hst;generalize w2.alloc (.cells (frC (fr0 f)).toArray 99)=w3 at *;have HN3:=hid (zd HN2.o G0.o.keeps);have M3:=hid (M2.o.quiet G0.o.keeps);have G0L:Box (w2.heap.size<w3.heap.size):=hid (G0.o.fr.own.lt _ rfl).2;have HP3:=hid (HP.o w3 ((KA.o.quiet K2.o).quiet G0.o.keeps));have b0:=zc HN3.o 0;have b1:=zc HN3.o 1;have b2:=zc HN3.o 2;have b3:=zc HN3.o 3;have b4:=zc HN3.o 4;have b5:=zc HN3.o 5;clear HP HN2 HN3 d4 M3;obtain ⟨nb,hnb⟩:∃ nb,nb=w2.heap.size:=⟨_,rfl⟩;rw[← hnb] at G0 ⊢;have HNB:=hid hnb;clear hnb;go_wp2_with fail;refine HP3.o.mono ?_;rintro e w4 ⟨pa,pc,rfl,h4,k4,f4⟩;have G1:Box (NxI w2 w4 nb m f (zx x) 0 (fr0 f)):=hid ⟨G0.o.keeps.quiet k4,G0.o.fr.quiet k4,rfl,G0.o.new⟩;have HI:=hid h4;have FI:=hid f4;clear b0 b1 b2 b3 b4 b5 HP3 h4 k4 f4 G0;go_wp2_with fail;have PNE:Box (0<n→∀ b off,pa=some ⟨b,off,none⟩→b≠nb):=hid fun hn0 b off e hb9=>by
  rcases FI.o with ⟨e1,e2⟩ | e1
  ·rcases HZ0.o with e3 | ⟨b',off',e3,hc⟩
   ·have:=HL.o
    rw[e2,e3] at this;simp at this;omega
   ·rw[e1,e3] at e
    obtain ⟨rfl,rfl⟩:b'=b∧off'=off:=by
     simp at e;exact e
    have hp:0<x.args.length:=by have:=HL.o;rw[e2] at this;omega
    have h1:b'<w.heap.size:=block_lt_of_cell (hc 0 hp);have h2:=(KA.o.quiet K2.o).size;have h3:=HNB.o;omega
  ·have h1:=e1 b off e
   have h2:=G0L.o;have h3:=HNB.o;omega
 clear FI HZ0
 go_loopw [33] (fun iv wr=>∃ (k:Nat) (y:Fr),k≤n∧iv=int i64 (k:Int)∧Box (NxI w2 wr nb m f (zx x) k y)∧Box (za [nb] w4 wr)) (fun iv _=>n - (intOf iv).toNat)
 case atStart=>exact ⟨0,fr0 f,by omega,rfl,G1,hid (za.refl _ _)⟩
 case round=>
  obtain ⟨k,y,hk,rfl,HR,HK⟩:=hrel;by_cases hlt:k<n
  ·have hlt':(k:Int)<(n:Int):=by omega
   have HIr:Box (zv wr pa (zx x)):=hid (HI.o.kept HK.o (fun b off e hm=>PNE.o (by omega) b off e (List.mem_singleton.1 hm)));have hr:=jm (l:=zx x) (k:=k) 0 (by rw[← HL.o];exact hlt);obtain ⟨ab,ao,hpa,ac⟩:∃ ab ao,pa=some ⟨ab,ao,none⟩∧wr.cell? ⟨ab,ao+k,none⟩=some (int i64 ((zx x).getD k 0)):=by
    rcases HIr.o with e | ⟨ab,ao,e,hc⟩
    ·rw[e] at hr
     simp at hr
    ·exact ⟨ab,ao,e,hc k (by rw[← HL.o];exact hlt)⟩
   subst hpa;have HRG:=hid (OK.o.pas _ (List.mem_of_getElem? hr));have HR9:=hid hr;generalize (zx x).getD k 0=r at *;have HG:=hid (qc (M2.o.quiet HR.o.keeps) HRG.o.1 HRG.o.2);have hk16:k<16:=by omega
   clear hr;go_wp2_with fail;refine HG.o.mono ?_;rintro e5 w5 ⟨rfl,k5⟩;have F5:=hid (HR.o.fr.quiet k5);have K5:=hid k5;clear HG k5 ac;go_wp2_with fail;refine (zhf F5.o (m.top.get r) hk16).mono ?_;rintro e6 w6 ⟨rfl,f6,k6⟩
   have G6:Box (NxI w2 w6 nb m f (zx x) (k+1) (y.set (k:Int) (m.top.get r))):=hid ⟨(HR.o.keeps.quiet K5.o).trans k6 (fun z hz hl=>by rw[List.mem_singleton.1 hz] at hl;have:=HR.o.new;omega),f6,by
    have:=HR.o.fill;rw[List.drop_eq_getElem_cons (by rw[← HL.o];exact hlt),(List.getElem?_eq_some_iff.1 HR9.o).2,jl] at this
    exact this,HR.o.new⟩
   have K6:=hid (((HK.o.quiet K5.o).step k6));clear f6 k6 F5 K5 HR HK;go_wp2_with fail;go_roundw
   case rel=>exact ⟨k+1,_,by omega,by go_num,G6,K6⟩
   case measure=>simp[intOf];omega
  ·obtain rfl:n=k:=by omega
   have HY:Box (y=jl m.top 0 (fr0 f) (zx x)):=hid (by
    have:=HR.o.fill;rw[List.drop_eq_nil_of_le (by rw[← HL.o];exact Nat.le_refl _)] at this
    exact this)
   have MR:=hid (M2.o.quiet HR.o.keeps);have hyl:y.rs.length=16:=HR.o.fr.sz y (List.mem_singleton.2 rfl);have RG:Box (wr.rangeAt nb 0 (frC y)):=hid (zh6 HR.o.fr);have d4:=zc MR.o.box 4;have z4:=zg MR.o.box 4;have KR:=hid HR.o.keeps;have NEW:=hid HR.o.new;have HNBF:Box (nb≠fg):=hid fun e=>by
    have:=M2.o.lt fg M2.o.fg_in;have:=HR.o.new;omega
   clear HR HK G1 HI PNE G0L HNB HL hge b0 b1 b2 b3 b4 b5;go_upto_region 12 with fail;refine wp_region_held_drew (S:=fun w'=>w'.rangeAt nb 0 (frC y)) (by kernel_rfl) RG.o (fun _=> ?_);have MD:=hid (MR.o.quiet (za.drew [] wr));have RD:Box (wr.drew.rangeAt nb 0 (frC y)):=hid RG.o;have KD:=hid (KR.o.quiet (za.drew [] wr));have hn1k:m.bot.length+1≤1000:=by omega
   have HNBM:Box (nb≠mp):=hid fun e=>by
    have:=M2.o.lt mp M2.o.mp_in;have:=NEW.o;omega
   clear MR RG d4 z4 KR;generalize wr.drew=wd at *;refine zC (i:=0) (d:=44) (v:=pointer (some ⟨mp,0,none⟩)) rfl rfl (by as_aux_lemma=>kernel_rfl) (by as_aux_lemma=>kernel_rfl) (by as_aux_lemma=>kernel_rfl) (fun _ _ _ h=>h) (by rfl) RD.o (fun _ _=>rfl) ?_;simp only[Act.put,sTA,sC0,sCS];refine zC (i:=1) (d:=45) (v:=pointer (some ⟨mp,0,none⟩)) rfl rfl (by as_aux_lemma=>kernel_rfl) (by as_aux_lemma=>kernel_rfl) (by as_aux_lemma=>kernel_rfl) (fun _ _ _ h=>h) (by rfl) RD.o (fun _ _=>rfl) ?_;simp only[Act.put,sTA,sC0,sCS];refine zC (i:=2) (d:=46) (v:=pointer (some ⟨mp,0,none⟩)) rfl rfl (by as_aux_lemma=>kernel_rfl) (by as_aux_lemma=>kernel_rfl) (by as_aux_lemma=>kernel_rfl) (fun _ _ _ h=>h) (by rfl) RD.o (fun _ _=>rfl) ?_;simp only[Act.put,sTA,sC0,sCS];refine zC (i:=3) (d:=47) (v:=pointer (some ⟨mp,4,none⟩)) rfl rfl (by as_aux_lemma=>kernel_rfl) (by as_aux_lemma=>kernel_rfl) (by as_aux_lemma=>kernel_rfl) (fun _ _ _ h=>h) (by rfl) RD.o (fun _ _=>rfl) ?_;simp only[Act.put,sTA,sC0,sCS];refine zC (i:=5) (d:=49) (v:=.agg (frC y).toArray) rfl rfl (by as_aux_lemma=>kernel_rfl) (by as_aux_lemma=>kernel_rfl) (by as_aux_lemma=>kernel_rfl) (fun _ _ _ h=>h) (by rfl) RD.o (fun _ h9=>zlb h9 hyl rfl rfl) ?_;simp only[Act.put,sTA,sC0,sCS];refine zbU (i:=4) (j:=6) (by as_aux_lemma=>kernel_rfl) ?_ ?_
   ·as_aux_lemma=>
     refine zR (i:=4) rfl (by rfl) (zlD (zc MD.o.box 4) rfl rfl) ?_;refine ⟨RD.o,?_⟩;simp only[Act.put,sTA,sC0,sCS];refine zL (i:=6) (by as_aux_lemma=>kernel_rfl) ?_;refine zR (i:=6) rfl (by rfl) (zhX hyl rfl rfl) ?_;have MA:=hid (MD.o.quiet (za.alloc [] wd (.cells (frC y).toArray 99)));have UB:=hid (ze wd (.cells (frC y).toArray 99));have OW:=hid MA.o.frsOwn;have RA:Box ((wd.alloc (.cells (frC y).toArray 99)).rangeAt nb 0 (frC y)):=hid (World.rangeAt_alloc RD.o _);refine ⟨RA.o,?_⟩;simp only[Act.put,sTA,sC0,sCS];refine zL (i:=7) (by as_aux_lemma=>kernel_rfl) ?_;refine zdZ (i:=7) (d:=51) rfl rfl rfl _ _ rfl rfl OW.o rfl y hyl UB.o hn1k ?_;intro g8 c8 w8 own8 hg8 hl8;have BX:=MD.o.pushBox (za.alloc [] wd (.cells (frC y).toArray 99)) hg8;have RP:=MD.o.push (za.alloc [] wd (.cells (frC y).toArray 99)) hyl own8 hg8 (zhN hl8);have R8:Box (w8.rangeAt nb 0 (frC y)):=hid (QE RA.o hg8 HNBF.o);refine ⟨R8.o,?_⟩;simp only[Act.put,sTA,sC0,sCS];refine zL (i:=8) (by as_aux_lemma=>kernel_rfl) ?_;refine zR (i:=8) (v:=pointer (some ⟨mp,0,none⟩)) rfl (by rfl) rfl ?_;refine ⟨R8.o,?_⟩;simp only[Act.put,sTA,sC0,sCS];refine zL (i:=9) (by as_aux_lemma=>kernel_rfl) ?_;refine zR (i:=9) (v:=pointer (some ⟨mp,4,none⟩)) rfl (by rfl) rfl ?_;refine ⟨R8.o,?_⟩;simp only[Act.put,sTA,sC0,sCS];refine zL (i:=10) (by as_aux_lemma=>kernel_rfl) ?_;refine QF (i:=10) rfl (by rfl) (zks (zc BX 4) (zg BX 4) rfl rfl rfl) ?_;refine ⟨?_,?_⟩
     ·exact QV R8.o HNBM.o _ _
     simp only[Act.put];refine wpAnyH_done (by as_aux_lemma=>kernel_rfl) ?_ _;have MP:=hid RP.1;have KP:=hid RP.2.1;have NP:=hid RP.2.2;clear RP BX R8 own8 hg8 hl8 UB RA OW MA RD;generalize w8.setCell ⟨mp,4,none⟩ (.slice (some ⟨g8,0,none⟩) (m.bot.length+1+1) c8)=w9 at *;have p5:=zc MP.o.box 5;have p6:=zc MP.o.box 6;have z5:=zg MP.o.box 5;have z6:=zg MP.o.box 6;go_wp2_with fail;go_ret;have M9:=MP.o.bx (m':={ m with bot:=m.bot ++ [m.top],top:=y,lc:=true,lf:=(f:Int) }) ((za.setCell [mp] _ _ _ (List.mem_singleton.2 rfl)).step (za.setCell [mp] _ _ _ (List.mem_singleton.2 rfl))) (heap_setCell_same _ mp 6 _ _ (int i64 (f:Int)) (heap_setCell_same _ mp 5 _ _ (.bool true) MP.o.box)) rfl rfl rfl rfl id MP.o.ocap;refine ⟨by rw[E.o];rfl,F ++ [g8],g8,c8,rv,oa,oc,os,Fh,?_,(((KA.o.quiet K2.o).quiet KD.o).up (F:=F)).step (KP.o.step ((za.setCell F _ _ _ M2.o.mp_in).step (za.setCell F _ _ _ M2.o.mp_in))),fun z hz=>(NP.o z hz).imp id (Nat.le_trans ((KA.o.quiet K2.o).quiet KD.o).size)⟩;rw[E.o, ← HY.o];exact M9
   ·as_aux_lemma=>
     refine zR (i:=6) rfl (by rfl) (zhX hyl rfl rfl) ?_;have MA:=hid (MD.o.quiet (za.alloc [] wd (.cells (frC y).toArray 99)));have UB:=hid (ze wd (.cells (frC y).toArray 99));have OW:=hid MA.o.frsOwn;have RA:Box ((wd.alloc (.cells (frC y).toArray 99)).rangeAt nb 0 (frC y)):=hid (World.rangeAt_alloc RD.o _);refine ⟨RA.o,?_⟩;simp only[Act.put,sTA,sC0,sCS];refine zL (i:=4) (by as_aux_lemma=>kernel_rfl) ?_;refine zR (i:=4) rfl (by rfl) (zlD (zc MA.o.box 4) rfl rfl) ?_;refine ⟨RA.o,?_⟩;simp only[Act.put,sTA,sC0,sCS];refine zL (i:=7) (by as_aux_lemma=>kernel_rfl) ?_;refine zdZ (i:=7) (d:=51) rfl rfl rfl _ _ rfl rfl OW.o rfl y hyl UB.o hn1k ?_;intro g8 c8 w8 own8 hg8 hl8;have BX:=MD.o.pushBox (za.alloc [] wd (.cells (frC y).toArray 99)) hg8;have RP:=MD.o.push (za.alloc [] wd (.cells (frC y).toArray 99)) hyl own8 hg8 (zhN hl8);have R8:Box (w8.rangeAt nb 0 (frC y)):=hid (QE RA.o hg8 HNBF.o);refine ⟨R8.o,?_⟩;simp only[Act.put,sTA,sC0,sCS];refine zL (i:=8) (by as_aux_lemma=>kernel_rfl) ?_;refine zR (i:=8) (v:=pointer (some ⟨mp,0,none⟩)) rfl (by rfl) rfl ?_;refine ⟨R8.o,?_⟩;simp only[Act.put,sTA,sC0,sCS];refine zL (i:=9) (by as_aux_lemma=>kernel_rfl) ?_;refine zR (i:=9) (v:=pointer (some ⟨mp,4,none⟩)) rfl (by rfl) rfl ?_;refine ⟨R8.o,?_⟩;simp only[Act.put,sTA,sC0,sCS];refine zL (i:=10) (by as_aux_lemma=>kernel_rfl) ?_;refine QF (i:=10) rfl (by rfl) (zks (zc BX 4) (zg BX 4) rfl rfl rfl) ?_;refine ⟨?_,?_⟩
     ·exact QV R8.o HNBM.o _ _
     simp only[Act.put];refine wpAnyH_done (by as_aux_lemma=>kernel_rfl) ?_ _;have MP:=hid RP.1;have KP:=hid RP.2.1;have NP:=hid RP.2.2;clear RP BX R8 own8 hg8 hl8 UB RA OW MA RD;generalize w8.setCell ⟨mp,4,none⟩ (.slice (some ⟨g8,0,none⟩) (m.bot.length+1+1) c8)=w9 at *;have p5:=zc MP.o.box 5;have p6:=zc MP.o.box 6;have z5:=zg MP.o.box 5;have z6:=zg MP.o.box 6;go_wp2_with fail;go_ret;have M9:=MP.o.bx (m':={ m with bot:=m.bot ++ [m.top],top:=y,lc:=true,lf:=(f:Int) }) ((za.setCell [mp] _ _ _ (List.mem_singleton.2 rfl)).step (za.setCell [mp] _ _ _ (List.mem_singleton.2 rfl))) (heap_setCell_same _ mp 6 _ _ (int i64 (f:Int)) (heap_setCell_same _ mp 5 _ _ (.bool true) MP.o.box)) rfl rfl rfl rfl id MP.o.ocap;refine ⟨by rw[E.o];rfl,F ++ [g8],g8,c8,rv,oa,oc,os,Fh,?_,(((KA.o.quiet K2.o).quiet KD.o).up (F:=F)).step (KP.o.step ((za.setCell F _ _ _ M2.o.mp_in).step (za.setCell F _ _ _ M2.o.mp_in))),fun z hz=>(NP.o z hz).imp id (Nat.le_trans ((KA.o.quiet K2.o).quiet KD.o).size)⟩;rw[E.o, ← HY.o];exact M9
end
structure zie (P:Pr8) (m:Ma):Prop where
 pt:ZM P m.top.f m.top.b m.top.i
 bot:m.bot.length≤100
 big:m.top.i≤1000000
 en:m.top.i=(m.top.blk P).code.length→zld P m (m.top.blk P)
 cl:m.top.i≠(m.top.blk P).code.length→qk (m.top.ins P)=true→zlz P m (m.top.ins P)
 rg:m.top.i≠(m.top.blk P).code.length→qk (m.top.ins P)=false→zaY (m.top.ins P)∧((m.top.ins P).op=5→zkU P m (m.top.ins P))∧((m.top.ins P).op=1∨(m.top.ins P).op=2∨(m.top.ins P).op=3∨(m.top.ins P).op=4∨(m.top.ins P).op=5∨(m.top.ins P).op=6∨(m.top.ins P).op=7∨(m.top.ins P).op=8∨(m.top.ins P).op=9∨(m.top.ins P).op=10∨(m.top.ins P).op=11∨(m.top.ins P).op=15)
section
variable {W0 w w':World}{mp pp fg:Nat}{P:Pr8}{m:Ma}{F:List Nat}{hb fc:Nat}{rv:Value}{oa:Option Addr}{oc:Nat}{os:List Ob}{Fh:List Nat}
theorem zeH(h:MaS W0 w mp pp fg P m F hb fc rv oa oc os Fh)(hsm:Sm8 P)(x:In8)(ax:Value)(ok:zaY x∧(x.op=5→zkU P m x)∧(x.op=1∨x.op=2∨x.op=3∨x.op=4∨x.op=5∨x.op=6∨x.op=7∨x.op=8∨x.op=9∨x.op=10∨x.op=11∨x.op=15)):
  Calls Tryz.prog 86 #[pointer (some ⟨mp,0,none⟩),pointer (some ⟨fg,m.bot.length * 67,none⟩),zu x ax] w (OpP W0 w mp pp fg P F hb fc (qr P m x)):=by
 obtain ⟨r,a,e⟩:=ok;rcases e with e | e | e | e | e | e | e | e | e | e | e | e
 ·exact zmg h x ax e r
 ·exact zmK h x ax e r
 ·exact zma h x ax e r
 ·exact zmh h x ax e r
 ·exact zmC h x ax e r hsm (a e)
 ·exact zmP h x ax e r
 ·exact zmb h x ax e r
 ·exact zmu h x ax e r
 ·exact zmD h x ax e r
 ·exact zlt h x ax e r
 ·exact zlC h x ax e r
 ·exact zkz h x ax e r
theorem zgE(h:MaS W0 w mp pp fg P m F hb fc rv oa oc os Fh)(x:In8)(xa:Option Addr)(xc:Nat)(hz:∀ w1,za [] w w1→zv w1 xa x.args)(ok:zlz P m x):
  Calls Tryz.prog 85 #[pointer (some ⟨mp,0,none⟩),pointer (some ⟨fg,m.bot.length * 67,none⟩),zu x (.slice xa x.args.length xc)] w (ClP W0 w mp pp P F hb (Zw P m x)):=by
 cases e:callee P m x with
 | none=>exact zek h x xa xc ok e
 | some f=>
  by_cases hf:60≤m.bot.length+1
  ·exact ze9 h x xa xc ok e hf
  ·obtain ⟨k,rfl⟩:∃ k:Nat,f=(k:Int):=⟨f.toNat,by have:=ok.fun0 f e;omega⟩
   exact zej h x xa xc hz ok e (by omega)
theorem zbW(P:Pr8)(m:Ma)(x:In8):(qr P m x).2.bot=m.bot∧(qr P m x).2.top.f=m.top.f∧(qr P m x).2.top.b=m.top.b∧(qr P m x).2.top.i=m.top.i:=by
 have ite9:∀ {c:Prop} [Decidable c] {a b:Int × Ma},(a.2.bot=m.bot∧a.2.top.f=m.top.f∧a.2.top.b=m.top.b∧a.2.top.i=m.top.i)→(b.2.bot=m.bot∧b.2.top.f=m.top.f∧b.2.top.b=m.top.b∧b.2.top.i=m.top.i)→((if c then a else b).2.bot=m.bot∧(if c then a else b).2.top.f=m.top.f∧(if c then a else b).2.top.b=m.top.b∧(if c then a else b).2.top.i=m.top.i):=by
  intro c _ a b ha hb;split
  ·exact ha
  ·exact hb
 unfold qr
 repeat' first | exact ⟨rfl,rfl,rfl,rfl⟩ | apply ite9
theorem zfv{x:In8}(h:qk x=false):(x.op == 12)=false∧(x.op == 13)=false∧(x.op == 14)=false:=by
 unfold qk at h;simp at h;exact ⟨neb h.1.1,neb h.1.2,neb h.2⟩
theorem zkG(h:MaS W0 w mp pp fg P m F hb fc rv oa oc os Fh)(ok:zie P m)(hi:m.top.i=(m.top.blk P).code.length):
  Calls Tryz.prog 50 #[pointer (some ⟨mp,0,none⟩)] w (ClP W0 w mp pp P F hb (doS P m)):=by
 have E:Box (doS P m=zcn P m (m.top.blk P)):=hid (if_pos hi);have HT:=hid (jY h ok.bot);obtain ⟨bb,bo,bl,hbk⟩:=Qy h ok.pt;have HB:=hid hbk;have BL:=hid bl;obtain ⟨ca,cp,q0,_⟩:=bl.c0;have Q0:=hid q0;have EN:=hid (ok.en hi);have H:=hid h;have hi9:Box (m.top.i=(m.top.blk P).code.length):=hid hi;clear h ok bl hbk q0;go_enter Tryz.func50,Tryz.ntmps50;go_wp2_with fail;refine HT.o.mono ?_;rintro e1 w1 ⟨rfl,k1⟩;have K1:=hid k1;clear HT k1;go_wp2_with fail;refine (HB.o _ K1.o).mono ?_;rintro e2 w2 ⟨rfl,k2⟩;have K2:=hid (K1.o.quiet k2);have M2:=hid (H.o.quiet K2.o);have c0:=M2.o.now _ _ Q0.o;have p2:=M2.o.pt.2.2;rw[hi9.o] at p2;clear HB k2 K1 hi;go_upto_region 3 with fail;go_quiet (fail);have eqn:(((m.top.blk P).code.length:Int) == ((m.top.blk P).code.length:Int))=true:=by simp
 have M3:=hid (M2.o.quiet (za.drewN [] w2 nq));have K3:=hid (K2.o.quiet (za.drewN [] w2 nq));have HE:=hid (zhb M3.o BL.o EN.o);clear c0 p2;go_wp2_with fail;refine HE.o.mono ?_;rintro e3 w3 ⟨rfl,F3,rv3,oa3,oc3,os3,Fh3,m3,k3,n3⟩;have MX:=hid m3;have KX:=hid k3;have NX:=hid n3;clear m3 k3 n3 HE;rw[← E.o] at *;generalize doS P m=r at *;obtain ⟨y,m'⟩:=r;go_wp2_with fail;go_ret;exact (OpP.of K3.o MX.o KX.o NX.o rfl).cl
theorem zjQ(h:MaS W0 w mp pp fg P m F hb fc rv oa oc os Fh)(ok:zie P m)(hi:m.top.i≠(m.top.blk P).code.length)(hc:qk (m.top.ins P)=true):
  Calls Tryz.prog 50 #[pointer (some ⟨mp,0,none⟩)] w (ClP W0 w mp pp P F hb (doS P m)):=by
 have E:Box (doS P m=Zw P m (m.top.ins P)):=hid (by unfold doS;rw[if_neg hi,if_pos hc]);have HT:=hid (jY h ok.bot);obtain ⟨bb,bo,bl,hbk⟩:=Qy h ok.pt;have HB:=hid hbk;obtain ⟨ca,cp,q0,q1,_⟩:=bl.c0;have hlt:m.top.i<(m.top.blk P).code.length:=by have:=ok.pt.2.2;unfold Fr.blk at *;omega
 have hltz:(m.top.i:Int)<((m.top.blk P).code.length:Int):=by omega
 obtain ⟨cb,co,hca,q2⟩:=q1.at (zfO hlt);subst hca;have q2':InC W0 cb (co+m.top.i * 6) (m.top.ins P):=q2;have hne:((m.top.i:Int) == ((m.top.blk P).code.length:Int))=false:=neb (by omega);have CL:=hid (ok.cl hi hc);have hop:(m.top.ins P).op=12∨(m.top.ins P).op=13∨(m.top.ins P).op=14:=by unfold qk at hc;simp at hc;rcases hc with (e | e) | e <;> simp[e]
 have HOP:=hid hop;clear hc hop;generalize m.top.ins P=x at *;obtain ⟨xa,xc,q3,q4,_⟩:=q2'.c5;have QQ:=hid fun (w':World) (s:Sub W0 w')=>(show w'.cell? ⟨bb,bo,none⟩=some (.slice (some ⟨cb,co,none⟩) (m.top.blk P).code.length cp)∧w'.cell? ⟨cb,co+m.top.i * 6,none⟩=some (int i64 x.op)∧w'.cell? ⟨cb,co+m.top.i * 6+1,none⟩=some (int i64 x.dst)∧w'.cell? ⟨cb,co+m.top.i * 6+2,none⟩=some (int i64 x.a)∧w'.cell? ⟨cb,co+m.top.i * 6+3,none⟩=some (int i64 x.b)∧w'.cell? ⟨cb,co+m.top.i * 6+4,none⟩=some (int i64 x.n)∧w'.cell? ⟨cb,co+m.top.i * 6+5,none⟩=some (.slice xa x.args.length xc) from ⟨s _ _ q0,s _ _ q2'.c0.1,s _ _ q2'.c1.1,s _ _ q2'.c2.1,s _ _ q2'.c3.1,s _ _ q2'.c4.1,s _ _ q3⟩);have QA:=hid fun (w':World) (s:Sub W0 w')=>q8 (q4.sub zI.sub s);have H:=hid h;clear h ok bl hbk q0 q1 q2 q2' q3 q4 hi hlt;generalize (m.top.blk P).code.length=L at *;go_enter Tryz.func50,Tryz.ntmps50;go_wp2_with fail;refine HT.o.mono ?_;rintro e1 w1 ⟨rfl,k1⟩;have K1:=hid k1;clear HT k1;go_wp2_with fail;refine (HB.o _ K1.o).mono ?_;rintro e2 w2 ⟨rfl,k2⟩;have K2:=hid (K1.o.quiet k2);have M2:=hid (H.o.quiet K2.o);obtain ⟨c0,d0,d1,d2,d3,d4,d5⟩:=QQ.o _ M2.o.now;have p2:=M2.o.pt.2.2;clear HB k2 K1;go_upto_region 3 with fail;go_quiet (fail);have M3:=hid (M2.o.quiet (za.drewN [] w2 nq));have K3:=hid (K2.o.quiet (za.drewN [] w2 nq));clear c0 p2 d0 d1 d2 d3 d4 d5 M2;generalize w2.drewN nq=w3 at *;obtain ⟨c0,d0,d1,d2,d3,d4,d5⟩:=QQ.o _ M3.o.now;have p2:=M3.o.pt.2.2;obtain ⟨g0,h0,h1,h2,h3,h4,h5⟩:=QQ.o _ (M3.o.quiet (za.alloc [] w3 (.cells #[int i64 0,int i64 0,int i64 0,int i64 0,int i64 0,.slice none 0 0] 65))).now;have r2:=(M3.o.quiet (za.alloc [] w3 (.cells #[int i64 0,int i64 0,int i64 0,int i64 0,int i64 0,.slice none 0 0] 65))).pt.2.2;go_upto_region 5 with fail
 go_region
 have KB:=(za.alloc [] w3 (.cells #[int i64 x.op,int i64 x.dst,int i64 x.a,int i64 x.b,int i64 x.n,.slice xa x.args.length xc] 65)).quiet (za.drew [] _);have M4:=hid (M3.o.quiet KB);have K4:=hid (K3.o.quiet KB);have hn4:(w3.alloc (.cells #[int i64 x.op,int i64 x.dst,int i64 x.a,int i64 x.b,int i64 x.n,.slice xa x.args.length xc] 65)).drew.heap[w3.heap.size]? = _:=ze w3 (.cells #[int i64 x.op,int i64 x.dst,int i64 x.a,int i64 x.b,int i64 x.n,.slice xa x.args.length xc] 65);clear KB c0 d0 d1 d2 d3 d4 d5 p2 g0 h0 h1 h2 h3 h4 h5 r2;generalize (w3.alloc (.cells #[int i64 x.op,int i64 x.dst,int i64 x.a,int i64 x.b,int i64 x.n,.slice xa x.args.length xc] 65)).drew=w4 at *;have c0:=zc hn4 0;have c1:=zc hn4 1;have c2:=zc hn4 2;have c3:=zc hn4 3;have c4:=zc hn4 4;have c5:=zc hn4 5;have HC:=hid (zgE M4.o x xa xc (fun w9 k9=>QA.o _ (M4.o.quiet k9).now) CL.o);clear hn4;rcases HOP.o with e | e | e
 case' inl=>have q12:(x.op == 12)=true:=eqb e
 case' inr.inl=>
  have q12:(x.op == 12)=false:=neb (by omega);have q13:(x.op == 13)=true:=eqb e
 case' inr.inr=>
  have q12:(x.op == 12)=false:=neb (by omega);have q13:(x.op == 13)=false:=neb (by omega);have q14:(x.op == 14)=true:=eqb e
 all_goals
  clear e HOP;go_wp2_with fail;refine HC.o.mono ?_;rintro e5 w5 ⟨rfl,F5,fg5,fc5,rv5,oa5,oc5,os5,Fh5,m5,k5,n5⟩;have MX:=hid m5;have KX:=hid k5;have NX:=hid n5;clear m5 k5 n5 HC;rw[← E.o] at *;generalize doS P m=r at *;obtain ⟨y,m'⟩:=r;go_wp2_with fail;go_ret;exact ⟨rfl,F5,fg5,fc5,rv5,oa5,oc5,os5,Fh5,MX.o,K4.o.up.step KX.o,fun z hz=>(NX.o z hz).imp id (Nat.le_trans K4.o.size)⟩
theorem zfW(h:MaS W0 w mp pp fg P m F hb fc rv oa oc os Fh)(ok:zie P m)(hi:m.top.i≠(m.top.blk P).code.length)(hsm:Sm8 P)(hc:qk (m.top.ins P)=false):
  Calls Tryz.prog 50 #[pointer (some ⟨mp,0,none⟩)] w (ClP W0 w mp pp P F hb (doS P m)):=by
 have E:Box (doS P m=if (qr P m (m.top.ins P)).1=0 then (0,{ (qr P m (m.top.ins P)).2 with top:=(qr P m (m.top.ins P)).2.top.next }) else qr P m (m.top.ins P)):=hid (by unfold doS;rw[if_neg hi,if_neg (by rw[hc];simp)]);have HT:=hid (jY h ok.bot);obtain ⟨bb,bo,bl,hbk⟩:=Qy h ok.pt;have HB:=hid hbk;obtain ⟨ca,cp,q0,q1,_⟩:=bl.c0;have hlt:m.top.i<(m.top.blk P).code.length:=by have:=ok.pt.2.2;unfold Fr.blk at *;omega
 have hltz:(m.top.i:Int)<((m.top.blk P).code.length:Int):=by omega
 obtain ⟨cb,co,hca,q2⟩:=q1.at (zfO hlt);subst hca;have q2':InC W0 cb (co+m.top.i * 6) (m.top.ins P):=q2;have hne:((m.top.i:Int) == ((m.top.blk P).code.length:Int))=false:=neb (by omega);have RG:=hid (ok.rg hi hc);have BIG:=hid ok.big;obtain ⟨q12,q13,q14⟩:=zfv hc;clear hc;generalize m.top.ins P=x at *;obtain ⟨xa,xc,q3,q4,_⟩:=q2'.c5;have QQ:=hid fun (w':World) (s:Sub W0 w')=>(show w'.cell? ⟨bb,bo,none⟩=some (.slice (some ⟨cb,co,none⟩) (m.top.blk P).code.length cp)∧w'.cell? ⟨cb,co+m.top.i * 6,none⟩=some (int i64 x.op)∧w'.cell? ⟨cb,co+m.top.i * 6+1,none⟩=some (int i64 x.dst)∧w'.cell? ⟨cb,co+m.top.i * 6+2,none⟩=some (int i64 x.a)∧w'.cell? ⟨cb,co+m.top.i * 6+3,none⟩=some (int i64 x.b)∧w'.cell? ⟨cb,co+m.top.i * 6+4,none⟩=some (int i64 x.n)∧w'.cell? ⟨cb,co+m.top.i * 6+5,none⟩=some (.slice xa x.args.length xc) from ⟨s _ _ q0,s _ _ q2'.c0.1,s _ _ q2'.c1.1,s _ _ q2'.c2.1,s _ _ q2'.c3.1,s _ _ q2'.c4.1,s _ _ q3⟩);have QA:=hid fun (w':World) (s:Sub W0 w')=>q8 (q4.sub zI.sub s);have H:=hid h;clear h ok bl hbk q0 q1 q2 q2' q3 q4 hi hlt;generalize (m.top.blk P).code.length=L at *;go_enter Tryz.func50,Tryz.ntmps50;go_wp2_with fail;refine HT.o.mono ?_;rintro e1 w1 ⟨rfl,k1⟩;have K1:=hid k1;clear HT k1;go_wp2_with fail;refine (HB.o _ K1.o).mono ?_;rintro e2 w2 ⟨rfl,k2⟩;have K2:=hid (K1.o.quiet k2);have M2:=hid (H.o.quiet K2.o);obtain ⟨c0,d0,d1,d2,d3,d4,d5⟩:=QQ.o _ M2.o.now;have p2:=M2.o.pt.2.2;clear HB k2 K1;go_upto_region 3 with fail;go_quiet (fail);have M3:=hid (M2.o.quiet (za.drewN [] w2 nq));have K3:=hid (K2.o.quiet (za.drewN [] w2 nq));clear c0 p2 d0 d1 d2 d3 d4 d5 M2;generalize w2.drewN nq=w3 at *;obtain ⟨c0,d0,d1,d2,d3,d4,d5⟩:=QQ.o _ M3.o.now;have p2:=M3.o.pt.2.2;obtain ⟨g0,h0,h1,h2,h3,h4,h5⟩:=QQ.o _ (M3.o.quiet (za.alloc [] w3 (.cells #[int i64 0,int i64 0,int i64 0,int i64 0,int i64 0,.slice none 0 0] 65))).now;have r2:=(M3.o.quiet (za.alloc [] w3 (.cells #[int i64 0,int i64 0,int i64 0,int i64 0,int i64 0,.slice none 0 0] 65))).pt.2.2;go_upto_region 5 with fail
 go_region
 have KB:=(za.alloc [] w3 (.cells #[int i64 x.op,int i64 x.dst,int i64 x.a,int i64 x.b,int i64 x.n,.slice xa x.args.length xc] 65)).quiet (za.drew [] _);have M4:=hid (M3.o.quiet KB);have K4:=hid (K3.o.quiet KB);have hn4:(w3.alloc (.cells #[int i64 x.op,int i64 x.dst,int i64 x.a,int i64 x.b,int i64 x.n,.slice xa x.args.length xc] 65)).drew.heap[w3.heap.size]? = _:=ze w3 (.cells #[int i64 x.op,int i64 x.dst,int i64 x.a,int i64 x.b,int i64 x.n,.slice xa x.args.length xc] 65);clear KB c0 d0 d1 d2 d3 d4 d5 p2 g0 h0 h1 h2 h3 h4 h5 r2;generalize (w3.alloc (.cells #[int i64 x.op,int i64 x.dst,int i64 x.a,int i64 x.b,int i64 x.n,.slice xa x.args.length xc] 65)).drew=w4 at *;have c0:=zc hn4 0;have c1:=zc hn4 1;have c2:=zc hn4 2;have c3:=zc hn4 3;have c4:=zc hn4 4;have c5:=zc hn4 5;have HC:=hid (zeH M4.o hsm x (.slice xa x.args.length xc) RG.o);clear hn4;go_wp2_with fail;refine HC.o.mono ?_;rintro e5 w5 ⟨rfl,F5,rv5,oa5,oc5,os5,Fh5,m5,k5,n5⟩;have MX:=hid m5;have KX:=hid k5;have NX:=hid n5;clear m5 k5 n5 HC c0 c1 c2 c3 c4 c5;have EI:=hid (zbW P m x);generalize qr P m x=r at *;obtain ⟨y,m'⟩:=r;by_cases hy:y=0
 ·have hy0:(y == 0)=true:=eqb hy
  rw[if_pos hy] at E;have HY0:=hid hy;clear hy;obtain ⟨e1,e2,e3,e4⟩:=EI.o;have e1:m'.bot=m.bot:=e1;have p0:w5.cell? ⟨fg,m.bot.length * 67+2,none⟩=some (int i64 (m.top.i:Int)):=by
   have:=MX.o.pt.2.2;rw[e1,show m'.top.i=m.top.i from e4] at this;exact this
  have z0:=MX.o.frs.thaw (m.bot.length * 67+2);have hbg:=BIG.o;have hb9:(m.top.i:Int)+1<9223372036854775808:=by omega
  have MN:Box (MaS W0 (w5.setCell ⟨fg,m.bot.length * 67+2,none⟩ (int i64 ((m.top.i:Int)+1))) mp pp fg P { m' with top:=m'.top.next } F5 hb fc rv5 oa5 oc5 os5 Fh5):=hid (by
   have n9:MaS W0 (w5.setCell ⟨fg,m'.bot.length * 67+2,none⟩ (int i64 ((m'.top.i+1:Nat):Int))) mp pp fg P { m' with top:=m'.top.next } F5 hb fc rv5 oa5 oc5 os5 Fh5:=MaS.next (m:=m') MX.o;rw[show m'.bot.length=m.bot.length by rw[e1],show m'.top.i=m.top.i from e4] at n9
   exact n9)
  clear hbg EI e1 e2 e3 e4 hne hltz;go_wp2_with fail;go_ret;exact (OpP.of K4.o MN.o (KX.o.next NX.o (za.setCell F5 _ _ _ MX.o.fg_in)) NX.o (E.o.trans (by rw[HY0.o]))).cl
 ·have hy0:(y == 0)=false:=neb hy
  rw[if_neg hy] at E;clear hy EI;go_wp2_with fail;go_ret;exact (OpP.of K4.o MX.o KX.o NX.o E.o).cl
theorem zkK(h:MaS W0 w mp pp fg P m F hb fc rv oa oc os Fh)(ok:zie P m)(hsm:Sm8 P):Calls Tryz.prog 50 #[pointer (some ⟨mp,0,none⟩)] w (ClP W0 w mp pp P F hb (doS P m)):=by
 by_cases hi:m.top.i=(m.top.blk P).code.length
 ·exact zkG h ok hi
 ·cases hc:qk (m.top.ins P)
  ·exact zfW h ok hi hsm hc
  ·exact zjQ h ok hi hc
end
section
variable {W0 w w':World}{mp pp fg:Nat}{P:Pr8}{m:Ma}{F:List Nat}{hb fc:Nat}{rv:Value}{oa:Option Addr}{oc:Nat}{os:List Ob}{Fh:List Nat}
theorem MaS.calm(h:MaS W0 w mp pp fg P m F hb fc rv oa oc os Fh):MaS W0 (((w.setCell ⟨mp,5,none⟩ (.bool false)).setCell ⟨mp,6,none⟩ (int i64 0)).setCell ⟨mp,7,none⟩ (.bool false)) mp pp fg P m.calm F hb fc rv oa oc os Fh:=
 h.bx (((za.setCell [mp] _ _ _ (List.mem_singleton.2 rfl)).step (za.setCell [mp] _ _ _ (List.mem_singleton.2 rfl))).step (za.setCell [mp] _ _ _ (List.mem_singleton.2 rfl))) (heap_setCell_same _ mp 7 _ _ _ (heap_setCell_same _ mp 6 _ _ _ (heap_setCell_same w mp 5 _ _ (.bool false) h.box))) rfl rfl rfl rfl id h.ocap
theorem zg4(h:MaS W0 w mp pp fg P m F hb fc rv oa oc os Fh)(ok:zie P m.calm)(hsm:Sm8 P):Calls Tryz.prog 21 #[pointer (some ⟨mp,0,none⟩)] w (ClP W0 w mp pp P F hb (zS P m)):=by
 have HI:=hid (QR (zc h.box 0));have H:=hid h;have OK:=hid ok;have E:Box (zS P m=doS P m.calm):=hid rfl;clear h ok;go_enter Tryz.func21,Tryz.ntmps21;go_wp2_with fail;refine HI.o.mono ?_;rintro e1 w1 ⟨rfl,k1⟩;have M1:=hid (H.o.quiet k1);have K1:=hid k1;have p5:=zc M1.o.box 5;have p6:=zc M1.o.box 6;have p7:=zc M1.o.box 7;have z5:=zg M1.o.box 5;have z6:=zg M1.o.box 6;have z7:=zg M1.o.box 7;clear HI k1 H;go_wp2_with fail;have M2:=hid M1.o.calm;have K2:Box (za F w1 (((w1.setCell ⟨mp,5,none⟩ (.bool false)).setCell ⟨mp,6,none⟩ (int i64 0)).setCell ⟨mp,7,none⟩ (.bool false))):=hid (((za.setCell F _ _ _ M1.o.mp_in).step (za.setCell F _ _ _ M1.o.mp_in)).step (za.setCell F _ _ _ M1.o.mp_in));generalize ((w1.setCell ⟨mp,5,none⟩ (.bool false)).setCell ⟨mp,6,none⟩ (int i64 0)).setCell ⟨mp,7,none⟩ (.bool false)=w2 at *;clear p5 p6 p7 z5 z6 z7;refine (zkK M2.o OK.o hsm).mono ?_;rintro e5 w5 ⟨rfl,F5,fg5,fc5,rv5,oa5,oc5,os5,Fh5,m5,k5,n5⟩;have MX:=hid m5;have KX:=hid k5;have NX:=hid n5;clear m5 k5 n5;rw[← E.o] at *;generalize zS P m=r at *;obtain ⟨y,m'⟩:=r;go_wp2_with fail;go_ret;exact ⟨rfl,F5,fg5,fc5,rv5,oa5,oc5,os5,Fh5,MX.o,(K1.o.up.step K2.o).step KX.o,fun z hz=>(NX.o z hz).imp id (Nat.le_trans (K1.o.up.step K2.o).size)⟩
theorem ze5(h:MaS W0 w mp pp fg P m F hb fc rv oa oc os Fh):Calls Tryz.prog 23 #[pointer (some ⟨mp,0,none⟩)] w fun e w'=>e=.returned (int i64 ((m.bot.length:Int)+1))∧za [] w w':=by
 have HI:=hid (QR (zc h.box 0));have H:=hid h;clear h;go_enter Tryz.func23,Tryz.ntmps23;go_wp2_with fail;refine HI.o.mono ?_;rintro e1 w1 ⟨rfl,k1⟩;have M1:=hid (H.o.quiet k1);have K1:=hid k1;have p4:=zc M1.o.box 4;clear HI k1 H;go_wp2_with fail;go_ret;exact ⟨rfl,K1.o⟩
end
end Go.Proofs.YtgmbkiagdhjpnaaGreatDoor
