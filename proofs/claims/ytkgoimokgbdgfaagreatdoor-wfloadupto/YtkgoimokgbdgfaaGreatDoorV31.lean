import Derived.Deep.LoopGhost
import Derived.Test.YtkgoimokgbdgfaaGreatDoorV22
import Derived.Test.YtkgoimokgbdgfaaGreatDoorV30

namespace Go.Proofs.YtkgoimokgbdgfaaGreatDoor
open Go.RowKit
open Go.Value (int pointer agg)
open Go.IntKind (i64)
set_option maxRecDepth 20000
set_option maxHeartbeats 8000000
variable {N b base g off ps:Nat}{l:List Nat}{lv:Value}{w wr:World}{zs:List Int}
def bw(s:Nat→Bool)(i:Nat):Value:=.bool (s i)
theorem zoy{B0 gn:Nat}{s:Nat→Bool}(h:ju w B0 b gn 4 (bw s))(n:Nat):ju (w.setCell ⟨b,n,none⟩ (.bool true)) B0 b gn 4 (bw (ins s n)):=by
 refine (h.put n (.bool true)).congr (fun i _=> ?_);unfold bw ins;by_cases e:i=n
 ·subst e;simp
 ·simp[e]
theorem zpu:Tryz.t4.zero=some (.bool false):=by kernel_rfl
theorem zp1:Tryz.t4.size=1:=by kernel_rfl
theorem zon:Tryz.t4.bytes=1:=by kernel_rfl
theorem zpi:Tryz.prog.info? 4=some Tryz.t4:=by kernel_rfl
theorem znI:Tryz.prog.underlying 129=some (.slice 4):=by kernel_rfl
def avI(wo:Int):Nat→Bool:=fun m=>decide ((m:Int)=wo)
def Qs(w:World)(base ps:Nat)(lv:Value)(l:List Nat):Prop:=
 (lv=.slice none 0 0∧l=[])∨∃ g off cap,lv=.slice (some ⟨g,off,none⟩) l.length cap∧qV w g off cap (Zb l)∧base≤g∧g≠ps
structure RQ (w wr:World) (ps N:Nat) (lv:Value) (st:(Nat→Bool) × List Nat):Prop where
 row:ju wr w.heap.size ps N 4 (bw st.1)
 line:Qs wr w.heap.size ps lv st.2
 keep:zc [] w wr
theorem Qs.arm(h:Qs w base ps lv l):(lv=.slice none 0 0∧Zb l=[])∨∃ g off cap,lv=.slice (some ⟨g,off,none⟩) (Zb l).length cap∧qV w g off cap (Zb l):=by
 rcases h with ⟨h1,h2⟩ | ⟨g,off,cap,h1,h2,_,_⟩
 ·exact .inl ⟨h1,by rw[h2];rfl⟩
 ·exact .inr ⟨g,off,cap,by rw[qu];exact h1,h2⟩
theorem Qs.len(h:Qs w base ps lv l):∃ a c,lv=.slice a l.length c:=by
 rcases h with ⟨rfl,rfl⟩ | ⟨g,off,cap,rfl,_⟩
 ·exact ⟨none,0,rfl⟩
 ·exact ⟨_,_,rfl⟩
theorem Qs.kept{w':World}{L:List Nat}(h:Qs w base ps lv l)(k:zc L w w')(hL:∀ x,x∈L→lv.ownBlock≠some x):Qs w' base ps lv l:=by
 rcases h with h | ⟨g,off,cap,rfl,h2,h3,h4⟩
 ·exact .inl h
 ·exact .inr ⟨g,off,cap,rfl,h2.kept k (fun hx=>hL g hx rfl),h3,h4⟩
theorem Qs.own(h:Qs w base ps lv l):∀ x,lv.ownBlock=some x→base≤x∧x≠ps∧x<w.heap.size:=by
 intro x hx;rcases h with ⟨rfl,_⟩ | ⟨g,off,cap,rfl,h2,h3,h4⟩
 ·cases hx
 ·have:g=x:=Option.some.inj hx
  subst this;exact ⟨h3,h4,h2.lt⟩
theorem zgD(l:List Nat)(x:Nat):Zb (l ++ [x])=Zb l ++ [(x:Int)]:=by unfold Zb;rw[List.map_append];rfl
theorem RQ.mark{st:(Nat→Bool) × List Nat}(h:RQ w wr ps N lv st)(b:Nat):RQ w (wr.setCell ⟨ps,b,none⟩ (.bool true)) ps N lv (ins st.1 b,st.2):=by
 have k:zc [ps] wr (wr.setCell ⟨ps,b,none⟩ (.bool true)):=zc.setCell _ _ _ _ (by simp);exact ⟨zoy h.row b,h.line.kept k (fun x hx e=>by simp at hx;exact (h.line.own x e).2.1 hx),h.keep.fresh k (fun x hx=>by have:=h.row.lt.1;simp at hx;omega)⟩
theorem RQ.quiet{wy:World}{st:(Nat→Bool) × List Nat}(h:RQ w wr ps N lv st)(k:zc [] wr wy):RQ w wy ps N lv st:=
 ⟨h.row.kept k (by simp),h.line.kept k (by simp),h.keep.quiet k⟩
theorem RQ.push{wa w5:World}{st:(Nat→Bool) × List Nat}{g5 off5 cap5:Nat}(h:RQ w wr ps N lv st)(ka:zc [] wr wa)(hl:qV w5 g5 off5 cap5 (Zb st.2 ++ [(b:Int)]))(k5:zc lv.ownBlock.toList wa w5)(hat:lv.ownBlock=some g5∨g5=wa.heap.size):
  RQ w w5 ps N (.slice (some ⟨g5,off5,none⟩) ((Zb st.2).length+1) cap5) (st.1,st.2 ++ [b]):=by
 have h2:=h.quiet ka;have hps:=h2.row.lt;refine ⟨h2.row.kept k5 (fun hx=>(h2.line.own ps (by simpa using hx)).2.1 rfl),.inr ⟨g5,off5,cap5,?_,?_,?_,?_⟩,h2.keep.fresh k5 (fun x hx=>(h2.line.own x (by simpa using hx)).1)⟩
 ·rw[qu,List.length_append];rfl
 ·show qV w5 g5 off5 cap5 (Zb (st.2 ++ [b]))
  rw[zgD];exact hl
 ·rcases hat with e | e
  ·exact (h2.line.own g5 e).1
  ·have:=h2.keep.size;omega
 ·rcases hat with e | e
  ·exact (h2.line.own g5 e).2.1
  ·omega
theorem qV.tail{cap:Nat}{x:Int}{l:List Int}(h:qV w g off cap (x :: l)):qV w g (off+1) (cap - 1) l:=by
 have hl:=h.len;have hm:=h.max;have hlen:(x :: l).length=l.length+1:=rfl;refine ⟨fun i hi=> ?_,fun k hk=> ?_,by omega,by omega,h.lt⟩
 ·have:=h.cell (i+1) (by omega)
  rw[Nat.add_assoc,Nat.add_comm 1 i];exact this
 ·have:=h.room (k+1) (by omega)
  rw[Nat.add_assoc,Nat.add_comm 1 k];exact this
theorem Qs.pop{cap x:Nat}(h:qV w g off cap (Zb (x :: l)))(h1:base≤g)(h2:g≠ps):Qs w base ps (.slice (some ⟨g,off+1,none⟩) l.length (cap - 1)) l:=
 .inr ⟨g,off+1,cap - 1,rfl,qV.tail (l:=Zb l) h,h1,h2⟩
theorem Qs.pop1{x:Nat}(h:qV w g off 1 (Zb (x :: l)))(h1:base≤g)(h2:g≠ps):l=[]∧Qs w base ps (.slice (some ⟨g,off,none⟩) 0 0) []:=by
 have hl:=h.len;rw[qu] at hl;have hlen:(x :: l).length=l.length+1:=rfl;refine ⟨List.eq_nil_of_length_eq_zero (by omega),.inr ⟨g,off,0,rfl,⟨fun i hi=>by simp[Zb] at hi,fun k hk=>by omega,by simp[Zb],by omega,h.lt⟩,h1,h2⟩⟩
def Jj(N:Nat)(zs:List Int):List Nat:=(zs.filter fun z=>decide (0≤z∧z<(N:Int))).map Int.toNat
theorem zde{z:Int}(h:0≤z∧z<(N:Int)):Jj N (zs ++ [z])=Jj N zs ++ [z.toNat]:=by
 unfold Jj;rw[List.filter_append,List.map_append];simp[h]
theorem zcF{z:Int}(h:¬ (0≤z∧z<(N:Int))):Jj N (zs ++ [z])=Jj N zs:=by
 unfold Jj;rw[List.filter_append,List.map_append,List.filter_cons,if_neg (by simpa using h)];simp
theorem ZH{u:Nat}:u∈Jj N zs ↔ (u:Int)∈zs∧u<N:=by
 unfold Jj;constructor
 ·intro h
  obtain ⟨z,hz,rfl⟩:=List.mem_map.1 h;obtain ⟨h1,h2⟩:=List.mem_filter.1 hz;have h3:=of_decide_eq_true h2;rw[Int.toNat_of_nonneg h3.1];exact ⟨h1,by omega⟩
 ·rintro ⟨h1,h2⟩
  exact List.mem_map.2 ⟨(u:Int),List.mem_filter.2 ⟨h1,by simp;omega⟩,by simp⟩
theorem zeE:∀ u,u∈Jj N zs→u<N:=fun _ hu=>(ZH.1 hu).2
theorem zgF(g : List (List Nat))(hs : Sm g)(a : Option Addr)(cap B : Nat)(w : World)(hG : GAt w B a g)(af : Option Addr)(fc Bf : Nat)(zs : List Int)(hz : zcu w Bf af zs)(hl : zs.length ≤ 1000)(wo : Int):
    Calls Tryz.prog 76 #[.slice a g.length cap, .slice af zs.length fc, int i64 wo] w fun e w' => ∃ ps, e = .returned (.slice (some ⟨ps, 0, none⟩) g.length g.length) ∧ ∃ s, ju w' w.heap.size ps g.length 4 (bw s) ∧ zc [] w w' ∧ ∀ u, s u = true ↔ ∃ z, z ∈ Jj g.length zs ∧ Pth g (avI wo) z u := by
  have HS := hid hs;have HG := hid hG;have HZ := hid hz;have hg6 := hs.len;have HUN := hid (fun st : (Nat → Bool) × List Nat => zgU g st.1);obtain ⟨N, hN⟩ : ∃ N, g.length = N := ⟨_, rfl⟩;have HN := hid hN;rw [hN] at hg6 HUN ⊢;obtain ⟨zl, hzl⟩ : ∃ zl, zs.length = zl := ⟨_, rfl⟩;have HZL := hid hzl;rw [hzl] at hl ⊢;clear hs hG hz hN hzl;have hww : w.heap.size ≤ w.heap.size := Nat.le_refl _;go_enter Tryz.func76, Tryz.ntmps76;go_wp2_with (at_make; go_must (refine wpList_make_full _ rfl _ _ 129 rfl w.heap.size 4 Tryz.t4 (.bool false) 1 znI zpi zpu zp1 .i64 .i64 _ _ N rfl rfl rfl rfl (by rw [zon]; omega) (by unfold maxLen; omega) hww ?_; intro w2 hown2 hgrow2));have k2 : zc [] w w2 := zc.grown [] hgrow2 (by simp);obtain ⟨ps, hps⟩ : ∃ ps, w.heap.size = ps := ⟨_, rfl⟩;have HPS := hid hps
  have R2 : Box (RQ w w2 ps N (.slice none 0 0) (qe (avI wo) (noS, []) (Jj N (zs.take 0)))) := hid ⟨by
    rw [← hps]
    exact (ju.made hown2 rfl).congr (fun i _ => rfl), .inl ⟨rfl, rfl⟩, k2⟩
  rw [hps];clear hown2 hgrow2 k2 hww hps;have wsz : w.heap.size = ps := HPS.o;clear wsz
  go_loopw [8, 9] (fun lv iv wr => ∃ (i : Nat) (v : Value), v = lv ∧ iv = int i64 (i : Int) ∧ i ≤ zl ∧ Box (RQ w wr ps N v (qe (avI wo) (noS, []) (Jj N (zs.take i))))) (fun _ iv _ => zl - (intOf iv).toNat)
  case atStart => exact ⟨0, _, rfl, rfl, by omega, R2⟩
  case round =>
    clear R2;obtain ⟨i, v, rfl, rfl, hi, HR⟩ := hrel;by_cases hlt : i < zl
    · have hlt' : (i : Int) < (zl : Int) := by omega
      obtain ⟨bz, oz, rfl, hcz⟩ := (HZ.o.kept HR.o.keep (by simp)).at (k := i) (by rw [HZL.o]; exact hlt);have htk := hid (qC zs i 0 (by rw [HZL.o]; exact hlt));obtain ⟨z, hzz⟩ : ∃ z, zs.getD i 0 = z := ⟨_, rfl⟩;rw [hzz] at hcz htk;clear hzz;by_cases hin : 0 ≤ z ∧ z < (N : Int)
      · obtain ⟨b, rfl⟩ := Int.eq_ofNat_of_zero_le hin.1
        have hbN : b < N := by omega
        have hbN' := hin.2;have hb0 := hin.1;have hst : Box (qe (avI wo) (noS, []) (Jj N (zs.take (i + 1))) = ZA (avI wo) (qe (avI wo) (noS, []) (Jj N (zs.take i))) b) := hid (by rw [htk.o, zde hin, zaU, Int.toNat_natCast]);have hun := JR (avI wo) g (Jj N (zs.take i)) (noS, []) (fun x hx => by rw [HN.o]; exact zeE x hx);have hu0 := zgU g noS;obtain ⟨st, hste⟩ : ∃ st, qe (avI wo) (noS, []) (Jj N (zs.take i)) = st := ⟨_, rfl⟩;rw [hste] at HR hst hun;have hlen : st.2.length ≤ 600 := by
          have : (([] : List Nat)).length = 0 := rfl;have h9 : un g st.1 + st.2.length ≤ un g noS + 0 := hun;have := HN.o;omega
        have cs := HR.o.row.cell hbN;unfold bw at cs;have fs := HR.o.row.frozen b;clear hun hu0 hste hin htk;cases hsb : st.1 b with
        | true =>
          rw [hsb] at cs;have hst2 : Box (ZA (avI wo) st b = st) := hid (by unfold ZA; rw [if_pos (.inl hsb)]);clear hsb;go_wp2;go_roundw
          case rel => exact ⟨i + 1, v, rfl, by go_num, by omega, hid (by rw [hst.o, hst2.o]; exact HR.o)⟩
          case measure => simp [intOf]; omega
        | false =>
          rw [hsb] at cs;by_cases hwo : (b : Int) = wo
          · have hb1 : ((b : Int) != wo) = false := by rw [hwo]; simp
            have hst2 : Box (ZA (avI wo) st b = st) := hid (by unfold ZA avI; rw [if_pos (.inr (decide_eq_true hwo))]);clear hsb hwo;go_wp2;go_roundw
            case rel => exact ⟨i + 1, v, rfl, by go_num, by omega, hid (by rw [hst.o, hst2.o]; exact HR.o)⟩
            case measure => simp [intOf]; omega
          · have hb1 : ((b : Int) != wo) = true := by rw [bne_iff_ne]; exact hwo
            have hst2 : Box (ZA (avI wo) st b = (ins st.1 b, st.2 ++ [b])) := hid (by
              unfold ZA;rw [if_neg];rintro (h | h)
              · rw [hsb] at h; cases h
              · exact hwo (of_decide_eq_true h))
            have HM := hid (HR.o.mark b);clear hsb hwo HR;obtain ⟨av, cv, rfl⟩ := HM.o.line.len;go_upto_region 9 with fail;clear cs fs;generalize wr.setCell ⟨ps, b, none⟩ (.bool true) = wm at HM ⊢;go_wp2_with (at_builtin; go_must (refine ZL _ rfl _ _ rfl (Zb st.2) (b : Int) (.slice av st.2.length cv) rfl (HM.o.quiet (zc.alloc [] _ _)).line.arm ⟨_, 0, none⟩ 1 rfl (cell_one_new _ _ _) (by rw [qu]; omega) ?_; intro g5 off5 cap5 w5 hl5 k5 hat5));have HR5 := hid (HM.o.push (zc.alloc [] _ _) hl5 k5 hat5);clear hl5 k5 hat5 HM;go_roundw
            case rel => exact ⟨i + 1, _, rfl, by go_num, by omega, hid (by rw [hst.o, hst2.o]; exact HR5.o)⟩
            case measure => simp [intOf]; omega
      · have hst : Box (qe (avI wo) (noS, []) (Jj N (zs.take (i + 1))) = qe (avI wo) (noS, []) (Jj N (zs.take i))) := hid (by rw [htk.o, zcF hin])
        clear htk;by_cases h0 : 0 ≤ z
        · have h1 : ¬ z < (N : Int) := fun h => hin ⟨h0, h⟩
          clear hin;go_wp2;go_roundw
          case rel => exact ⟨i + 1, v, rfl, by go_num, by omega, hid (by rw [hst.o]; exact HR.o)⟩
          case measure => simp [intOf]; omega
        · clear hin
          go_wp2;go_roundw
          case rel => exact ⟨i + 1, v, rfl, by go_num, by omega, hid (by rw [hst.o]; exact HR.o)⟩
          case measure => simp [intOf]; omega
    · obtain rfl : i = zl := by omega
      have hall : zs.take i = zs := by rw [← HZL.o]; exact List.take_length
      rw [hall] at HR;have HQ := hid (Qu.begin g (avI wo) (Jj N zs));have HLT : Box (∀ u, u ∈ (qe (avI wo) (noS, []) (Jj N zs)).2 → u < N) := hid (zdF (avI wo) (Jj N zs) (noS, []) zeE (by simp));have hun : un g (qe (avI wo) (noS, []) (Jj N zs)).1 + (qe (avI wo) (noS, []) (Jj N zs)).2.length ≤ N := by
        have h1 := JR (avI wo) g (Jj N zs) (noS, []) (fun x hx => by rw [HN.o]; exact zeE x hx);have h2 : un g (noS, ([] : List Nat)).1 + (noS, ([] : List Nat)).2.length ≤ N := by
          have := zgU g noS;have := HN.o;show un g noS + 0 ≤ N;omega
        omega
      clear hall HZ;go_wp2_with fail
      go_loopg [8] N (fun q lv wr => ∃ (v : Value) (st : (Nat → Bool) × List Nat), v = lv ∧ un g st.1 + st.2.length ≤ q ∧ q ≤ N ∧ Box (RQ w wr ps N v st) ∧ Box (Qu g (avI wo) (Jj N zs) st) ∧ Box (∀ u, u ∈ st.2 → u < N))
      case atStart => exact ⟨v, _, rfl, hun, Nat.le_refl _, HR, HQ, HLT⟩
      case round =>
        clear HR HQ HLT hun;obtain ⟨v, ⟨s, l⟩, rfl, hq, hqN, HR, HQ, HLT⟩ := hrel;cases l with
        | nil =>
          obtain ⟨av, cv, rfl⟩ := HR.o.line.len;have hdone := hid (HQ.o.done rfl);go_wp2;go_ret;exact ⟨ps, rfl, s, HR.o.row, HR.o.keep, hdone.o⟩
        | cons x l =>
          have hx : x < N := HLT.o x (by simp);obtain ⟨g5, off5, cap5, rfl, hline, hb5, hne5⟩ := HR.o.line.resolve_left (fun h => by simp at h);have hcell := hline.cell 0 (by rw [qu]; simp);rw [Nat.add_zero] at hcell;have hcell' : wr.cell? ⟨g5, off5, none⟩ = some (int i64 (x : Int)) := hcell;have hlc := hline.len;have hmx := hline.max;rw [qu] at hlc;have hlen : (x :: l).length = l.length + 1 := rfl;rw [hlen] at hlc;have hl1 : (1 : Int) ≤ ((l.length + 1 : Nat) : Int) := by omega
          have hrow := hid HR.o.row;have HK := hid HR.o.keep;have HQ2 := hid HQ.o.step;have HLT2 : Box (∀ u, u ∈ l → u < N) := hid (fun u hu => HLT.o u (List.mem_cons_of_mem _ hu));have hun2 := JR (avI wo) g (nb g x) (s, l) (fun y hy => HS.o.ok x y hy);have hq' : un g s + (l.length + 1) ≤ gk := hq;have HPO : Box (Qs wr w.heap.size ps (.slice (some ⟨g5, off5 + 1, none⟩) l.length (cap5 - 1)) l) := hid (Qs.pop hline hb5 hne5);have HP1 : Box (∀ hc : cap5 = 1, l = [] ∧ Qs wr w.heap.size ps (.slice (some ⟨g5, off5, none⟩) 0 0) []) := hid (fun hc => by subst hc; exact Qs.pop1 hline hb5 hne5);obtain ⟨bl, ol, ai, ci, rfl, hcl, hnl⟩ := HG.o.at (k := x) (by rw [HN.o]; exact hx);have HCL : Box (∀ w9, zc [] w w9 → w9.cell? ⟨bl, ol + x, none⟩ = some (.slice ai (nb g x).length ci)) := hid (fun w9 k9 => by rw [k9.cell (p := ⟨bl, ol + x, none⟩) (block_lt_of_cell hcl) (by simp)]; exact hcl);have HNL := hid hnl;have hnb := HS.o.short x;have Hnb : Box (∀ y, y ∈ nb g x → y < N) := hid (fun y hy => by rw [← HN.o]; exact HS.o.ok x y hy);have hx' : (x : Int) < (N : Int) := by omega
          have hx6 : x < 600 := by omega
          clear hcell hline HR HQ HLT hq hnl hlen hcl
          have hMid : Box (∃ v2, Qs wr w.heap.size ps v2 l ∧ (cap5 = 1 → v2 = .slice (some ⟨g5, off5, none⟩) 0 0) ∧ (cap5 ≠ 1 → v2 = .slice (some ⟨g5, off5 + 1, none⟩) l.length (cap5 - 1))) := hid (by
            by_cases hc : cap5 = 1
            · obtain ⟨rfl, h9⟩ := HP1.o hc
              exact ⟨_, h9, fun _ => rfl, fun h => absurd hc h⟩
            · exact ⟨_, HPO.o, fun h => absurd h hc, fun _ => rfl⟩)
          clear HP1 HPO;have hlen1 : ((x :: l).length : Nat) = l.length + 1 := rfl;rw [hlen1];clear hlen1;generalize hNB : nb g x = NB at HCL HNL hnb Hnb hun2 HQ2;clear hNB;obtain ⟨ll, hll⟩ : ∃ ll, l.length = ll := ⟨_, rfl⟩;have HLL := hid hll;rw [hll] at hlc hl1 hq' ⊢;have hMid2 := hMid.o;rw [hll] at hMid2;obtain ⟨v2, hw2, hv1, hv2⟩ := hMid2;have R0 : Box (RQ w wr ps N v2 (qe (avI wo) (s, l) (NB.take 0))) := hid ⟨hrow.o, hw2, HK.o⟩;clear hll hMid hw2 hrow;have hcc : (1 : Int) ≤ (cap5 : Int) := by omega
          by_cases hc1 : cap5 = 1
          all_goals
            first
              | (subst hc1
                 obtain rfl : ll = 0 := by omega
                 obtain rfl := hv1 rfl;clear hv1 hv2;go_upto_region 13 with fail
                 generalize (Value.slice (some ⟨g5, off5, none⟩) 0 0) = v2 at R0 ⊢)
              | (obtain rfl := hv2 hc1
                 clear hv1 hv2;go_upto_region 13 with fail
                 generalize (Value.slice (some ⟨g5, off5 + 1, none⟩) ll (cap5 - 1)) = v2 at R0 ⊢)
            clear hcell' hlc hl1 hmx hcc;go_wp2_with fail
            go_loopw [8, 12] (fun lv kv wr2 => ∃ (k : Nat) (v : Value), v = lv ∧ kv = int i64 (k : Int) ∧ k ≤ NB.length ∧ Box (RQ w wr2 ps N v (qe (avI wo) (s, l) (NB.take k)))) (fun _ kv _ => NB.length - (intOf kv).toNat)
            case atStart => exact ⟨0, v2, rfl, rfl, by omega, R0⟩
            case round =>
              clear R0 HK;obtain ⟨k, v, rfl, rfl, hk, HR⟩ := hrel;have cto := HCL.o wr HR.o.keep;by_cases hlt : k < NB.length
              · have hlt' : (k : Int) < (NB.length : Int) := by omega
                obtain ⟨bm, om, rfl, hcm⟩ := (HNL.o.kept HR.o.keep (by simp)).at hlt;obtain ⟨b, hb⟩ : ∃ b, NB.getD k 0 = b := ⟨_, rfl⟩;have hbN : b < N := by rw [← hb]; exact Hnb.o _ (qD NB k 0 hlt)
                have htk := hid (qC NB k 0 hlt);rw [hb] at hcm htk;clear hb;have hbN' : (b : Int) < (N : Int) := by omega
                have hb6 : b < 600 := by omega
                have hst : Box (qe (avI wo) (s, l) (NB.take (k + 1)) = ZA (avI wo) (qe (avI wo) (s, l) (NB.take k)) b) := hid (by rw [htk.o, zaU]);have hun := JR (avI wo) g (NB.take k) (s, l) (fun y hy => by rw [HN.o]; exact Hnb.o y (List.mem_of_mem_take hy));obtain ⟨st, hste⟩ : ∃ st, qe (avI wo) (s, l) (NB.take k) = st := ⟨_, rfl⟩;rw [hste] at HR hst hun;have hlen : st.2.length ≤ 600 := by
                  have h9 : un g st.1 + st.2.length ≤ un g s + l.length := hun;have := HLL.o;omega
                have cs := HR.o.row.cell hbN;unfold bw at cs;have fs := HR.o.row.frozen b;clear hun hste htk;cases hsb : st.1 b with
                | true =>
                  rw [hsb] at cs;have hst2 : Box (ZA (avI wo) st b = st) := hid (by unfold ZA; rw [if_pos (.inl hsb)]);clear hsb;go_wp2;go_roundw
                  case rel => exact ⟨k + 1, v, rfl, by go_num, by omega, hid (by rw [hst.o, hst2.o]; exact HR.o)⟩
                  case measure => simp [intOf]; omega
                | false =>
                  rw [hsb] at cs;by_cases hwo : (b : Int) = wo
                  · have hb1 : ((b : Int) != wo) = false := by rw [hwo]; simp
                    have hst2 : Box (ZA (avI wo) st b = st) := hid (by unfold ZA avI; rw [if_pos (.inr (decide_eq_true hwo))]);clear hsb hwo;go_wp2;go_roundw
                    case rel => exact ⟨k + 1, v, rfl, by go_num, by omega, hid (by rw [hst.o, hst2.o]; exact HR.o)⟩
                    case measure => simp [intOf]; omega
                  · have hb1 : ((b : Int) != wo) = true := by rw [bne_iff_ne]; exact hwo
                    have hst2 : Box (ZA (avI wo) st b = (ins st.1 b, st.2 ++ [b])) := hid (by
                      unfold ZA;rw [if_neg];rintro (h | h)
                      · rw [hsb] at h; cases h
                      · exact hwo (of_decide_eq_true h))
                    have HM := hid (HR.o.mark b);clear hsb hwo HR;obtain ⟨av, cv, rfl⟩ := HM.o.line.len;go_upto_region 19 with fail;clear cs fs cto hcm;generalize wr.setCell ⟨ps, b, none⟩ (.bool true) = wm at HM ⊢;go_wp2_with (at_builtin; go_must (refine ZL _ rfl _ _ rfl (Zb st.2) (b : Int) (.slice av st.2.length cv) rfl (HM.o.quiet (zc.alloc [] _ _)).line.arm ⟨_, 0, none⟩ 1 rfl (cell_one_new _ _ _) (by rw [qu]; omega) ?_; intro g6 off6 cap6 w6 hl6 k6 hat6));have HR6 := hid (HM.o.push (zc.alloc [] _ _) hl6 k6 hat6);clear hl6 k6 hat6 HM;go_roundw
                    case rel => exact ⟨k + 1, _, rfl, by go_num, by omega, hid (by rw [hst.o, hst2.o]; exact HR6.o)⟩
                    case measure => simp [intOf]; omega
              · obtain rfl : k = NB.length := by omega
                rw [List.take_length] at HR;have HLT3 : Box (∀ u, u ∈ (qe (avI wo) (s, l) NB).2 → u < N) := hid (zdF (avI wo) NB (s, l) Hnb.o HLT2.o);have hq2 : un g (qe (avI wo) (s, l) NB).1 + (qe (avI wo) (s, l) NB).2.length ≤ gk - 1 := by
                  have h9 : un g (qe (avI wo) (s, l) NB).1 + (qe (avI wo) (s, l) NB).2.length ≤ un g s + l.length := hun2;have := HLL.o;omega
                go_wp2_with fail
                go_roundg (gk - 1)
                case measure => omega
                case rel => exact ⟨v, _, rfl, hq2, by omega, HR, HQ2, HLT3⟩
theorem zgr{g:List (List Nat)}(hg:Ok g){s:Nat→Bool}(hs:∀ u,s u=true→∀ v,v∈nb g u→s v=true){z:Nat}(hz:z<g.length):
  (∀ u,(vis g (g.length+1) z (s,[])).1 u=true ↔ s u=true∨Pth g noS z u)∧∀ u,(vis g (g.length+1) z (s,[])).1 u=true→∀ v,v∈nb g u→(vis g (g.length+1) z (s,[])).1 v=true:=by
 obtain ⟨N,e,h⟩:=zf2 g hg (g.length+1) z s [] hz (Nat.lt_succ_of_le (zgU g _));rw[e];have hcl:∀ u,orL s N u=true→∀ v,v∈nb g u→orL s N v=true:=by
  intro u hu v hv;rcases jy.1 hu with h1 | h1
  ·exact jy.2 (.inl (hs u h1 v hv))
  ·rcases h.good.closed u h1 v hv with h2 | h2
   ·exact jy.2 (.inl h2)
   ·exact jy.2 (.inr h2)
 refine ⟨fun u=>⟨fun hu=> ?_,?_⟩,hcl⟩
 ·rcases jy.1 hu with h1 | h1
  ·exact .inl h1
  ·obtain ⟨n,hn,p⟩:=(h.iff u).1 h1
   rw[List.mem_singleton.1 hn] at p;exact .inr (p.mono fun _ _=>rfl)
 ·rintro (h1 | p)
  ·exact jy.2 (.inl h1)
  ·refine p.carry (C:=fun u=>orL s N u=true) (fun u hu _ v hv _=>hcl u hu v hv) ?_
   rcases h.all z (by simp) with h1 | h1
   ·exact jy.2 (.inl h1)
   ·exact jy.2 (.inr h1)
theorem zcA{g:List (List Nat)}(hg:Ok g):∀ (zs:List Int) (s:Nat→Bool),(∀ u,s u=true→∀ v,v∈nb g u→s v=true)→∀ u,zcz g zs s u=true ↔ s u=true∨∃ z,z∈Jj g.length zs∧Pth g noS z u
 | [],s,_,u=>by simp[zcz,Jj]
 | z :: zs,s,hs,u=>by
  show zcz g zs (if 0≤z∧z<(g.length:Int) then (vis g (g.length+1) z.toNat (s,[])).1 else s) u=true ↔ _;by_cases h:0≤z∧z<(g.length:Int)
  ·rw[if_pos h]
   have hv:=zgr hg hs (z:=z.toNat) (by omega);rw[zcA hg zs _ hv.2 u,hv.1 u,or_assoc];refine or_congr Iff.rfl ?_;have e:∀ x,x∈Jj g.length (z :: zs) ↔ x=z.toNat∨x∈Jj g.length zs:=by
    intro x;rw[ZH,ZH,List.mem_cons];constructor
    ·rintro ⟨h1 | h1,h2⟩
     ·exact .inl (by omega)
     ·exact .inr ⟨h1,h2⟩
    ·rintro (h1 | ⟨h1,h2⟩)
     ·exact ⟨.inl (by omega),by omega⟩
     ·exact ⟨.inr h1,h2⟩
   constructor
   ·rintro (p | ⟨x,hx,p⟩)
    ·exact ⟨z.toNat,(e _).2 (.inl rfl),p⟩
    ·exact ⟨x,(e _).2 (.inr hx),p⟩
   ·rintro ⟨x,hx,p⟩
    rcases (e x).1 hx with rfl | h1
    ·exact .inl p
    ·exact .inr ⟨x,h1,p⟩
  ·rw[if_neg h,zcA hg zs s hs u]
   refine or_congr Iff.rfl ?_;have e:∀ x,x∈Jj g.length (z :: zs) ↔ x∈Jj g.length zs:=by
    intro x;rw[ZH,ZH,List.mem_cons];constructor
    ·rintro ⟨h1 | h1,h2⟩
     ·exact absurd (by omega) h
     ·exact ⟨h1,h2⟩
    ·rintro ⟨h1,h2⟩
     exact ⟨.inr h1,h2⟩
   exact ⟨fun ⟨x,hx,p⟩=>⟨x,(e x).2 hx,p⟩,fun ⟨x,hx,p⟩=>⟨x,(e x).1 hx,p⟩⟩
theorem zeB{g:List (List Nat)}(hg:Ok g)(zs:List Int)(u:Nat):rch g zs u=true ↔ ∃ z,z∈Jj g.length zs∧Pth g noS z u:=by
 unfold rch;rw[zcA hg zs zY (fun u hu=>by cases hu) u];constructor
 ·rintro (h | h)
  ·cases h
  ·exact h
 ·exact .inr
theorem zg0{s:Nat→Bool}(hs:zV w b s)(hf:Fit s){a:Option Addr}{l:List Int}(c:Nat)(hl:zw w a l)(hn:l.length≤2000000):
  Calls Tryz.prog 118 #[pointer (some ⟨b,0,none⟩),.slice a l.length c] w fun e w'=>e=.returned (.bool (l.all (Q6 s)))∧∃ m,w'=w.drewN m:=by
 have HH:=hid fun (z:Int) (m:Nat)=>Jx b s z (w.drewN m) (hs.kept (zc.drewN [] w m) (by simp)) hf;have HL:=hid hl;clear hl hs hf;obtain ⟨n,hln⟩:∃ n,l.length=n:=⟨_,rfl⟩;have HN:=hid hln;rw[hln] at hn ⊢;clear hln;go_enter Tryz.func118,Tryz.ntmps118;go_wp2_with fail
 go_loopw [9] (fun i wr=>∃ k m:Nat,k≤n∧i=int i64 (k:Int)∧wr=w.drewN m∧Box ((l.take k).all (Q6 s)=true)) (fun i _=>n - (intOf i).toNat)
 case atStart=>exact ⟨0,0,by omega,rfl,rfl,hid (by simp)⟩
 case round=>
  obtain ⟨k,m,hk,rfl,rfl,HA⟩:=hrel;by_cases hlt:k<n
  ·have hlt':(k:Int)<(n:Int):=by omega
   have hlt2:k<l.length:=by rw[HN.o];exact hlt
   rcases HL.o with h0 | ⟨bz,oz,rfl,hcz⟩
   ·exfalso
    rw[h0] at hlt2;simp at hlt2
   have hc:(w.drewN m).cell? ⟨bz,oz+k,none⟩=some (int i64 (l.getD k 0)):=hcz k hlt2;have HTK:=hid (qC l k 0 hlt2);have HM:=hid (qD l k 0 hlt2);obtain ⟨z,hz⟩:∃ z,l.getD k 0=z:=⟨_,rfl⟩;rw[hz] at hc HTK HM;clear hz hlt2 hcz;have HZ:=hid (HH.o z m);cases hb:Q6 s z with
   | true=>
    rw[hb] at HZ;have HB:=hid hb;clear hb;go_wp2_with (go_at_call 59;refine HZ.o.mono ?_;rintro e w3 ⟨rfl,m3,rfl⟩);go_roundw
    case rel=>exact ⟨k+1,m+m3,by omega,by go_num,rfl,hid (by rw[HTK.o,List.all_append,HA.o];simp[HB.o])⟩
    case measure=>simp[intOf];omega
   | false=>
    rw[hb] at HZ;have HB:Box (l.all (Q6 s)=false):=hid (by rw[List.all_eq_false];exact ⟨z,HM.o,by simp[hb]⟩);clear hb;go_wp2_with (go_at_call 59;refine HZ.o.mono ?_;rintro e w3 ⟨rfl,m3,rfl⟩);go_ret;exact ⟨by rw[HB.o];rfl,m+m3,rfl⟩
  ·obtain rfl:k=n:=by omega
   rw[← HN.o,List.take_length] at HA;go_wp2;go_ret;exact ⟨by rw[HA.o];rfl,m,rfl⟩
def Q4(x:Bl8)(s:Nat→Bool)(k:Nat):Bool:=
 if k<x.code.length then !((qd (qQ x k)).all (Q6 (dfS (x.code.take k) s))) else decide (x.fin=2∨x.fin=3) && !Q6 (dfS x.code s) x.reg
def zcg(x:Bl8)(s:Nat→Bool)(b:Nat)(w:World)(e:Ending)(w':World):Prop:=
 ((∃ k:Nat,k≤x.code.length∧e=.returned (int i64 (k:Int))∧Q4 x s k=true∧∀ j,j<k→Q4 x s j=false)∨(e=.returned (int i64 (-1))∧∀ k,k≤x.code.length→Q4 x s k=false))∧zc [b] w w'
theorem zfs{x:Bl8}{s:Nat→Bool}{k:Nat}(h:k<x.code.length):Q4 x s k= !((qd (qQ x k)).all (Q6 (dfS (x.code.take k) s))):=by unfold Q4;rw[if_pos h]
theorem zdH(x:Bl8)(s:Nat→Bool):Q4 x s x.code.length=(decide (x.fin=2∨x.fin=3) && !Q6 (dfS x.code s) x.reg):=by unfold Q4;rw[if_neg (by omega)]
theorem zcQ{w0:World}{bb bo:Nat}{x:Bl8}(h:BlC w0 bb bo x)(k0:zc [] w0 w)(hl:x.code.length≤1000000)(hfew:∀ k,k<x.code.length→(qQ x k).args.length≤1000){s:Nat→Bool}(hs:zV w b s)(hf:Fit s)(hb:w0.heap.size≤b):
  Calls Tryz.prog 62 #[pointer (some ⟨bb,bo,none⟩),pointer (some ⟨b,0,none⟩)] w (zcg x s b w):=by
 obtain ⟨ca,cp,c0,hrows, -⟩:=h.c0;have C0:Box (∀ w',zc [] w0 w'→w'.cell? ⟨bb,bo,none⟩=some (.slice ca x.code.length cp)∧w'.cell? ⟨bb,bo+1,none⟩=some (int i64 x.fin)∧w'.cell? ⟨bb,bo+2,none⟩=some (int i64 x.reg)):=hid fun w' k=>⟨za k c0,za k h.c1.1,za k h.c2.1⟩;have HR:=hid hrows;have HS0:=hid hs;have HK0:=hid k0;have HFEW:=hid hfew;have HBB:Box (∀ y∈[b],w0.heap.size≤y):=hid fun y hy=>by simp at hy;omega
 have HFT:=hid fun (k:Nat)=>zcn (x.code.take k) s hf;clear h c0 hrows hs k0 hfew hf hb;obtain ⟨L,hL⟩:∃ L,x.code.length=L:=⟨_,rfl⟩;rw[hL] at C0 hl;have HL:=hid hL;clear hL;obtain ⟨cc, -, -⟩:=C0.o _ HK0.o;go_enter Tryz.func62,Tryz.ntmps62;go_wp2_with fail;clear cc
 go_loopw [14] (fun i wr=>∃ k:Nat,k≤L∧i=int i64 (k:Int)∧Box (zV wr b (dfS (x.code.take k) s))∧Box (zc [b] w wr)∧Box (∀ j,j<k→Q4 x s j=false)) (fun i _=>L - (intOf i).toNat)
 case atStart=>exact ⟨0,by omega,rfl,by rw[List.take_zero];exact HS0,hid (zc.refl _ _),hid (fun j hj=>by omega)⟩
 case round=>
  clear HS0;obtain ⟨k,hk,rfl,HS,HK,HJ⟩:=hrel;have HKW:=hid (HK0.o.fresh HK.o HBB.o);by_cases hlt:k<L
  ·have hlt':(k:Int)<(L:Int):=by omega
   have hlt2:k<x.code.length:=by rw[HL.o];exact hlt
   have HTK:=hid (qC x.code k ⟨0,0,0,0,0,[]⟩ hlt2);have HBA:=hid (zfs (s:=s) hlt2);have hfw:=HFEW.o k hlt2;obtain ⟨ib,io,rfl,hin⟩:=(HR.o.quiet InC.stays HKW.o).at (j:=k) (y:=qQ x k) (zh hlt2);have HTK2:Box (x.code.take (k+1)=x.code.take k ++ [qQ x k]):=HTK;clear hlt2 HTK;obtain ⟨i,hi⟩:∃ i,qQ x k=i:=⟨_,rfl⟩;rw[hi] at hin HTK2 HBA hfw;clear hi;obtain ⟨aa,ap,h5,hz5, -⟩:=hin.c5;have h0:=hin.c0.1;have h1:=hin.c1.1;have h2:=hin.c2.1;have h3:=hin.c3.1;have h4:=hin.c4.1;clear hin;have ka:=zc.alloc [] wr (.cells #[int i64 i.op,int i64 i.dst,int i64 i.a,int i64 i.b,int i64 i.n,.slice aa i.args.length ap] 39);have hnw:=zf wr (.cells #[int i64 i.op,int i64 i.dst,int i64 i.a,int i64 i.b,int i64 i.n,.slice aa i.args.length ap] 39);have hz:=Zw hz5;have HU:=hid (zcH i aa ap _ (hz.kept ka (fun _ _ _=>by simp)) (by omega));have HD:=hid fun (w':World)=>zcs i (.slice aa i.args.length ap) w';have HLU:Box ((qd i).length≤2000000):=hid (by have:=ZZ i;omega);have HS2:=hid (HS.o.kept ka (by simp));have HK2:=hid (HK.o.quiet ka);have HNW:=hid hnw;have HSN:=hid (zf4 (x.code.take k) s i);rw[← HTK2.o] at HSN;have HF:=hid (HFT.o k);unfold zD at HU HD;unfold J6 at HD;clear ka HS HK HTK2 hz hz5 hnw;generalize hal:i.args.length=al at *;clear hal;generalize hs1:dfS (x.code.take k) s=s1 at *;clear hs1;go_upto_region 4 with fail;generalize wr.alloc (.cells #[int i64 i.op,int i64 i.dst,int i64 i.a,int i64 i.b,int i64 i.n,.slice aa al ap] 39)=wa at *;generalize hws:wr.heap.size=u at *;clear hws;have e0:=zd HNW.o 0;have e1:=zd HNW.o 1;have e2:=zd HNW.o 2;have e3:=zd HNW.o 3;have e4:=zd HNW.o 4;have e5:=zd HNW.o 5;have HHA:=hid fun (a:Option Addr) (c:Nat) (w':World) (h':zV w' b s1) (hz:zw w' a (qd i))=>zg0 h' HF.o c hz HLU.o;have HNE:Box (∀ w',zc [] wa w'→w'.heap[u]? = some (.cells #[int i64 i.op,int i64 i.dst,int i64 i.a,int i64 i.b,int i64 i.n,.slice aa al ap] 39 (0,0))):=hid fun w' k'=>ze HNW.o k';cases hall:(qd i).all (Q6 s1) with
   | false=>
    rw[hall] at HBA HHA
    go_wp2_with (first
     | (go_at_call 119;refine HU.o.mono ?_;rintro e w3 ⟨a3,c3,rfl,h3,k3⟩)
     | (go_at_call 118;refine (HHA.o a3 c3 _ (HS2.o.kept k3 (by simp)) h3).mono ?_;rintro e w4 ⟨rfl,m4,rfl⟩))
    go_ret;exact ⟨.inl ⟨k,by rw[HL.o];omega,rfl,HBA.o,HJ.o⟩,(HK2.o.quiet k3).quiet (zc.drewN [] _ _)⟩
   | true=>
    rw[hall] at HBA HHA;have HA:=hid fun (w':World) (h':zV w' b s1)=>zcC b s1 i.dst w' h' HF.o;cases hd:zP i with
    | true=>
     rw[hd] at HD HSN;rw[if_pos rfl] at HD HSN
     go_wp2_with (first
      | (go_at_call 119;refine HU.o.mono ?_;rintro e w3 ⟨a3,c3,rfl,h3,k3⟩)
      | (go_at_call 118;refine (HHA.o a3 c3 _ (HS2.o.kept k3 (by simp)) h3).mono ?_;rintro e w4 ⟨rfl,m4,rfl⟩;have k4:=k3.quiet (zc.drewN [] w3 m4);have hh:=HNE.o _ k4;have q0:=zd hh 0;have q1:=zd hh 1;have q2:=zd hh 2;have q3:=zd hh 3;have q4:=zd hh 4;have q5:=zd hh 5)
      | (go_at_call 120;refine (HD.o _).mono ?_;rintro e w5 ⟨rfl,k5⟩;have k6:=k4.quiet k5)
      | (go_at_call 121;refine (HA.o _ (HS2.o.kept k6 (by simp))).mono ?_;rintro e w7 ⟨rfl,h7,k7⟩))
     go_roundw
     case rel=>exact ⟨k+1,by omega,by go_num,hid (by rw[HSN.o];exact h7),hid ((HK2.o.quiet k6).step k7),hid (fun j hj=>by
      by_cases e:j=k
      ·subst e;exact HBA.o
      ·exact HJ.o j (by omega))⟩
     case measure=>simp[intOf];omega
    | false=>
     rw[hd] at HD HSN;rw[if_neg (by decide)] at HD HSN
     go_wp2_with (first
      | (go_at_call 119;refine HU.o.mono ?_;rintro e w3 ⟨a3,c3,rfl,h3,k3⟩)
      | (go_at_call 118;refine (HHA.o a3 c3 _ (HS2.o.kept k3 (by simp)) h3).mono ?_;rintro e w4 ⟨rfl,m4,rfl⟩;have k4:=k3.quiet (zc.drewN [] w3 m4);have hh:=HNE.o _ k4;have q0:=zd hh 0;have q1:=zd hh 1;have q2:=zd hh 2;have q3:=zd hh 3;have q4:=zd hh 4;have q5:=zd hh 5)
      | (go_at_call 120;refine (HD.o _).mono ?_;rintro e w5 ⟨rfl,k5⟩;have k6:=k4.quiet k5))
     go_roundw
     case rel=>exact ⟨k+1,by omega,by go_num,hid (by rw[HSN.o];exact HS2.o.kept k6 (by simp)),hid (HK2.o.quiet k6),hid (fun j hj=>by
      by_cases e:j=k
      ·subst e;exact HBA.o
      ·exact HJ.o j (by omega))⟩
     case measure=>simp[intOf];omega
  ·obtain rfl:k=L:=by omega
   have HBE:=hid (zdH x s);have htk:x.code.take k=x.code:=by rw[← HL.o,List.take_length]
   rw[htk] at HS;rw[HL.o] at HBE;have HF:Box (Fit (dfS x.code s)):=hid (by have:=HFT.o k;rw[htk] at this;exact this);have HH:=hid fun (z:Int) (w':World) (h':zV w' b (dfS x.code s))=>Jx b _ z w' h' HF.o;obtain ⟨q0,q1,q2⟩:=C0.o _ HKW.o;clear htk;by_cases f2:x.fin=2
   ·have HFI:Box (x.fin=2∨x.fin=3):=hid (.inl f2)
    rw[f2] at q1;clear f2;have HZ:=hid (HH.o x.reg wr HS.o);cases hz:Q6 (dfS x.code s) x.reg with
    | true=>
     rw[hz] at HZ HBE;go_wp2_with (go_at_call 59;refine HZ.o.mono ?_;rintro e w3 ⟨rfl,m3,rfl⟩);go_ret
     exact ⟨.inr ⟨rfl,fun j hj=>by
      by_cases e:j=k
      ·subst e;rw[HBE.o];simp
      ·exact HJ.o j (by rw[HL.o] at hj;omega)⟩,HK.o.quiet (zc.drewN [] _ _)⟩
    | false=>
     rw[hz] at HZ HBE;go_wp2_with (go_at_call 59;refine HZ.o.mono ?_;rintro e w3 ⟨rfl,m3,rfl⟩;have q0':(wr.drewN m3).cell? ⟨bb,bo,none⟩=some (.slice ca k cp):=q0);go_ret;exact ⟨.inl ⟨k,by rw[HL.o];omega,rfl,by rw[HBE.o];simp[HFI.o],HJ.o⟩,HK.o.quiet (zc.drewN [] _ _)⟩
   by_cases f3:x.fin=3
   ·have HFI:Box (x.fin=2∨x.fin=3):=hid (.inr f3)
    rw[f3] at q1;clear f2 f3;have HZ:=hid (HH.o x.reg wr HS.o);cases hz:Q6 (dfS x.code s) x.reg with
    | true=>
     rw[hz] at HZ HBE;go_wp2_with (go_at_call 59;refine HZ.o.mono ?_;rintro e w3 ⟨rfl,m3,rfl⟩);go_ret
     exact ⟨.inr ⟨rfl,fun j hj=>by
      by_cases e:j=k
      ·subst e;rw[HBE.o];simp
      ·exact HJ.o j (by rw[HL.o] at hj;omega)⟩,HK.o.quiet (zc.drewN [] _ _)⟩
    | false=>
     rw[hz] at HZ HBE;go_wp2_with (go_at_call 59;refine HZ.o.mono ?_;rintro e w3 ⟨rfl,m3,rfl⟩;have q0':(wr.drewN m3).cell? ⟨bb,bo,none⟩=some (.slice ca k cp):=q0);go_ret;exact ⟨.inl ⟨k,by rw[HL.o];omega,rfl,by rw[HBE.o];simp[HFI.o],HJ.o⟩,HK.o.quiet (zc.drewN [] _ _)⟩
   have HFI:Box (¬ (x.fin=2∨x.fin=3)):=hid (fun h=>h.elim f2 f3);have o2:(x.fin == 2)=false:=by simpa using f2
   have o3:(x.fin == 3)=false:=by simpa using f3
   clear f2 f3;go_wp2;go_ret
   exact ⟨.inr ⟨rfl,fun j hj=>by
    by_cases e:j=k
    ·subst e;rw[HBE.o];simp[HFI.o]
    ·exact HJ.o j (by rw[HL.o] at hj;omega)⟩,HK.o⟩
end Go.Proofs.YtkgoimokgbdgfaaGreatDoor
