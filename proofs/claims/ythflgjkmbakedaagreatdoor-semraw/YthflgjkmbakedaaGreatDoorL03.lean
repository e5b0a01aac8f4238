import Derived.Test.YthflgjkmbakedaaGreatDoorL02
set_option maxHeartbeats 2000000
namespace Go.Proofs.YthflgjkmbakedaaGreatDoor
open Go.Value (int pointer agg)
open Go.IntKind (i64)
open Go.RowKit
theorem j1i:Tryz.prog.underlying 40=some (.slice 47)∧Tryz.prog.info? 47=some Tryz.t47∧Tryz.t47.zero=some (.slice none 0 0)∧Tryz.t47.size=1∧Tryz.t47.bytes=24:=⟨by kernel_rfl,by kernel_rfl,by kernel_rfl,by kernel_rfl,by kernel_rfl⟩
theorem j1j(n c:Nat)(w:World):Calls Tryz.prog 88 #[.slice none n c] w fun e w'=>e=.returned (.slice none 0 0)∧zc [] w w':=by
 have q:∀ (w:World) (a:Option Addr) (n c n' c':Nat),(binOp .eql 40 (.slice a n c) (.slice none n' c')).run Tryz.prog w=.ok (.bool a.isNone) w:=fun w a n c n' c'=>Lib.run_eql_slice_nil w _ _ a n c n' c' Tryz.underlying40;go_enter Tryz.func88,Tryz.ntmps88;go_wp2;go_ret;exact ⟨rfl,zc.refl _ _⟩
theorem j1k(ad:Addr)(n c:Nat)(xs:List Value)(w:World)(hl:xs.length=n * 1)(hx:∀ j u,xs[j]? = some u→w.cell? (ad.add j)=some u)(h1:∀ u∈xs,u.oneCell'=true)(hb:n≤1000000):
  Calls Tryz.prog 88 #[.slice (some ad) n c] w fun e w'=>∃ g cap,e=.returned (.slice (some ⟨g,0,none⟩) n cap)∧w'.ownsRow w.heap.size 47 1 (.slice (some ⟨g,0,none⟩) n cap) n xs∧w.heap.size≤g∧zc [] w w':=by
 have q:∀ (w:World) (a:Option Addr) (n c n' c':Nat),(binOp .eql 40 (.slice a n c) (.slice none n' c')).run Tryz.prog w=.ok (.bool a.isNone) w:=fun w a n c n' c'=>Lib.run_eql_slice_nil w _ _ a n c n' c' Tryz.underlying40;obtain ⟨f1,f2,f3,f4,f5⟩:=j1i;have H:=hid hx;have HL:=hid hl;have H1:=hid h1;clear hl hx h1;go_enter Tryz.func88,Tryz.ntmps88;go_wp2_with (at_builtin;go_must (refine wpList_append_own _ rfl _ _ 40 rfl w.heap.size 47 Tryz.t47 (.slice none 0 0) 1 24 f1 f2 f3 f4 f5 rfl (by decide) _ _ _ rfl (World.ownsRow_made w #[] 0 (Nat.le_refl _) (Nat.zero_le _) rfl) ad n c xs rfl (by rw[HL.o]) (fun j u hj=>Lib.cell?_alloc_some _ (H.o j u hj)) H1.o (by unfold maxLen;omega) (by omega) (by simp) ?_;intro v' w1 hown hgrow hnil));have HO:=hid hown;have hg2:(w.alloc (Obj.cells #[] 47)).grownBy w1 (some w.heap.size):=hgrow;have HK:=hid ((zc.alloc [] w _).trans (zc.grown [w.heap.size] hg2 (fun k hk=>by simp at hk;simp[hk])) (fun x hx hlt=>by simp at hx;omega):zc [] w w1);have HNL:=hid hnil;clear hown hgrow hnil hg2;go_wp2_with fail;go_ret;have HO9:w1.ownsRow w.heap.size 47 1 v' n xs:=by simpa using HO.o
 rcases HO9.2 with ⟨hv,h0⟩ | ⟨g,cap,cur,hv,hb9,_⟩
 ·exact absurd (show Value.slice (some ⟨w.heap.size,0,none⟩) 0 0=Value.slice none 0 0 from (HNL.o.1 hv).1) (by simp)
 ·rw[hv] at HO9
  exact ⟨g,cap,by rw[hv];rfl,HO9,hb9,HK.o⟩
theorem j1l:Tryz.prog.underlying 42=some (.slice 61)∧Tryz.prog.info? 61=some Tryz.t61∧Tryz.t61.zero=some (agg #[int i64 0,int i64 0,.slice none 0 0])∧Tryz.t61.size=3∧Tryz.t61.bytes=40:=⟨by kernel_rfl,by kernel_rfl,by kernel_rfl,by kernel_rfl,by kernel_rfl⟩
theorem j1m(n c:Nat)(w:World):Calls Tryz.prog 89 #[.slice none n c] w fun e w'=>e=.returned (.slice none 0 0)∧zc [] w w':=by
 have q:∀ (w:World) (a:Option Addr) (n c n' c':Nat),(binOp .eql 42 (.slice a n c) (.slice none n' c')).run Tryz.prog w=.ok (.bool a.isNone) w:=fun w a n c n' c'=>Lib.run_eql_slice_nil w _ _ a n c n' c' Tryz.underlying42;go_enter Tryz.func89,Tryz.ntmps89;go_wp2;go_ret;exact ⟨rfl,zc.refl _ _⟩
theorem j1n(ad:Addr)(n c:Nat)(xs:List Value)(w:World)(hl:xs.length=n * 3)(hx:∀ j u,xs[j]? = some u→w.cell? (ad.add j)=some u)(h1:∀ u∈xs,u.oneCell'=true)(hb:n≤1000000):
  Calls Tryz.prog 89 #[.slice (some ad) n c] w fun e w'=>∃ g cap,e=.returned (.slice (some ⟨g,0,none⟩) n cap)∧w'.ownsRow w.heap.size 61 3 (.slice (some ⟨g,0,none⟩) n cap) n xs∧w.heap.size≤g∧zc [] w w':=by
 have q:∀ (w:World) (a:Option Addr) (n c n' c':Nat),(binOp .eql 42 (.slice a n c) (.slice none n' c')).run Tryz.prog w=.ok (.bool a.isNone) w:=fun w a n c n' c'=>Lib.run_eql_slice_nil w _ _ a n c n' c' Tryz.underlying42;obtain ⟨f1,f2,f3,f4,f5⟩:=j1l;have H:=hid hx;have HL:=hid hl;have H1:=hid h1;clear hl hx h1;go_enter Tryz.func89,Tryz.ntmps89;go_wp2_with (at_builtin;go_must (refine wpList_append_own _ rfl _ _ 42 rfl w.heap.size 61 Tryz.t61 (agg #[int i64 0,int i64 0,.slice none 0 0]) 3 40 f1 f2 f3 f4 f5 rfl (by decide) _ _ _ rfl (World.ownsRow_made w #[] 0 (Nat.le_refl _) (Nat.zero_le _) rfl) ad n c xs rfl (by rw[HL.o]) (fun j u hj=>Lib.cell?_alloc_some _ (H.o j u hj)) H1.o (by unfold maxLen;omega) (by omega) (by simp) ?_;intro v' w1 hown hgrow hnil));have HO:=hid hown;have hg2:(w.alloc (Obj.cells #[] 61)).grownBy w1 (some w.heap.size):=hgrow;have HK:=hid ((zc.alloc [] w _).trans (zc.grown [w.heap.size] hg2 (fun k hk=>by simp at hk;simp[hk])) (fun x hx hlt=>by simp at hx;omega):zc [] w w1);have HNL:=hid hnil;clear hown hgrow hnil hg2;go_wp2_with fail;go_ret;have HO9:w1.ownsRow w.heap.size 61 3 v' n xs:=by simpa using HO.o
 rcases HO9.2 with ⟨hv,h0⟩ | ⟨g,cap,cur,hv,hb9,_⟩
 ·exact absurd (show Value.slice (some ⟨w.heap.size,0,none⟩) 0 0=Value.slice none 0 0 from (HNL.o.1 hv).1) (by simp)
 ·rw[hv] at HO9
  exact ⟨g,cap,by rw[hv];rfl,HO9,hb9,HK.o⟩
theorem j1o:Tryz.prog.underlying 43=some (.slice 50)∧Tryz.prog.info? 50=some Tryz.t50∧Tryz.t50.zero=some (agg #[int i64 0,.slice none 0 0,.slice none 0 0])∧Tryz.t50.size=3∧Tryz.t50.bytes=56:=⟨by kernel_rfl,by kernel_rfl,by kernel_rfl,by kernel_rfl,by kernel_rfl⟩
theorem j1p(n c:Nat)(w:World):Calls Tryz.prog 90 #[.slice none n c] w fun e w'=>e=.returned (.slice none 0 0)∧zc [] w w':=by
 have q:∀ (w:World) (a:Option Addr) (n c n' c':Nat),(binOp .eql 43 (.slice a n c) (.slice none n' c')).run Tryz.prog w=.ok (.bool a.isNone) w:=fun w a n c n' c'=>Lib.run_eql_slice_nil w _ _ a n c n' c' Tryz.underlying43;go_enter Tryz.func90,Tryz.ntmps90;go_wp2;go_ret;exact ⟨rfl,zc.refl _ _⟩
theorem j1q(ad:Addr)(n c:Nat)(xs:List Value)(w:World)(hl:xs.length=n * 3)(hx:∀ j u,xs[j]? = some u→w.cell? (ad.add j)=some u)(h1:∀ u∈xs,u.oneCell'=true)(hb:n≤1000000):
  Calls Tryz.prog 90 #[.slice (some ad) n c] w fun e w'=>∃ g cap,e=.returned (.slice (some ⟨g,0,none⟩) n cap)∧w'.ownsRow w.heap.size 50 3 (.slice (some ⟨g,0,none⟩) n cap) n xs∧w.heap.size≤g∧zc [] w w':=by
 have q:∀ (w:World) (a:Option Addr) (n c n' c':Nat),(binOp .eql 43 (.slice a n c) (.slice none n' c')).run Tryz.prog w=.ok (.bool a.isNone) w:=fun w a n c n' c'=>Lib.run_eql_slice_nil w _ _ a n c n' c' Tryz.underlying43;obtain ⟨f1,f2,f3,f4,f5⟩:=j1o;have H:=hid hx;have HL:=hid hl;have H1:=hid h1;clear hl hx h1;go_enter Tryz.func90,Tryz.ntmps90;go_wp2_with (at_builtin;go_must (refine wpList_append_own _ rfl _ _ 43 rfl w.heap.size 50 Tryz.t50 (agg #[int i64 0,.slice none 0 0,.slice none 0 0]) 3 56 f1 f2 f3 f4 f5 rfl (by decide) _ _ _ rfl (World.ownsRow_made w #[] 0 (Nat.le_refl _) (Nat.zero_le _) rfl) ad n c xs rfl (by rw[HL.o]) (fun j u hj=>Lib.cell?_alloc_some _ (H.o j u hj)) H1.o (by unfold maxLen;omega) (by omega) (by simp) ?_;intro v' w1 hown hgrow hnil));have HO:=hid hown;have hg2:(w.alloc (Obj.cells #[] 50)).grownBy w1 (some w.heap.size):=hgrow;have HK:=hid ((zc.alloc [] w _).trans (zc.grown [w.heap.size] hg2 (fun k hk=>by simp at hk;simp[hk])) (fun x hx hlt=>by simp at hx;omega):zc [] w w1);have HNL:=hid hnil;clear hown hgrow hnil hg2;go_wp2_with fail;go_ret;have HO9:w1.ownsRow w.heap.size 50 3 v' n xs:=by simpa using HO.o
 rcases HO9.2 with ⟨hv,h0⟩ | ⟨g,cap,cur,hv,hb9,_⟩
 ·exact absurd (show Value.slice (some ⟨w.heap.size,0,none⟩) 0 0=Value.slice none 0 0 from (HNL.o.1 hv).1) (by simp)
 ·rw[hv] at HO9
  exact ⟨g,cap,by rw[hv];rfl,HO9,hb9,HK.o⟩
theorem j1r:Tryz.prog.underlying 47=some (.slice 52)∧Tryz.prog.info? 52=some Tryz.t52∧Tryz.t52.zero=some (agg #[int i64 0,int i64 0])∧Tryz.t52.size=2∧Tryz.t52.bytes=16:=⟨by kernel_rfl,by kernel_rfl,by kernel_rfl,by kernel_rfl,by kernel_rfl⟩
theorem j1s(n c:Nat)(w:World):Calls Tryz.prog 91 #[.slice none n c] w fun e w'=>e=.returned (.slice none 0 0)∧zc [] w w':=by
 have q:∀ (w:World) (a:Option Addr) (n c n' c':Nat),(binOp .eql 47 (.slice a n c) (.slice none n' c')).run Tryz.prog w=.ok (.bool a.isNone) w:=fun w a n c n' c'=>Lib.run_eql_slice_nil w _ _ a n c n' c' Tryz.underlying47;go_enter Tryz.func91,Tryz.ntmps91;go_wp2;go_ret;exact ⟨rfl,zc.refl _ _⟩
theorem j1t(ad:Addr)(n c:Nat)(xs:List Value)(w:World)(hl:xs.length=n * 2)(hx:∀ j u,xs[j]? = some u→w.cell? (ad.add j)=some u)(h1:∀ u∈xs,u.oneCell'=true)(hb:n≤1000000):
  Calls Tryz.prog 91 #[.slice (some ad) n c] w fun e w'=>∃ g cap,e=.returned (.slice (some ⟨g,0,none⟩) n cap)∧w'.ownsRow w.heap.size 52 2 (.slice (some ⟨g,0,none⟩) n cap) n xs∧w.heap.size≤g∧zc [] w w':=by
 have q:∀ (w:World) (a:Option Addr) (n c n' c':Nat),(binOp .eql 47 (.slice a n c) (.slice none n' c')).run Tryz.prog w=.ok (.bool a.isNone) w:=fun w a n c n' c'=>Lib.run_eql_slice_nil w _ _ a n c n' c' Tryz.underlying47;obtain ⟨f1,f2,f3,f4,f5⟩:=j1r;have H:=hid hx;have HL:=hid hl;have H1:=hid h1;clear hl hx h1;go_enter Tryz.func91,Tryz.ntmps91;go_wp2_with (at_builtin;go_must (refine wpList_append_own _ rfl _ _ 47 rfl w.heap.size 52 Tryz.t52 (agg #[int i64 0,int i64 0]) 2 16 f1 f2 f3 f4 f5 rfl (by decide) _ _ _ rfl (World.ownsRow_made w #[] 0 (Nat.le_refl _) (Nat.zero_le _) rfl) ad n c xs rfl (by rw[HL.o]) (fun j u hj=>Lib.cell?_alloc_some _ (H.o j u hj)) H1.o (by unfold maxLen;omega) (by omega) (by simp) ?_;intro v' w1 hown hgrow hnil));have HO:=hid hown;have hg2:(w.alloc (Obj.cells #[] 52)).grownBy w1 (some w.heap.size):=hgrow;have HK:=hid ((zc.alloc [] w _).trans (zc.grown [w.heap.size] hg2 (fun k hk=>by simp at hk;simp[hk])) (fun x hx hlt=>by simp at hx;omega):zc [] w w1);have HNL:=hid hnil;clear hown hgrow hnil hg2;go_wp2_with fail;go_ret;have HO9:w1.ownsRow w.heap.size 52 2 v' n xs:=by simpa using HO.o
 rcases HO9.2 with ⟨hv,h0⟩ | ⟨g,cap,cur,hv,hb9,_⟩
 ·exact absurd (show Value.slice (some ⟨w.heap.size,0,none⟩) 0 0=Value.slice none 0 0 from (HNL.o.1 hv).1) (by simp)
 ·rw[hv] at HO9
  exact ⟨g,cap,by rw[hv];rfl,HO9,hb9,HK.o⟩
theorem j1u:Tryz.prog.underlying 36=some (.slice 3)∧Tryz.prog.info? 3=some Tryz.t3∧Tryz.t3.zero=some (int i64 0)∧Tryz.t3.size=1∧Tryz.t3.bytes=8:=⟨by kernel_rfl,by kernel_rfl,by kernel_rfl,by kernel_rfl,by kernel_rfl⟩
theorem j1v(n c:Nat)(w:World):Calls Tryz.prog 92 #[.slice none n c] w fun e w'=>e=.returned (.slice none 0 0)∧zc [] w w':=by
 have q:∀ (w:World) (a:Option Addr) (n c n' c':Nat),(binOp .eql 36 (.slice a n c) (.slice none n' c')).run Tryz.prog w=.ok (.bool a.isNone) w:=fun w a n c n' c'=>Lib.run_eql_slice_nil w _ _ a n c n' c' Tryz.underlying36;go_enter Tryz.func92,Tryz.ntmps92;go_wp2;go_ret;exact ⟨rfl,zc.refl _ _⟩
theorem j1w(ad:Addr)(n c:Nat)(xs:List Value)(w:World)(hl:xs.length=n * 1)(hx:∀ j u,xs[j]? = some u→w.cell? (ad.add j)=some u)(h1:∀ u∈xs,u.oneCell'=true)(hb:n≤1000000):
  Calls Tryz.prog 92 #[.slice (some ad) n c] w fun e w'=>∃ g cap,e=.returned (.slice (some ⟨g,0,none⟩) n cap)∧w'.ownsRow w.heap.size 3 1 (.slice (some ⟨g,0,none⟩) n cap) n xs∧w.heap.size≤g∧zc [] w w':=by
 have q:∀ (w:World) (a:Option Addr) (n c n' c':Nat),(binOp .eql 36 (.slice a n c) (.slice none n' c')).run Tryz.prog w=.ok (.bool a.isNone) w:=fun w a n c n' c'=>Lib.run_eql_slice_nil w _ _ a n c n' c' Tryz.underlying36;obtain ⟨f1,f2,f3,f4,f5⟩:=j1u;have H:=hid hx;have HL:=hid hl;have H1:=hid h1;clear hl hx h1;go_enter Tryz.func92,Tryz.ntmps92;go_wp2_with (at_builtin;go_must (refine wpList_append_own _ rfl _ _ 36 rfl w.heap.size 3 Tryz.t3 (int i64 0) 1 8 f1 f2 f3 f4 f5 rfl (by decide) _ _ _ rfl (World.ownsRow_made w #[] 0 (Nat.le_refl _) (Nat.zero_le _) rfl) ad n c xs rfl (by rw[HL.o]) (fun j u hj=>Lib.cell?_alloc_some _ (H.o j u hj)) H1.o (by unfold maxLen;omega) (by omega) (by simp) ?_;intro v' w1 hown hgrow hnil));have HO:=hid hown;have hg2:(w.alloc (Obj.cells #[] 3)).grownBy w1 (some w.heap.size):=hgrow;have HK:=hid ((zc.alloc [] w _).trans (zc.grown [w.heap.size] hg2 (fun k hk=>by simp at hk;simp[hk])) (fun x hx hlt=>by simp at hx;omega):zc [] w w1);have HNL:=hid hnil;clear hown hgrow hnil hg2;go_wp2_with fail;go_ret;have HO9:w1.ownsRow w.heap.size 3 1 v' n xs:=by simpa using HO.o
 rcases HO9.2 with ⟨hv,h0⟩ | ⟨g,cap,cur,hv,hb9,_⟩
 ·exact absurd (show Value.slice (some ⟨w.heap.size,0,none⟩) 0 0=Value.slice none 0 0 from (HNL.o.1 hv).1) (by simp)
 ·rw[hv] at HO9
  exact ⟨g,cap,by rw[hv];rfl,HO9,hb9,HK.o⟩
theorem j1x:Tryz.prog.underlying 48=some (.slice 57)∧Tryz.prog.info? 57=some Tryz.t57∧Tryz.t57.zero=some (agg #[.slice none 0 0,int i64 0,int i64 0,int i64 0,int i64 0])∧Tryz.t57.size=5∧Tryz.t57.bytes=56:=⟨by kernel_rfl,by kernel_rfl,by kernel_rfl,by kernel_rfl,by kernel_rfl⟩
theorem j1y(n c:Nat)(w:World):Calls Tryz.prog 139 #[.slice none n c] w fun e w'=>e=.returned (.slice none 0 0)∧zc [] w w':=by
 have q:∀ (w:World) (a:Option Addr) (n c n' c':Nat),(binOp .eql 48 (.slice a n c) (.slice none n' c')).run Tryz.prog w=.ok (.bool a.isNone) w:=fun w a n c n' c'=>Lib.run_eql_slice_nil w _ _ a n c n' c' Tryz.underlying48;go_enter Tryz.func139,Tryz.ntmps139;go_wp2;go_ret;exact ⟨rfl,zc.refl _ _⟩
theorem j1z(ad:Addr)(n c:Nat)(xs:List Value)(w:World)(hl:xs.length=n * 5)(hx:∀ j u,xs[j]? = some u→w.cell? (ad.add j)=some u)(h1:∀ u∈xs,u.oneCell'=true)(hb:n≤1000000):
  Calls Tryz.prog 139 #[.slice (some ad) n c] w fun e w'=>∃ g cap,e=.returned (.slice (some ⟨g,0,none⟩) n cap)∧w'.ownsRow w.heap.size 57 5 (.slice (some ⟨g,0,none⟩) n cap) n xs∧w.heap.size≤g∧zc [] w w':=by
 have q:∀ (w:World) (a:Option Addr) (n c n' c':Nat),(binOp .eql 48 (.slice a n c) (.slice none n' c')).run Tryz.prog w=.ok (.bool a.isNone) w:=fun w a n c n' c'=>Lib.run_eql_slice_nil w _ _ a n c n' c' Tryz.underlying48;obtain ⟨f1,f2,f3,f4,f5⟩:=j1x;have H:=hid hx;have HL:=hid hl;have H1:=hid h1;clear hl hx h1;go_enter Tryz.func139,Tryz.ntmps139;go_wp2_with (at_builtin;go_must (refine wpList_append_own _ rfl _ _ 48 rfl w.heap.size 57 Tryz.t57 (agg #[.slice none 0 0,int i64 0,int i64 0,int i64 0,int i64 0]) 5 56 f1 f2 f3 f4 f5 rfl (by decide) _ _ _ rfl (World.ownsRow_made w #[] 0 (Nat.le_refl _) (Nat.zero_le _) rfl) ad n c xs rfl (by rw[HL.o]) (fun j u hj=>Lib.cell?_alloc_some _ (H.o j u hj)) H1.o (by unfold maxLen;omega) (by omega) (by simp) ?_;intro v' w1 hown hgrow hnil));have HO:=hid hown;have hg2:(w.alloc (Obj.cells #[] 57)).grownBy w1 (some w.heap.size):=hgrow;have HK:=hid ((zc.alloc [] w _).trans (zc.grown [w.heap.size] hg2 (fun k hk=>by simp at hk;simp[hk])) (fun x hx hlt=>by simp at hx;omega):zc [] w w1);have HNL:=hid hnil;clear hown hgrow hnil hg2;go_wp2_with fail;go_ret;have HO9:w1.ownsRow w.heap.size 57 5 v' n xs:=by simpa using HO.o
 rcases HO9.2 with ⟨hv,h0⟩ | ⟨g,cap,cur,hv,hb9,_⟩
 ·exact absurd (show Value.slice (some ⟨w.heap.size,0,none⟩) 0 0=Value.slice none 0 0 from (HNL.o.1 hv).1) (by simp)
 ·rw[hv] at HO9
  exact ⟨g,cap,by rw[hv];rfl,HO9,hb9,HK.o⟩
theorem j10:Tryz.prog.underlying 55=some (.slice 54)∧Tryz.prog.info? 54=some Tryz.t54∧Tryz.t54.zero=some (agg #[int i64 0,int i64 0,int i64 0,int i64 0,int i64 0,.slice none 0 0])∧Tryz.t54.size=6∧Tryz.t54.bytes=64:=⟨by kernel_rfl,by kernel_rfl,by kernel_rfl,by kernel_rfl,by kernel_rfl⟩
theorem j11(n c:Nat)(w:World):Calls Tryz.prog 140 #[.slice none n c] w fun e w'=>e=.returned (.slice none 0 0)∧zc [] w w':=by
 have q:∀ (w:World) (a:Option Addr) (n c n' c':Nat),(binOp .eql 55 (.slice a n c) (.slice none n' c')).run Tryz.prog w=.ok (.bool a.isNone) w:=fun w a n c n' c'=>Lib.run_eql_slice_nil w _ _ a n c n' c' Tryz.underlying55;go_enter Tryz.func140,Tryz.ntmps140;go_wp2;go_ret;exact ⟨rfl,zc.refl _ _⟩
theorem j12(ad:Addr)(n c:Nat)(xs:List Value)(w:World)(hl:xs.length=n * 6)(hx:∀ j u,xs[j]? = some u→w.cell? (ad.add j)=some u)(h1:∀ u∈xs,u.oneCell'=true)(hb:n≤1000000):
  Calls Tryz.prog 140 #[.slice (some ad) n c] w fun e w'=>∃ g cap,e=.returned (.slice (some ⟨g,0,none⟩) n cap)∧w'.ownsRow w.heap.size 54 6 (.slice (some ⟨g,0,none⟩) n cap) n xs∧w.heap.size≤g∧zc [] w w':=by
 have q:∀ (w:World) (a:Option Addr) (n c n' c':Nat),(binOp .eql 55 (.slice a n c) (.slice none n' c')).run Tryz.prog w=.ok (.bool a.isNone) w:=fun w a n c n' c'=>Lib.run_eql_slice_nil w _ _ a n c n' c' Tryz.underlying55;obtain ⟨f1,f2,f3,f4,f5⟩:=j10;have H:=hid hx;have HL:=hid hl;have H1:=hid h1;clear hl hx h1;go_enter Tryz.func140,Tryz.ntmps140;go_wp2_with (at_builtin;go_must (refine wpList_append_own _ rfl _ _ 55 rfl w.heap.size 54 Tryz.t54 (agg #[int i64 0,int i64 0,int i64 0,int i64 0,int i64 0,.slice none 0 0]) 6 64 f1 f2 f3 f4 f5 rfl (by decide) _ _ _ rfl (World.ownsRow_made w #[] 0 (Nat.le_refl _) (Nat.zero_le _) rfl) ad n c xs rfl (by rw[HL.o]) (fun j u hj=>Lib.cell?_alloc_some _ (H.o j u hj)) H1.o (by unfold maxLen;omega) (by omega) (by simp) ?_;intro v' w1 hown hgrow hnil));have HO:=hid hown;have hg2:(w.alloc (Obj.cells #[] 54)).grownBy w1 (some w.heap.size):=hgrow;have HK:=hid ((zc.alloc [] w _).trans (zc.grown [w.heap.size] hg2 (fun k hk=>by simp at hk;simp[hk])) (fun x hx hlt=>by simp at hx;omega):zc [] w w1);have HNL:=hid hnil;clear hown hgrow hnil hg2;go_wp2_with fail;go_ret;have HO9:w1.ownsRow w.heap.size 54 6 v' n xs:=by simpa using HO.o
 rcases HO9.2 with ⟨hv,h0⟩ | ⟨g,cap,cur,hv,hb9,_⟩
 ·exact absurd (show Value.slice (some ⟨w.heap.size,0,none⟩) 0 0=Value.slice none 0 0 from (HNL.o.1 hv).1) (by simp)
 ·rw[hv] at HO9
  exact ⟨g,cap,by rw[hv];rfl,HO9,hb9,HK.o⟩
theorem j13:Tryz.prog.underlying 23=some (.slice 2)∧Tryz.prog.info? 2=some Tryz.t2∧Tryz.t2.zero=some (int i64 0)∧Tryz.t2.size=1∧Tryz.t2.bytes=8:=⟨by kernel_rfl,by kernel_rfl,by kernel_rfl,by kernel_rfl,by kernel_rfl⟩
theorem j14(n c:Nat)(w:World):Calls Tryz.prog 55 #[.slice none n c] w fun e w'=>e=.returned (.slice none 0 0)∧zc [] w w':=by
 have q:∀ (w:World) (a:Option Addr) (n c n' c':Nat),(binOp .eql 23 (.slice a n c) (.slice none n' c')).run Tryz.prog w=.ok (.bool a.isNone) w:=fun w a n c n' c'=>Lib.run_eql_slice_nil w _ _ a n c n' c' Tryz.underlying23;go_enter Tryz.func55,Tryz.ntmps55;go_wp2;go_ret;exact ⟨rfl,zc.refl _ _⟩
theorem j15(ad:Addr)(n c:Nat)(xs:List Value)(w:World)(hl:xs.length=n * 1)(hx:∀ j u,xs[j]? = some u→w.cell? (ad.add j)=some u)(h1:∀ u∈xs,u.oneCell'=true)(hb:n≤1000000):
  Calls Tryz.prog 55 #[.slice (some ad) n c] w fun e w'=>∃ g cap,e=.returned (.slice (some ⟨g,0,none⟩) n cap)∧w'.ownsRow w.heap.size 2 1 (.slice (some ⟨g,0,none⟩) n cap) n xs∧w.heap.size≤g∧zc [] w w':=by
 have q:∀ (w:World) (a:Option Addr) (n c n' c':Nat),(binOp .eql 23 (.slice a n c) (.slice none n' c')).run Tryz.prog w=.ok (.bool a.isNone) w:=fun w a n c n' c'=>Lib.run_eql_slice_nil w _ _ a n c n' c' Tryz.underlying23;obtain ⟨f1,f2,f3,f4,f5⟩:=j13;have H:=hid hx;have HL:=hid hl;have H1:=hid h1;clear hl hx h1;go_enter Tryz.func55,Tryz.ntmps55;go_wp2_with (at_builtin;go_must (refine wpList_append_own _ rfl _ _ 23 rfl w.heap.size 2 Tryz.t2 (int i64 0) 1 8 f1 f2 f3 f4 f5 rfl (by decide) _ _ _ rfl (World.ownsRow_made w #[] 0 (Nat.le_refl _) (Nat.zero_le _) rfl) ad n c xs rfl (by rw[HL.o]) (fun j u hj=>Lib.cell?_alloc_some _ (H.o j u hj)) H1.o (by unfold maxLen;omega) (by omega) (by simp) ?_;intro v' w1 hown hgrow hnil));have HO:=hid hown;have hg2:(w.alloc (Obj.cells #[] 2)).grownBy w1 (some w.heap.size):=hgrow;have HK:=hid ((zc.alloc [] w _).trans (zc.grown [w.heap.size] hg2 (fun k hk=>by simp at hk;simp[hk])) (fun x hx hlt=>by simp at hx;omega):zc [] w w1);have HNL:=hid hnil;clear hown hgrow hnil hg2;go_wp2_with fail;go_ret;have HO9:w1.ownsRow w.heap.size 2 1 v' n xs:=by simpa using HO.o
 rcases HO9.2 with ⟨hv,h0⟩ | ⟨g,cap,cur,hv,hb9,_⟩
 ·exact absurd (show Value.slice (some ⟨w.heap.size,0,none⟩) 0 0=Value.slice none 0 0 from (HNL.o.1 hv).1) (by simp)
 ·rw[hv] at HO9
  exact ⟨g,cap,by rw[hv];rfl,HO9,hb9,HK.o⟩
def RawC{α:Type}(c:Nat)(R:World→Nat→Nat→α→Prop):Prop:=∀ w b o y,R w b o y→∃ us:List Value,us.length=c∧(∀ i u,us[i]? = some u→w.cell? ⟨b,o+i,none⟩=some u)∧∀ u,u∈us→u.oneCell'=true
theorem raws{α:Type}{c:Nat}{R:World→Nat→Nat→α→Prop}(hR:RawC c R){w:World}{b:Nat}:∀ (l:List α) (off:Nat),(∀ j y,l[j]? = some y→R w b (off+j * c) y)→∃ xs:List Value,xs.length=l.length * c∧(∀ m u,xs[m]? = some u→w.cell? ⟨b,off+m,none⟩=some u)∧∀ u,u∈xs→u.oneCell'=true
 | [],off,_=>⟨[],by simp,fun m u h=>by simp at h,fun u h=>by cases h⟩
 | q :: l,off,h=>by
  obtain ⟨us,h1,h2,h3⟩:=hR w b (off+0 * c) q (h 0 q rfl);rw[Nat.zero_mul,Nat.add_zero] at h2
  obtain ⟨xs,g1,g2,g3⟩:=raws hR l (off+c) (fun j y hy=>by
   have:=h (j+1) y (by simpa using hy)
   rwa [show off+(j+1) * c=off+c+j * c by rw[Nat.succ_mul];omega] at this)
  refine ⟨us ++ xs,by rw[List.length_append,h1,g1,List.length_cons,Nat.succ_mul,Nat.add_comm],fun m u hm=> ?_,fun u hu=> ?_⟩
  ·by_cases hlt:m<us.length
   ·rw[List.getElem?_append_left hlt] at hm
    exact h2 m u hm
   ·rw[List.getElem?_append_right (by omega)] at hm
    have:=g2 _ u hm
    rwa [show off+c+(m - us.length)=off+m by omega] at this
  ·rcases List.mem_append.1 hu with hu | hu
   ·exact h3 u hu
   ·exact g3 u hu
theorem j16:RawC 1 ji:=fun w b o y h=>⟨[int i64 y],rfl,fun i u hu=>by
 cases i with
 | zero=>simp at hu;subst hu;exact h.1
 | succ i=>simp at hu,fun u hu=>by simp at hu;subst hu;rfl⟩
theorem j17{α:Type}{c:Nat}{R:World→Nat→Nat→α→Prop}:RawC 1 (SlC c R):=fun w b o y ⟨a,cp,h,_⟩=>⟨[.slice a y.length cp],rfl,fun i u hu=>by
 cases i with
 | zero=>simp at hu;subst hu;exact h
 | succ i=>simp at hu,fun u hu=>by simp at hu;subst hu;rfl⟩
theorem j18{c:Nat}{w:World}{b o:Nat}(us:List Value)(hl:us.length=c)(h:∀ i,i<c→w.cell? ⟨b,o+i,none⟩=us[i]?):∀ i u,us[i]? = some u→w.cell? ⟨b,o+i,none⟩=some u:=fun i u hu=>by
 rw[h i (by rw[← hl];exact (List.getElem?_eq_some_iff.1 hu).1),hu]
theorem j19:RawC 2 TyC:=fun w b o y h=>⟨[int i64 y.1,int i64 y.2],rfl,j18 _ rfl (fun i hi=>by
 match i,hi with
 | 0,_=>exact h.c0.1
 | 1,_=>exact h.c1.1),fun u hu=>by simp at hu;rcases hu with rfl | rfl <;> rfl⟩
theorem j2a:RawC 3 ImC:=fun w b o y h=>by
 obtain ⟨a,cp,h2,_⟩:=h.c2
 exact ⟨[int i64 y.1,int i64 y.2.1,.slice a y.2.2.length cp],rfl,j18 _ rfl (fun i hi=>by
  match i,hi with
  | 0,_=>exact h.c0.1
  | 1,_=>exact h.c1.1
  | 2,_=>exact h2),fun u hu=>by simp at hu;rcases hu with rfl | rfl | rfl <;> rfl⟩
theorem j2b:RawC 3 FuC:=fun w b o y h=>by
 obtain ⟨a,cp,h1,_⟩:=h.c1;obtain ⟨a',cp',h2,_⟩:=h.c2
 exact ⟨[int i64 y.sig,.slice a y.regs.length cp,.slice a' y.blocks.length cp'],rfl,j18 _ rfl (fun i hi=>by
  match i,hi with
  | 0,_=>exact h.c0.1
  | 1,_=>exact h1
  | 2,_=>exact h2),fun u hu=>by simp at hu;rcases hu with rfl | rfl | rfl <;> rfl⟩
theorem j2c:RawC 5 BlC:=fun w b o y h=>by
 obtain ⟨a,cp,h0,_⟩:=h.c0
 exact ⟨[.slice a y.code.length cp,int i64 y.fin,int i64 y.reg,int i64 y.to,int i64 y.els],rfl,j18 _ rfl (fun i hi=>by
  match i,hi with
  | 0,_=>exact h0
  | 1,_=>exact h.c1.1
  | 2,_=>exact h.c2.1
  | 3,_=>exact h.c3.1
  | 4,_=>exact h.c4.1),fun u hu=>by simp at hu;rcases hu with rfl | rfl | rfl | rfl | rfl <;> rfl⟩
theorem j2d:RawC 6 InC:=fun w b o y h=>by
 obtain ⟨a,cp,h5,_⟩:=h.c5
 exact ⟨[int i64 y.op,int i64 y.dst,int i64 y.a,int i64 y.b,int i64 y.n,.slice a y.args.length cp],rfl,j18 _ rfl (fun i hi=>by
  match i,hi with
  | 0,_=>exact h.c0.1
  | 1,_=>exact h.c1.1
  | 2,_=>exact h.c2.1
  | 3,_=>exact h.c3.1
  | 4,_=>exact h.c4.1
  | 5,_=>exact h5),fun u hu=>by simp at hu;rcases hu with rfl | rfl | rfl | rfl | rfl | rfl <;> rfl⟩
theorem j2e{w:World}{B g n c cap:Nat}{T:TypeId}{rs:List Value}(h:w.ownsRow B T c (.slice (some ⟨g,0,none⟩) n cap) n rs){m:Nat}{u:Value}(hu:rs[m]? = some u):(zod B w).cell? ⟨g,m,none⟩=some u∧w.cell? ⟨g,m,none⟩=some u:=by
 rcases h.2 with ⟨h',_⟩ | ⟨g',cap',cur,h',hB,hg,_⟩
 ·simp at h'
 ·simp only[Value.slice.injEq,Option.some.injEq,Addr.mk.injEq,and_true,true_and] at h'
  obtain ⟨rfl,rfl⟩:=h';have e:=(h.cellAt m (by rw[← h.1];exact (List.getElem?_eq_some_iff.1 hu).1)).trans hu;exact ⟨j0u hB e,e⟩
theorem j2f(b off:Nat)(j:Nat):(⟨b,off,none⟩:Addr).add j=⟨b,off+j,none⟩:=by unfold Addr.add;split <;> simp_all
theorem j2g{w:World}{b off n c:Nat}{xs:List Value}(hl:xs.length=n * c)(hx:∀ m u,xs[m]? = some u→w.cell? ⟨b,off+m,none⟩=some u){m:Nat}(hm:m<n * c){u:Value}(hu:w.cell? ⟨b,off+m,none⟩=some u):xs[m]? = some u:=by
 have h:=List.getElem?_eq_getElem (l:=xs) (i:=m) (by omega);rw[h];have:=hx m _ h;rw[hu] at this;exact this.symm
theorem j2h{w:World}{a:Option Addr}{cp:Nat}{l:List (Int × Int)}(h:z7 w 2 TyC a l)(hl:l.length≤1000):Calls Tryz.prog 91 #[.slice a l.length cp] w fun e w'=>∃ v,e=.returned v∧zlv (zod w.heap.size w') v l∧zc [] w w':=by
 cases a with
 | none=>
  have e:l=[]:=by
   rcases h with e | ⟨b,off,e,_⟩
   ·exact e
   ·cases e
  subst e;refine (j1s 0 cp w).mono ?_;rintro e w' ⟨rfl,k⟩;exact ⟨_,rfl,⟨none,0,rfl,.inl rfl,Nat.le_refl _,Nat.zero_le _⟩,k⟩
 | some ad=>
  by_cases e:l=[]
  ·subst e
   refine (j1t ad 0 cp [] w rfl (fun j u hu=>by simp at hu) (fun u hu=>by cases hu) (by omega)).mono ?_;rintro e w' ⟨g,cap,rfl,own,_,k⟩;exact ⟨_,rfl,⟨_,cap,rfl,.inl rfl,Nat.zero_le _,Nat.zero_le _⟩,k⟩
  ·rcases h with e' | ⟨b,off,e',hr⟩
   ·exact absurd e' e
   ·cases e'
    obtain ⟨xs,x1,x2,x3⟩:=raws j19 l off hr;refine (j1t ⟨b,off,none⟩ l.length cp xs w x1 (fun j u hu=>by rw[j2f];exact x2 j u hu) x3 (by omega)).mono ?_;rintro e9 w' ⟨g,cap,rfl,own,hg,k⟩;refine ⟨_,rfl,⟨_,cap,rfl,.inr ⟨g,0,rfl,fun j y hy=> ?_⟩,?_,by unfold maxLen;omega⟩,k⟩
    ·have hj:=(List.getElem?_eq_some_iff.1 hy).1
     have r:=hr j y hy;rw[Nat.zero_add];exact ⟨⟨(j2e own (j2g x1 x2 (by omega) r.c0.1)).1,r.c0.2⟩,⟨(j2e own (j2g x1 x2 (by omega) (by rw[← Nat.add_assoc];exact r.c1.1))).1,r.c1.2⟩⟩
    ·rcases own.2 with ⟨h',_⟩ | ⟨g',cap',cur,h',_,_,hn,_⟩
     ·simp at h'
     ·simp at h'
      omega
theorem j2i{w:World}{a:Option Addr}{cp:Nat}{l:List Int}(h:z7 w 1 ji a l)(hl:l.length≤1000):Calls Tryz.prog 92 #[.slice a l.length cp] w fun e w'=>∃ v,e=.returned v∧zkL (zod w.heap.size w') v l∧zc [] w w':=by
 cases a with
 | none=>
  have e:l=[]:=by
   rcases h with e | ⟨b,off,e,_⟩
   ·exact e
   ·cases e
  subst e;refine (j1v 0 cp w).mono ?_;rintro e w' ⟨rfl,k⟩;exact ⟨_,rfl,⟨none,0,rfl,.inl rfl,Nat.le_refl _,Nat.zero_le _⟩,k⟩
 | some ad=>
  by_cases e:l=[]
  ·subst e
   refine (j1w ad 0 cp [] w rfl (fun j u hu=>by simp at hu) (fun u hu=>by cases hu) (by omega)).mono ?_;rintro e w' ⟨g,cap,rfl,own,_,k⟩;exact ⟨_,rfl,⟨_,cap,rfl,.inl rfl,Nat.zero_le _,Nat.zero_le _⟩,k⟩
  ·rcases h with e' | ⟨b,off,e',hr⟩
   ·exact absurd e' e
   ·cases e'
    obtain ⟨xs,x1,x2,x3⟩:=raws j16 l off hr;refine (j1w ⟨b,off,none⟩ l.length cp xs w x1 (fun j u hu=>by rw[j2f];exact x2 j u hu) x3 (by omega)).mono ?_;rintro e9 w' ⟨g,cap,rfl,own,hg,k⟩;refine ⟨_,rfl,⟨_,cap,rfl,.inr ⟨g,0,rfl,fun j y hy=> ?_⟩,?_,by unfold maxLen;omega⟩,k⟩
    ·have hj:=(List.getElem?_eq_some_iff.1 hy).1
     have r:=hr j y hy;rw[Nat.zero_add];exact ⟨(j2e own (j2g x1 x2 (by omega) r.1)).1,r.2⟩
    ·rcases own.2 with ⟨h',_⟩ | ⟨g',cap',cur,h',_,_,hn,_⟩
     ·simp at h'
     ·simp at h'
      omega
def CpP(w:World)(n c:Nat)(T:TypeId)(hx:List Value→Prop)(e:Ending)(w':World):Prop:=
 ∃ a cap,e=.returned (.slice a n cap)∧((a=none∧n=0∧cap=0)∨∃ g xs,a=some ⟨g,0,none⟩∧w'.ownsRow w.heap.size T c (.slice (some ⟨g,0,none⟩) n cap) n xs∧w.heap.size≤g∧hx xs)∧zc [] w w'
theorem j2j{w:World}{a:Option Addr}{cp:Nat}{l:List In8}(h:z7 w 6 InC a l)(hl:l.length≤1000):Calls Tryz.prog 140 #[.slice a l.length cp] w (CpP w l.length 6 54 fun xs=>l≠[]→∃ b off,a=some ⟨b,off,none⟩∧(∀ m u,xs[m]? = some u→w.cell? ⟨b,off+m,none⟩=some u)∧xs.length=l.length * 6):=by
 cases a with
 | none=>
  have e:l=[]:=by
   rcases h with e | ⟨b,off,e,_⟩
   ·exact e
   ·cases e
  subst e;refine (j11 0 cp w).mono ?_;rintro e w' ⟨rfl,k⟩;exact ⟨none,0,rfl,.inl ⟨rfl,rfl,rfl⟩,k⟩
 | some ad=>
  by_cases e:l=[]
  ·subst e
   refine (j12 ad 0 cp [] w rfl (fun j u hu=>by simp at hu) (fun u hu=>by cases hu) (by omega)).mono ?_;rintro e w' ⟨g,cap,rfl,own,hg,k⟩;exact ⟨_,cap,rfl,.inr ⟨g,[],rfl,own,hg,fun h=>absurd rfl h⟩,k⟩
  ·rcases h with e' | ⟨b,off,e',hr⟩
   ·exact absurd e' e
   ·cases e'
    obtain ⟨xs,x1,x2,x3⟩:=raws j2d l off hr;refine (j12 ⟨b,off,none⟩ l.length cp xs w x1 (fun j u hu=>by rw[j2f];exact x2 j u hu) x3 (by omega)).mono ?_;rintro e9 w' ⟨g,cap,rfl,own,hg,k⟩;exact ⟨_,cap,rfl,.inr ⟨g,xs,rfl,own,hg,fun _=>⟨b,off,rfl,x2,x1⟩⟩,k⟩
theorem j2k{w:World}{a:Option Addr}{cp:Nat}{l:List Bl8}(h:z7 w 5 BlC a l)(hl:l.length≤1000):Calls Tryz.prog 139 #[.slice a l.length cp] w (CpP w l.length 5 57 fun xs=>l≠[]→∃ b off,a=some ⟨b,off,none⟩∧(∀ m u,xs[m]? = some u→w.cell? ⟨b,off+m,none⟩=some u)∧xs.length=l.length * 5):=by
 cases a with
 | none=>
  have e:l=[]:=by
   rcases h with e | ⟨b,off,e,_⟩
   ·exact e
   ·cases e
  subst e;refine (j1y 0 cp w).mono ?_;rintro e w' ⟨rfl,k⟩;exact ⟨none,0,rfl,.inl ⟨rfl,rfl,rfl⟩,k⟩
 | some ad=>
  by_cases e:l=[]
  ·subst e
   refine (j1z ad 0 cp [] w rfl (fun j u hu=>by simp at hu) (fun u hu=>by cases hu) (by omega)).mono ?_;rintro e w' ⟨g,cap,rfl,own,hg,k⟩;exact ⟨_,cap,rfl,.inr ⟨g,[],rfl,own,hg,fun h=>absurd rfl h⟩,k⟩
  ·rcases h with e' | ⟨b,off,e',hr⟩
   ·exact absurd e' e
   ·cases e'
    obtain ⟨xs,x1,x2,x3⟩:=raws j2c l off hr;refine (j1z ⟨b,off,none⟩ l.length cp xs w x1 (fun j u hu=>by rw[j2f];exact x2 j u hu) x3 (by omega)).mono ?_;rintro e9 w' ⟨g,cap,rfl,own,hg,k⟩;exact ⟨_,cap,rfl,.inr ⟨g,xs,rfl,own,hg,fun _=>⟨b,off,rfl,x2,x1⟩⟩,k⟩
def CdI(w0 wr:World)(a:Option Addr)(n cap:Nat)(l:List In8)(k:Nat)(xs:List Value):Prop:=
 (a=none∧n=0∧cap=0)∨∃ g rs,a=some ⟨g,0,none⟩∧KL InV wr (g+1) w0.heap.size g n 6 cap 54 (l.take k) rs xs∧w0.heap.size≤g
theorem CdI.all{w0 wr:World}{a:Option Addr}{n cap:Nat}{l:List In8}{xs:List Value}(h:CdI w0 wr a n cap l n xs)(hn:n=l.length)(hm:n≤1000):znH (zod w0.heap.size wr) (.slice a l.length cap) l:=by
 rcases h with ⟨rfl,h0,rfl⟩ | ⟨g,rs,rfl,h2,h3⟩
 ·have:l=[]:=List.eq_nil_of_length_eq_zero (by omega)
  subst this;exact ⟨none,0,rfl,.inl rfl,Nat.le_refl _,Nat.zero_le _⟩
 ·subst hn
  rw[List.take_length] at h2;exact h2.rows InV.sub InV.links (by omega) rfl (by unfold maxLen;omega) h2.own.1.symm
def BkI(w0 wr:World)(a:Option Addr)(n cap:Nat)(l:List Bl8)(k:Nat)(xs:List Value):Prop:=
 (a=none∧n=0∧cap=0)∨∃ g rs,a=some ⟨g,0,none⟩∧KL BlV wr (g+1) w0.heap.size g n 5 cap 57 (l.take k) rs xs∧w0.heap.size≤g
theorem BkI.all{w0 wr:World}{a:Option Addr}{n cap:Nat}{l:List Bl8}{xs:List Value}(h:BkI w0 wr a n cap l n xs)(hn:n=l.length)(hm:n≤1000):znV (zod w0.heap.size wr) (.slice a l.length cap) l:=by
 rcases h with ⟨rfl,h0,rfl⟩ | ⟨g,rs,rfl,h2,h3⟩
 ·have:l=[]:=List.eq_nil_of_length_eq_zero (by omega)
  subst this;exact ⟨none,0,rfl,.inl rfl,Nat.le_refl _,Nat.zero_le _⟩
 ·subst hn
  rw[List.take_length] at h2;exact h2.rows BlV.sub BlV.links (by omega) rfl (by unfold maxLen;omega) h2.own.1.symm
theorem j2l{α:Type}{c:Nat}{R:World→Nat→Nat→α→Prop}{w:World}{v:Value}{l:List α}(h:SlV c R w v l):∃ a cp,v=.slice a l.length cp:=by
 obtain ⟨a,cp,h1,_⟩:=h;exact ⟨a,cp,h1⟩
theorem CdI.step{w0 wr wc:World}{g n cap:Nat}{l:List In8}{k:Nat}{rs xs:List Value}{x:In8}(h:KL InV wr (g+1) w0.heap.size g n 6 cap 54 (l.take k) rs xs)(hg:w0.heap.size≤g)(hk:k<n)(hn:n=l.length)(hx:l[k]? = some x)(kc:zc [] wr wc){a:Option Addr}{cp:Nat}(hv:zkL (zod wr.heap.size wc) (.slice a x.args.length cp) x.args)(c:∀ i u,(Value.agg #[int i64 x.op,int i64 x.dst,int i64 x.a,int i64 x.b,int i64 x.n,.slice a x.args.length cp]).cells[i]? = some u→i<5→xs[k * 6+i]? = some u)(hb:b64 x.op∧b64 x.dst∧b64 x.a∧b64 x.b∧b64 x.n):
  CdI w0 (wc.setCell ⟨g,k * 6+5,none⟩ (.slice a x.args.length cp)) (some ⟨g,0,none⟩) n cap l (k+1) xs:=by
 have hl:(l.take k).length=k:=by rw[List.length_take];omega
 have own:=zj h.own kc (fun _ _=>by simp);have hrl:rs.length=n * 6:=h.own.1;have o2:=(own.stored (k * 6+5) (.slice a x.args.length cp)).1;have glt:g<wr.heap.size:=(h.own.lt g rfl).2;refine .inr ⟨g,rs.set (k * 6+5) (.slice a x.args.length cp),rfl,?_,hg⟩;rw[List.take_add_one,hx];have kk:zc [g] wr (wc.setCell ⟨g,k * 6+5,none⟩ (.slice a x.args.length cp)):=(kc.mono fun _ hz=>by cases hz).step (zc.setCell _ _ _ _ (List.mem_singleton.2 rfl));refine h.next InV.sub (Nat.lt_succ_self g) kk o2 (fun m hm=> ?_) (v:=agg #[int i64 x.op,int i64 x.dst,int i64 x.a,int i64 x.b,int i64 x.n,.slice a x.args.length cp]) ⟨a,cp,rfl,hb.1,hb.2.1,hb.2.2.1,hb.2.2.2.1,hb.2.2.2.2,?_⟩ (fun i hi=> ?_)
 ·rw[hl] at hm
  rw[List.getElem?_set_ne (by omega)]
 ·refine zkL.sub _ _ _ _ ?_ hv
  refine (Sub.kept (B:=wr.heap.size) (zc.setCell [g] wc ⟨g,k * 6+5,none⟩ (.slice a x.args.length cp) (List.mem_singleton.2 rfl)) (fun z hz=>by rw[List.mem_singleton.1 hz];exact glt)).trans (Sub.down _ glt)
 ·rw[hl]
  by_cases h5:i=5
  ·subst h5
   rw[List.getElem?_set_self (by omega)];rfl
  ·rw[List.getElem?_set_ne (by omega),h.rest _ (by rw[hl];omega)]
   have hi5:i<5:=by omega
   have:∃ u,(Value.agg #[int i64 x.op,int i64 x.dst,int i64 x.a,int i64 x.b,int i64 x.n,.slice a x.args.length cp]).cells[i]? = some u:=⟨_,Array.getElem?_eq_getElem (by show i<6;omega)⟩;obtain ⟨u,hu⟩:=this;rw[hu];exact c i u hu hi5
end Go.Proofs.YthflgjkmbakedaaGreatDoor
