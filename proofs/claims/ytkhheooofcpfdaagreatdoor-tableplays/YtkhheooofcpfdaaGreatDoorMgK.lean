/- What Turn and First of package seg return, for every key (and cmp.Compare and cmp.Or of the library at int, as First calls them). -/
import Derived.Test.YtkhheooofcpfdaaGreatDoorMgC
import Derived.Test.YtkhheooofcpfdaaGreatDoorMgD
import Derived.Deep.RegionHeld3
import Derived.Deep.DrawnRows
import Derived.Test.YtkhheooofcpfdaaGreatDoorMgV
namespace Go.Proofs.YtkhheooofcpfdaaGreatDoor
open Go.RowKit
set_option linter.unusedVariables false
theorem turn_any (k:Ky) (w:World) :
  Calls Tryz.prog 61 #[keyV k] w fun e w'=>e = .returned (keyV (turnK k))∧Below w.heap.size w w':=by
 unfold keyV turnK
 go_enter Tryz.func61,Tryz.ntmps61
 go_wp2
 exact bodyPost_ret (v:=.agg #[.int .i64 k.kind,.int .i64 k.dst,.int .i64 k.too,.int .i64 k.src,.int .i64 k.frm]) (by simp [results,Tryz.results61,go_sem]) rfl ⟨rfl,((Below.refl _ _).alloc (Nat.le_refl _) _).alloc (by simp) _⟩
theorem isNaN_any (n:Int) (w:World):Calls Tryz.prog 88 #[.int .i64 n] w fun e w'=>e = .returned (.bool false)∧w'=w:=by
 go_enter Tryz.func88,Tryz.ntmps88
 go_wp2
 go_ret
 exact ⟨by simp,rfl⟩
def cmpI (a b:Int):Int:=if a < b then -1 else if b < a then 1 else 0
theorem compare_any (a b:Int) (w:World):Calls Tryz.prog 64 #[.int .i64 a,.int .i64 b] w fun e w'=>e = .returned (.int .i64 (cmpI a b))∧w'=w:=by
 by_cases h1:a < b
 ·rw [show cmpI a b = -1 from if_pos h1]
  go_enter Tryz.func64,Tryz.ntmps64
  go_wp2_with (go_at_call 88;refine (isNaN_any _ _).mono ?_;rintro e w' ⟨rfl,rfl⟩)
  go_ret
  exact ⟨rfl,rfl⟩
 ·by_cases h2:b < a
  ·rw [show cmpI a b=1 by unfold cmpI;rw [if_neg h1,if_pos h2]]
   go_enter Tryz.func64,Tryz.ntmps64
   go_wp2_with (go_at_call 88;refine (isNaN_any _ _).mono ?_;rintro e w' ⟨rfl,rfl⟩)
   go_ret
   exact ⟨rfl,rfl⟩
  ·rw [show cmpI a b=0 by unfold cmpI;rw [if_neg h1,if_neg h2]]
   go_enter Tryz.func64,Tryz.ntmps64
   go_wp2_with (go_at_call 88;refine (isNaN_any _ _).mono ?_;rintro e w' ⟨rfl,rfl⟩)
   go_ret
   exact ⟨rfl,rfl⟩
def orI (x y:Int):Int:=if x=0 then y else x
theorem or_any (g:Nat) (x y:Int) (w:World) (h0:w.cell? ⟨g,0,none⟩=some (.int .i64 x)) (h1:w.cell? ⟨g,1,none⟩=some (.int .i64 y)) :
  Calls Tryz.prog 63 #[.slice (some ⟨g,0,none⟩) 2 2] w fun e w'=>e = .returned (.int .i64 (orI x y))∧w'=w:=by
 by_cases hx:x=0
 ·rw [show orI x y=y from if_pos hx]
  have e1:(x != 0)=false:=by simp [hx]
  clear hx
  by_cases hy:y=0
  ·have e2:(y != 0)=false:=by simp [hy]
   have HY:Hid (y=0):=hy
   clear hy
   go_enter Tryz.func63,Tryz.ntmps63
   go_wp2
   refine wp_loop_rounds 3 ?_
   rw [rounds_succ]
   go_wp2
   rw [rounds_succ]
   go_wp2
   rw [rounds_succ]
   go_wp2
   go_ret
   exact ⟨by rw [HY.out];rfl,rfl⟩
  ·have e2:(y != 0)=true:=by simpa using hy
   go_enter Tryz.func63,Tryz.ntmps63
   go_wp2
   refine wp_loop_rounds 2 ?_
   rw [rounds_succ]
   go_wp2
   rw [rounds_succ]
   go_wp2
   go_ret
   exact ⟨rfl,rfl⟩
 ·rw [show orI x y=x from if_neg hx]
  have e1:(x != 0)=true:=by simpa using hx
  go_enter Tryz.func63,Tryz.ntmps63
  go_wp2
  refine wp_loop_rounds 1 ?_
  rw [rounds_succ]
  go_wp2
  go_ret
  exact ⟨rfl,rfl⟩
theorem first_neg (k:Ky):orI (cmpI k.dst k.src) (cmpI k.too k.frm) < 0 ↔ (k.dst < k.src∨(k.dst=k.src∧k.too < k.frm)):=by
 unfold orI cmpI
 split <;> split <;> (try split) <;> (try split) <;> omega
theorem KyAt.drew {w:World} {b:Nat} {p:Ky} (h:KyAt w b p):KyAt w.drew b p:=h
def KdS (w:World) (k:Ky) (w':World):Prop:=KyAt w' w.heap.size k∧KyAt w' (w.heap.size+1) zeroY∧Below w.heap.size w w'
theorem KdS.drew {w:World} {k:Ky} {w':World} (h:KdS w k w'):KdS w k w'.drew:=⟨h.1,h.2.1,h.2.2.drew⟩
theorem KdS.alloc {w:World} {k:Ky} {w':World} (h:KdS w k w') (o:Obj):KdS w k (w'.alloc o):=⟨h.1.alloc o,h.2.1.alloc o,h.2.2.alloc h.2.2.size o⟩
end Go.Proofs.YtkhheooofcpfdaaGreatDoor
namespace Go.Proofs.YtkhheooofcpfdaaGreatDoor
open Go.RowKit
set_option linter.unusedVariables false
set_option maxRecDepth 100000 in
set_option maxHeartbeats 16000000 in
theorem step_side (f:Fl) (s:Sg) (a:Option Addr) (l c:Nat) (side now:Int) (w:World) (hs:¬ (side=0∨side=1)) :
  Calls Tryz.prog 35 #[flV f,segV s (.slice a l c),.int .i64 side,.int .i64 now] w fun e w'=>e = .returned (.tuple #[flV zeroF,.iface 71 (.int .i64 1)])∧Below w.heap.size w w':=by
 have h1:=Fsz.start w f s (.slice a l c)
 unfold fszW at h1
 obtain ⟨W1,hW1⟩:∃ W1,((w.alloc (.cells #[.int .i64 f.key.kind,.int .i64 f.key.src,.int .i64 f.key.frm,.int .i64 f.key.dst,.int .i64 f.key.too,.int .i64 f.st,.int .i64 f.unt,.int .i64 f.stp,.int .i64 f.h0,.int .i64 f.h1,.int .i64 f.w0,.int .i64 f.w1,.bool f.d0,.bool f.d1,.int .i64 f.num] 45)).alloc (.cells #[.int .i64 s.frm,.int .i64 s.too,.int .i64 s.seq,.int .i64 s.ack,.int .i64 s.win,.int .i64 s.flg,.slice a l c] 41)).alloc (.cells #[.int .i64 0,.int .i64 0,.int .i64 0,.int .i64 0,.int .i64 0,.int .i64 0,.int .i64 0,.int .i64 0,.int .i64 0,.int .i64 0,.int .i64 0,.int .i64 0,.bool false,.bool false,.int .i64 0] 45)=W1:=⟨_,rfl⟩
 rw [hW1] at h1
 have cw:=fun W=>within_any side 0 1 W
 rw [inR_no (by omega)] at cw
 rw [show flV zeroF = .agg #[.int .i64 0,.int .i64 0,.int .i64 0,.int .i64 0,.int .i64 0,.int .i64 0,.int .i64 0,.int .i64 0,.int .i64 0,.int .i64 0,.int .i64 0,.int .i64 0,.bool false,.bool false,.int .i64 0] from rfl]
 clear hs
 unfold flV segV
 go_enter Tryz.func35,Tryz.ntmps35
 go_upto_region 1 with fail
 try rw [hW1]
 clear hW1
 go_upto_region 2 with (go_at_call 56;refine (cw _).mono ?_;rintro e w' ⟨rfl,hw'⟩;rw [hw'];clear hw' w')
 obtain ⟨y0,y1,y2,y3,y4,y5,y6,y7,y8,y9,y10,y11,y12,y13,y14⟩:=h1.rs.frees
 obtain ⟨d0,d1,d2,d3,d4,d5,d6,d7,d8,d9,d10,d11,d12,d13,d14⟩:=zero_cells h1.rs
 go_wp2_with fail
 obtain ⟨W9,hW9,g9,b9⟩:=h1.wipe
 rw [hW9]
 clear hW9 y0 y1 y2 y3 y4 y5 y6 y7 y8 y9 y10 y11 y12 y13 y14 d0 d1 d2 d3 d4 d5 d6 d7 d8 d9 d10 d11 d12 d13 d14
 obtain ⟨c0,c1,c2,c3,c4,c5,c6,c7,c8,c9,c10,c11,c12,c13,c14⟩:=zero_cells g9
 exact bodyPost_ret (v:=.tuple #[.agg #[.int .i64 0,.int .i64 0,.int .i64 0,.int .i64 0,.int .i64 0,.int .i64 0,.int .i64 0,.int .i64 0,.int .i64 0,.int .i64 0,.int .i64 0,.int .i64 0,.bool false,.bool false,.int .i64 0],.iface 71 (.int .i64 1)]) (by simp [results,Tryz.results35,go_sem,c0,c1,c2,c3,c4,c5,c6,c7,c8,c9,c10,c11,c12,c13,c14]) rfl ⟨rfl,b9⟩
set_option maxRecDepth 100000 in
set_option maxHeartbeats 16000000 in
theorem step_chk (f:Fl) (s:Sg) (a:Option Addr) (l c:Nat) (side now:Int) (w:World) (hs:side=0∨side=1) (hL:Lives w) (z:Int) (hz:chkE f=z) (h0:¬ z=0) :
  Calls Tryz.prog 35 #[flV f,segV s (.slice a l c),.int .i64 side,.int .i64 now] w fun e w'=>e = .returned (.tuple #[flV zeroF,.iface 71 (.int .i64 z)])∧Below w.heap.size w w':=by
 have h1:=Fsz.start w f s (.slice a l c)
 unfold fszW at h1
 obtain ⟨W1,hW1⟩:∃ W1,((w.alloc (.cells #[.int .i64 f.key.kind,.int .i64 f.key.src,.int .i64 f.key.frm,.int .i64 f.key.dst,.int .i64 f.key.too,.int .i64 f.st,.int .i64 f.unt,.int .i64 f.stp,.int .i64 f.h0,.int .i64 f.h1,.int .i64 f.w0,.int .i64 f.w1,.bool f.d0,.bool f.d1,.int .i64 f.num] 45)).alloc (.cells #[.int .i64 s.frm,.int .i64 s.too,.int .i64 s.seq,.int .i64 s.ack,.int .i64 s.win,.int .i64 s.flg,.slice a l c] 41)).alloc (.cells #[.int .i64 0,.int .i64 0,.int .i64 0,.int .i64 0,.int .i64 0,.int .i64 0,.int .i64 0,.int .i64 0,.int .i64 0,.int .i64 0,.int .i64 0,.int .i64 0,.bool false,.bool false,.int .i64 0] 45)=W1:=⟨_,rfl⟩
 rw [hW1] at h1
 have cw:=fun W=>within_any side 0 1 W
 rw [inR_yes (by omega) (by omega)] at cw
 have hck:=fun W (hb:Below w.heap.size w W)=>check_any f W (hL.below hb)
 rw [hz,errV_no h0] at hck
 rw [show flV zeroF = .agg #[.int .i64 0,.int .i64 0,.int .i64 0,.int .i64 0,.int .i64 0,.int .i64 0,.int .i64 0,.int .i64 0,.int .i64 0,.int .i64 0,.int .i64 0,.int .i64 0,.bool false,.bool false,.int .i64 0] from rfl]
 unfold flV at hck
 clear hs hz h0 hL
 unfold flV segV
 go_enter Tryz.func35,Tryz.ntmps35
 go_upto_region 1 with fail
 try rw [hW1]
 clear hW1
 go_upto_region 3 with (go_at_call 56;refine (cw _).mono ?_;rintro e w' ⟨rfl,hw'⟩;rw [hw'];clear hw' w')
 obtain ⟨c0,c1,c2,c3,c4,c5,c6,c7,c8,c9,c10,c11,c12,c13,c14⟩:=h1.fl.cells
 obtain ⟨s0,s1,s2,s3,s4,s5,s6⟩:=h1.sg.cells
 go_upto_region 5 with (go_at_call 39;refine (hck _ h1.bel).mono ?_;rintro e W2 ⟨rfl,b2⟩)
 have h2:=h1.step b2
 clear c0 c1 c2 c3 c4 c5 c6 c7 c8 c9 c10 c11 c12 c13 c14 s0 s1 s2 s3 s4 s5 s6
 clear h1 b2 hck
 obtain ⟨y0,y1,y2,y3,y4,y5,y6,y7,y8,y9,y10,y11,y12,y13,y14⟩:=h2.rs.frees
 obtain ⟨d0,d1,d2,d3,d4,d5,d6,d7,d8,d9,d10,d11,d12,d13,d14⟩:=zero_cells h2.rs
 go_wp2_with fail
 obtain ⟨W9,hW9,g9,b9⟩:=h2.wipe
 rw [hW9]
 clear hW9 y0 y1 y2 y3 y4 y5 y6 y7 y8 y9 y10 y11 y12 y13 y14 d0 d1 d2 d3 d4 d5 d6 d7 d8 d9 d10 d11 d12 d13 d14
 obtain ⟨c0,c1,c2,c3,c4,c5,c6,c7,c8,c9,c10,c11,c12,c13,c14⟩:=zero_cells g9
 exact bodyPost_ret (v:=.tuple #[.agg #[.int .i64 0,.int .i64 0,.int .i64 0,.int .i64 0,.int .i64 0,.int .i64 0,.int .i64 0,.int .i64 0,.int .i64 0,.int .i64 0,.int .i64 0,.int .i64 0,.bool false,.bool false,.int .i64 0],.iface 71 (.int .i64 z)]) (by simp [results,Tryz.results35,go_sem,c0,c1,c2,c3,c4,c5,c6,c7,c8,c9,c10,c11,c12,c13,c14]) rfl ⟨rfl,b9⟩
end Go.Proofs.YtkhheooofcpfdaaGreatDoor
namespace Go.Proofs.YtkhheooofcpfdaaGreatDoor
open Go.RowKit
set_option linter.unusedVariables false
theorem set10_0 (x0 x1 x2 x3 x4 x5 x6 x7 x8 x9 y:Value):(#[x0,x1,x2,x3,x4,x5,x6,x7,x8,x9]:Array Value).setIfInBounds 0 y = #[y,x1,x2,x3,x4,x5,x6,x7,x8,x9]:=rfl
theorem set10_1 (x0 x1 x2 x3 x4 x5 x6 x7 x8 x9 y:Value):(#[x0,x1,x2,x3,x4,x5,x6,x7,x8,x9]:Array Value).setIfInBounds 1 y = #[x0,y,x2,x3,x4,x5,x6,x7,x8,x9]:=rfl
theorem set10_2 (x0 x1 x2 x3 x4 x5 x6 x7 x8 x9 y:Value):(#[x0,x1,x2,x3,x4,x5,x6,x7,x8,x9]:Array Value).setIfInBounds 2 y = #[x0,x1,y,x3,x4,x5,x6,x7,x8,x9]:=rfl
theorem set10_3 (x0 x1 x2 x3 x4 x5 x6 x7 x8 x9 y:Value):(#[x0,x1,x2,x3,x4,x5,x6,x7,x8,x9]:Array Value).setIfInBounds 3 y = #[x0,x1,x2,y,x4,x5,x6,x7,x8,x9]:=rfl
theorem set10_4 (x0 x1 x2 x3 x4 x5 x6 x7 x8 x9 y:Value):(#[x0,x1,x2,x3,x4,x5,x6,x7,x8,x9]:Array Value).setIfInBounds 4 y = #[x0,x1,x2,x3,y,x5,x6,x7,x8,x9]:=rfl
theorem set10_5 (x0 x1 x2 x3 x4 x5 x6 x7 x8 x9 y:Value):(#[x0,x1,x2,x3,x4,x5,x6,x7,x8,x9]:Array Value).setIfInBounds 5 y = #[x0,x1,x2,x3,x4,y,x6,x7,x8,x9]:=rfl
theorem set10_6 (x0 x1 x2 x3 x4 x5 x6 x7 x8 x9 y:Value):(#[x0,x1,x2,x3,x4,x5,x6,x7,x8,x9]:Array Value).setIfInBounds 6 y = #[x0,x1,x2,x3,x4,x5,y,x7,x8,x9]:=rfl
theorem set10_7 (x0 x1 x2 x3 x4 x5 x6 x7 x8 x9 y:Value):(#[x0,x1,x2,x3,x4,x5,x6,x7,x8,x9]:Array Value).setIfInBounds 7 y = #[x0,x1,x2,x3,x4,x5,x6,y,x8,x9]:=rfl
theorem set10_8 (x0 x1 x2 x3 x4 x5 x6 x7 x8 x9 y:Value):(#[x0,x1,x2,x3,x4,x5,x6,x7,x8,x9]:Array Value).setIfInBounds 8 y = #[x0,x1,x2,x3,x4,x5,x6,x7,y,x9]:=rfl
theorem set10_9 (x0 x1 x2 x3 x4 x5 x6 x7 x8 x9 y:Value):(#[x0,x1,x2,x3,x4,x5,x6,x7,x8,x9]:Array Value).setIfInBounds 9 y = #[x0,x1,x2,x3,x4,x5,x6,x7,x8,y]:=rfl
theorem keys_store {w:World} {B:Nat} (h:w.heap[B]? = some (.cells #[.int .i64 0,.int .i64 0,.int .i64 0,.int .i64 0,.int .i64 0,.int .i64 0,.int .i64 0,.int .i64 0,.int .i64 0,.int .i64 0] 110 (0,0))) (x0 x1 x2 x3 x4 x5 x6 x7 x8 x9:Value) :
  ((((((((((w.setCell ⟨B,0,none⟩ x0).setCell ⟨B,1,none⟩ x1).setCell ⟨B,2,none⟩ x2).setCell ⟨B,3,none⟩ x3).setCell ⟨B,4,none⟩ x4).setCell ⟨B,5,none⟩ x5).setCell ⟨B,6,none⟩ x6).setCell ⟨B,7,none⟩ x7).setCell ⟨B,8,none⟩ x8).setCell ⟨B,9,none⟩ x9).heap[B]? = some (.cells #[x0,x1,x2,x3,x4,x5,x6,x7,x8,x9] 110 (0,0))∧Only B w ((((((((((w.setCell ⟨B,0,none⟩ x0).setCell ⟨B,1,none⟩ x1).setCell ⟨B,2,none⟩ x2).setCell ⟨B,3,none⟩ x3).setCell ⟨B,4,none⟩ x4).setCell ⟨B,5,none⟩ x5).setCell ⟨B,6,none⟩ x6).setCell ⟨B,7,none⟩ x7).setCell ⟨B,8,none⟩ x8).setCell ⟨B,9,none⟩ x9):=by
 refine ⟨?_,(((((((((((Only.refl _ _).setCell _ _).setCell _ _).setCell _ _).setCell _ _).setCell _ _).setCell _ _).setCell _ _).setCell _ _).setCell _ _).setCell _ _)⟩
 have e0:=heap_setCell_same _ B 0 _ _ x0 h
 rw [set10_0] at e0
 have e1:=heap_setCell_same _ B 1 _ _ x1 e0
 rw [set10_1] at e1
 have e2:=heap_setCell_same _ B 2 _ _ x2 e1
 rw [set10_2] at e2
 have e3:=heap_setCell_same _ B 3 _ _ x3 e2
 rw [set10_3] at e3
 have e4:=heap_setCell_same _ B 4 _ _ x4 e3
 rw [set10_4] at e4
 have e5:=heap_setCell_same _ B 5 _ _ x5 e4
 rw [set10_5] at e5
 have e6:=heap_setCell_same _ B 6 _ _ x6 e5
 rw [set10_6] at e6
 have e7:=heap_setCell_same _ B 7 _ _ x7 e6
 rw [set10_7] at e7
 have e8:=heap_setCell_same _ B 8 _ _ x8 e7
 rw [set10_8] at e8
 have e9:=heap_setCell_same _ B 9 _ _ x9 e8
 rw [set10_9] at e9
 exact e9
structure Fk (w:World) (f:Fl) (s:Sg) (bv:Value) (P:Nat) (W:World):Prop where
 st:Fsz w f s bv zeroF W
 ks:W.heap[P]? = some (.cells #[.int .i64 f.key.kind,.int .i64 f.key.src,.int .i64 f.key.frm,.int .i64 f.key.dst,.int .i64 f.key.too,.int .i64 f.key.kind,.int .i64 f.key.dst,.int .i64 f.key.too,.int .i64 f.key.src,.int .i64 f.key.frm] 110 (0,0))
theorem Fk.fresh {w W:World} {f:Fl} {s:Sg} {bv:Value} (h:Fsz w f s bv zeroF W):Fk w f s bv W.heap.size (W.alloc (.cells #[.int .i64 f.key.kind,.int .i64 f.key.src,.int .i64 f.key.frm,.int .i64 f.key.dst,.int .i64 f.key.too,.int .i64 f.key.kind,.int .i64 f.key.dst,.int .i64 f.key.too,.int .i64 f.key.src,.int .i64 f.key.frm] 110)) :=
 ⟨h.step ((Below.refl _ _).alloc (Nat.le_refl _) _),heap_alloc_new W _⟩
theorem Fk.put {w W:World} {f:Fl} {s:Sg} {bv:Value} {B:Nat} (h:Fsz w f s bv zeroF W) (hB:w.heap.size+2 < B) (hz:W.heap[B]? = some (.cells #[.int .i64 0,.int .i64 0,.int .i64 0,.int .i64 0,.int .i64 0,.int .i64 0,.int .i64 0,.int .i64 0,.int .i64 0,.int .i64 0] 110 (0,0))) :
  Fk w f s bv B ((((((((((W.setCell ⟨B,0,none⟩ (.int .i64 f.key.kind)).setCell ⟨B,1,none⟩ (.int .i64 f.key.src)).setCell ⟨B,2,none⟩ (.int .i64 f.key.frm)).setCell ⟨B,3,none⟩ (.int .i64 f.key.dst)).setCell ⟨B,4,none⟩ (.int .i64 f.key.too)).setCell ⟨B,5,none⟩ (.int .i64 f.key.kind)).setCell ⟨B,6,none⟩ (.int .i64 f.key.dst)).setCell ⟨B,7,none⟩ (.int .i64 f.key.too)).setCell ⟨B,8,none⟩ (.int .i64 f.key.src)).setCell ⟨B,9,none⟩ (.int .i64 f.key.frm)):=by
 obtain ⟨h1,h2⟩:=keys_store hz (.int .i64 f.key.kind) (.int .i64 f.key.src) (.int .i64 f.key.frm) (.int .i64 f.key.dst) (.int .i64 f.key.too) (.int .i64 f.key.kind) (.int .i64 f.key.dst) (.int .i64 f.key.too) (.int .i64 f.key.src) (.int .i64 f.key.frm)
 exact ⟨⟨h.fl.only (by omega) h2,h.sg.only (by omega) h2,h.rs.only (by omega) h2,h2.below (by omega) h.bel⟩,h1⟩
theorem Fk.step {w W W':World} {f:Fl} {s:Sg} {bv:Value} {P:Nat} (h:Fk w f s bv P W) (hb:Below W.heap.size W W'):Fk w f s bv P W' :=
 ⟨h.st.step hb,(hb.block P (Array.getElem?_eq_some_iff.1 h.ks).1).trans h.ks⟩
theorem Fk.cells {w W:World} {f:Fl} {s:Sg} {bv:Value} {P:Nat} (h:Fk w f s bv P W):W.cell? ⟨P,0,none⟩=some (.int .i64 f.key.kind)∧W.cell? ⟨P,1,none⟩=some (.int .i64 f.key.src)∧W.cell? ⟨P,2,none⟩=some (.int .i64 f.key.frm)∧W.cell? ⟨P,3,none⟩=some (.int .i64 f.key.dst)∧W.cell? ⟨P,4,none⟩=some (.int .i64 f.key.too)∧W.cell? ⟨P,5,none⟩=some (.int .i64 f.key.kind)∧W.cell? ⟨P,6,none⟩=some (.int .i64 f.key.dst)∧W.cell? ⟨P,7,none⟩=some (.int .i64 f.key.too)∧W.cell? ⟨P,8,none⟩=some (.int .i64 f.key.src)∧W.cell? ⟨P,9,none⟩=some (.int .i64 f.key.frm):=by
 refine ⟨?_,?_,?_,?_,?_,?_,?_,?_,?_,?_⟩ <;> (rw [cell_of_row W P _ _ _ _ h.ks];rfl)
theorem keysZ_cells {W:World} {B:Nat} (h:W.heap[B]? = some (.cells #[.int .i64 0,.int .i64 0,.int .i64 0,.int .i64 0,.int .i64 0,.int .i64 0,.int .i64 0,.int .i64 0,.int .i64 0,.int .i64 0] 110 (0,0))):W.cell? ⟨B,0,none⟩=some (.int .i64 0)∧W.cell? ⟨B,1,none⟩=some (.int .i64 0)∧W.cell? ⟨B,2,none⟩=some (.int .i64 0)∧W.cell? ⟨B,3,none⟩=some (.int .i64 0)∧W.cell? ⟨B,4,none⟩=some (.int .i64 0)∧W.cell? ⟨B,5,none⟩=some (.int .i64 0)∧W.cell? ⟨B,6,none⟩=some (.int .i64 0)∧W.cell? ⟨B,7,none⟩=some (.int .i64 0)∧W.cell? ⟨B,8,none⟩=some (.int .i64 0)∧W.cell? ⟨B,9,none⟩=some (.int .i64 0):=by
 refine ⟨?_,?_,?_,?_,?_,?_,?_,?_,?_,?_⟩ <;> (rw [cell_of_row W B _ _ _ _ h];rfl)
theorem keysZ_frees {W:World} {B:Nat} (h:W.heap[B]? = some (.cells #[.int .i64 0,.int .i64 0,.int .i64 0,.int .i64 0,.int .i64 0,.int .i64 0,.int .i64 0,.int .i64 0,.int .i64 0,.int .i64 0] 110 (0,0))):W.frozen? ⟨B,0,none⟩=false∧W.frozen? ⟨B,1,none⟩=false∧W.frozen? ⟨B,2,none⟩=false∧W.frozen? ⟨B,3,none⟩=false∧W.frozen? ⟨B,4,none⟩=false∧W.frozen? ⟨B,5,none⟩=false∧W.frozen? ⟨B,6,none⟩=false∧W.frozen? ⟨B,7,none⟩=false∧W.frozen? ⟨B,8,none⟩=false∧W.frozen? ⟨B,9,none⟩=false :=
 ⟨frozen_of_row W B 0 _ _ h,frozen_of_row W B 1 _ _ h,frozen_of_row W B 2 _ _ h,frozen_of_row W B 3 _ _ h,frozen_of_row W B 4 _ _ h,frozen_of_row W B 5 _ _ h,frozen_of_row W B 6 _ _ h,frozen_of_row W B 7 _ _ h,frozen_of_row W B 8 _ _ h,frozen_of_row W B 9 _ _ h⟩
theorem keys_early {w W W3:World} {f:Fl} {s:Sg} {bv:Value} (h:Fsz w f s bv zeroF W) (b:Below (W.alloc (.cells #[.int .i64 0,.int .i64 0,.int .i64 0,.int .i64 0,.int .i64 0,.int .i64 0,.int .i64 0,.int .i64 0,.int .i64 0,.int .i64 0] 110)).drew.heap.size (W.alloc (.cells #[.int .i64 0,.int .i64 0,.int .i64 0,.int .i64 0,.int .i64 0,.int .i64 0,.int .i64 0,.int .i64 0,.int .i64 0,.int .i64 0] 110)).drew W3):Fsz w f s bv zeroF W3∧W3.heap[W.heap.size]? = some (.cells #[.int .i64 0,.int .i64 0,.int .i64 0,.int .i64 0,.int .i64 0,.int .i64 0,.int .i64 0,.int .i64 0,.int .i64 0,.int .i64 0] 110 (0,0)):=by
 have h1:=(h.step ((Below.refl _ _).alloc (Nat.le_refl _) (.cells #[.int .i64 0,.int .i64 0,.int .i64 0,.int .i64 0,.int .i64 0,.int .i64 0,.int .i64 0,.int .i64 0,.int .i64 0,.int .i64 0] 110))).drew
 refine ⟨h1.step b,?_⟩
 have z:W.heap.size < (W.alloc (.cells #[.int .i64 0,.int .i64 0,.int .i64 0,.int .i64 0,.int .i64 0,.int .i64 0,.int .i64 0,.int .i64 0,.int .i64 0,.int .i64 0] 110)).drew.heap.size:=by show W.heap.size < (W.alloc (.cells #[.int .i64 0,.int .i64 0,.int .i64 0,.int .i64 0,.int .i64 0,.int .i64 0,.int .i64 0,.int .i64 0,.int .i64 0,.int .i64 0] 110)).heap.size;simp
 rw [b.block _ z]
 exact heap_alloc_new W _
end Go.Proofs.YtkhheooofcpfdaaGreatDoor
