/- Begin of package track: a key and a segment in boxes, and the answer; what it returns where it refuses. -/
import Derived.Test.YtkhheooofcpfdaaGreatDoorMgV
import Derived.Deep.RegionHeld3
namespace Go.Proofs.YtkhheooofcpfdaaGreatDoor
open Go.RowKit
set_option linter.unusedVariables false
structure Kb (w:World) (k:Ky) (s:Sg) (bv:Value) (W:World):Prop where
 ky:KyAt W w.heap.size k
 sg:SgAt W (w.heap.size+1) s bv
 rs:FlAt W (w.heap.size+2) zeroF
 bel:Below w.heap.size w W
theorem Kb.start (w:World) (k:Ky) (s:Sg) (bv:Value):Kb w k s bv (((w.alloc (.cells #[.int .i64 k.kind,.int .i64 k.src,.int .i64 k.frm,.int .i64 k.dst,.int .i64 k.too] 37)).alloc (.cells #[.int .i64 s.frm,.int .i64 s.too,.int .i64 s.seq,.int .i64 s.ack,.int .i64 s.win,.int .i64 s.flg,bv] 41)).alloc (.cells #[.int .i64 0,.int .i64 0,.int .i64 0,.int .i64 0,.int .i64 0,.int .i64 0,.int .i64 0,.int .i64 0,.int .i64 0,.int .i64 0,.int .i64 0,.int .i64 0,.bool false,.bool false,.int .i64 0] 45)):=by
 have h1:=Ks2.start w k s bv
 have s1:((w.alloc (.cells #[.int .i64 k.kind,.int .i64 k.src,.int .i64 k.frm,.int .i64 k.dst,.int .i64 k.too] 37)).alloc (.cells #[.int .i64 s.frm,.int .i64 s.too,.int .i64 s.seq,.int .i64 s.ack,.int .i64 s.win,.int .i64 s.flg,bv] 41)).heap.size=w.heap.size+2:=by simp
 generalize (w.alloc (.cells #[.int .i64 k.kind,.int .i64 k.src,.int .i64 k.frm,.int .i64 k.dst,.int .i64 k.too] 37)).alloc (.cells #[.int .i64 s.frm,.int .i64 s.too,.int .i64 s.seq,.int .i64 s.ack,.int .i64 s.win,.int .i64 s.flg,bv] 41)=w1 at h1 s1 ⊢
 have h3:=FlAt.zero w1
 rw [s1] at h3
 exact ⟨h1.ky.alloc _,h1.sg.alloc _,h3,h1.bel.alloc h1.bel.size _⟩
theorem Kb.step {w W W':World} {k:Ky} {s:Sg} {bv:Value} (h:Kb w k s bv W) (hb:Below W.heap.size W W'):Kb w k s bv W' :=
 ⟨h.ky.below h.ky.lt hb,h.sg.below h.sg.lt hb,h.rs.below h.rs.lt hb,h.bel.trans (hb.mono h.bel.size)⟩
theorem Kb.drew {w W:World} {k:Ky} {s:Sg} {bv:Value} (h:Kb w k s bv W):Kb w k s bv W.drew:=⟨h.ky,h.sg,h.rs,h.bel.drew⟩
theorem Kb.only {w W W':World} {k:Ky} {s:Sg} {bv:Value} {G:Nat} (h:Kb w k s bv W) (hG:w.heap.size+2 < G) (ho:Only G W W'):Kb w k s bv W' :=
 ⟨h.ky.only (by omega) ho,h.sg.only (by omega) ho,h.rs.only (by omega) ho,ho.below (by omega) h.bel⟩
theorem Kb.wipe {w W:World} {k:Ky} {s:Sg} {bv:Value} (h:Kb w k s bv W):∃ W',(((((((((((((((W.setCell ⟨w.heap.size+2,0,none⟩ (.int .i64 0)).setCell ⟨w.heap.size+2,1,none⟩ (.int .i64 0)).setCell ⟨w.heap.size+2,2,none⟩ (.int .i64 0)).setCell ⟨w.heap.size+2,3,none⟩ (.int .i64 0)).setCell ⟨w.heap.size+2,4,none⟩ (.int .i64 0)).setCell ⟨w.heap.size+2,5,none⟩ (.int .i64 0)).setCell ⟨w.heap.size+2,6,none⟩ (.int .i64 0)).setCell ⟨w.heap.size+2,7,none⟩ (.int .i64 0)).setCell ⟨w.heap.size+2,8,none⟩ (.int .i64 0)).setCell ⟨w.heap.size+2,9,none⟩ (.int .i64 0)).setCell ⟨w.heap.size+2,10,none⟩ (.int .i64 0)).setCell ⟨w.heap.size+2,11,none⟩ (.int .i64 0)).setCell ⟨w.heap.size+2,12,none⟩ (.bool false)).setCell ⟨w.heap.size+2,13,none⟩ (.bool false)).setCell ⟨w.heap.size+2,14,none⟩ (.int .i64 0))=W'∧FlAt W' (w.heap.size+2) zeroF∧Below w.heap.size w W':=by
 obtain ⟨W',hW',g',o'⟩:=h.rs.wipe
 exact ⟨W',hW',g',o'.below (by omega) h.bel⟩
theorem Kb.fin {w W:World} {k:Ky} {s:Sg} {bv:Value} (h:Kb w k s bv W) (q:Fl):∃ W',(((((((((((((((W.setCell ⟨w.heap.size+2,0,none⟩ (.int .i64 q.key.kind)).setCell ⟨w.heap.size+2,1,none⟩ (.int .i64 q.key.src)).setCell ⟨w.heap.size+2,2,none⟩ (.int .i64 q.key.frm)).setCell ⟨w.heap.size+2,3,none⟩ (.int .i64 q.key.dst)).setCell ⟨w.heap.size+2,4,none⟩ (.int .i64 q.key.too)).setCell ⟨w.heap.size+2,5,none⟩ (.int .i64 q.st)).setCell ⟨w.heap.size+2,6,none⟩ (.int .i64 q.unt)).setCell ⟨w.heap.size+2,7,none⟩ (.int .i64 q.stp)).setCell ⟨w.heap.size+2,8,none⟩ (.int .i64 q.h0)).setCell ⟨w.heap.size+2,9,none⟩ (.int .i64 q.h1)).setCell ⟨w.heap.size+2,10,none⟩ (.int .i64 q.w0)).setCell ⟨w.heap.size+2,11,none⟩ (.int .i64 q.w1)).setCell ⟨w.heap.size+2,12,none⟩ (.bool q.d0)).setCell ⟨w.heap.size+2,13,none⟩ (.bool q.d1)).setCell ⟨w.heap.size+2,14,none⟩ (.int .i64 q.num))=W'∧FlAt W' (w.heap.size+2) q∧Below w.heap.size w W':=by
 obtain ⟨W',hW',g',o'⟩:=h.rs.store q
 exact ⟨W',hW',g',o'.below (by omega) h.bel⟩
set_option maxRecDepth 100000 in
set_option maxHeartbeats 16000000 in
theorem beg_rule (k:Ky) (s:Sg) (a:Option Addr) (l c:Nat) (rule now:Int) (w:World) (hr:inR rule (-1) 200=false) :
  Calls Tryz.prog 31 #[keyV k,segV s (.slice a l c),.int .i64 rule,.int .i64 now] w fun e w'=>e = .returned (.tuple #[flV zeroF,.iface 71 (.int .i64 1)])∧Below w.heap.size w w':=by
 have h1:=Kb.start w k s (.slice a l c)
 obtain ⟨W1,hW1⟩:∃ W1,((w.alloc (.cells #[.int .i64 k.kind,.int .i64 k.src,.int .i64 k.frm,.int .i64 k.dst,.int .i64 k.too] 37)).alloc (.cells #[.int .i64 s.frm,.int .i64 s.too,.int .i64 s.seq,.int .i64 s.ack,.int .i64 s.win,.int .i64 s.flg,.slice a l c] 41)).alloc (.cells #[.int .i64 0,.int .i64 0,.int .i64 0,.int .i64 0,.int .i64 0,.int .i64 0,.int .i64 0,.int .i64 0,.int .i64 0,.int .i64 0,.int .i64 0,.int .i64 0,.bool false,.bool false,.int .i64 0] 45)=W1:=⟨_,rfl⟩
 rw [hW1] at h1
 have cw:=fun W=>within_any rule (-1) 200 W
 rw [hr] at cw
 rw [show flV zeroF = .agg #[.int .i64 0,.int .i64 0,.int .i64 0,.int .i64 0,.int .i64 0,.int .i64 0,.int .i64 0,.int .i64 0,.int .i64 0,.int .i64 0,.int .i64 0,.int .i64 0,.bool false,.bool false,.int .i64 0] from rfl]
 clear hr
 unfold keyV segV
 go_enter Tryz.func31,Tryz.ntmps31
 go_upto_region 1 with fail
 try rw [hW1]
 clear hW1
 go_upto_region 2 with (go_at_call 56;refine (cw _).mono ?_;rintro e w' ⟨rfl,hw'⟩;rw [hw'];clear hw' w')
 obtain ⟨y0,y1,y2,y3,y4,y5,y6,y7,y8,y9,y10,y11,y12,y13,y14⟩:=h1.rs.frees
 obtain ⟨d0,d1,d2,d3,d4,d5,d6,d7,d8,d9,d10,d11,d12,d13,d14⟩:=zero_cells h1.rs
 go_wp2_with fail
 obtain ⟨W9,hW9,g9,b9⟩:=h1.wipe
 rw [hW9]
 clear hW9 y0 y1 y2 y3 y4 y5 y6 y7 y8 y9 y10 y11 y12 y13 y14 d0 d1 d2 d3 d4 d5 d6 d7 d8 d9 d10 d11 d12 d13 d14
 obtain ⟨c0,c1,c2,c3,c4,c5,c6,c7,c8,c9,c10,c11,c12,c13,c14⟩:=zero_cells g9
 exact bodyPost_ret (v:=.tuple #[.agg #[.int .i64 0,.int .i64 0,.int .i64 0,.int .i64 0,.int .i64 0,.int .i64 0,.int .i64 0,.int .i64 0,.int .i64 0,.int .i64 0,.int .i64 0,.int .i64 0,.bool false,.bool false,.int .i64 0],.iface 71 (.int .i64 1)]) (by simp [results,Tryz.results31,go_sem,c0,c1,c2,c3,c4,c5,c6,c7,c8,c9,c10,c11,c12,c13,c14]) rfl ⟨rfl,b9⟩
set_option maxRecDepth 100000 in
set_option maxHeartbeats 16000000 in
theorem beg_said (k:Ky) (s:Sg) (a:Option Addr) (l c:Nat) (rule now:Int) (w:World) (hr:inR rule (-1) 200=true) (hb:Bytes w (.slice a l c) s.body) (z:Int) (hd:sdE k s 0 now=z) (h0:¬ z=0) :
  Calls Tryz.prog 31 #[keyV k,segV s (.slice a l c),.int .i64 rule,.int .i64 now] w fun e w'=>e = .returned (.tuple #[flV zeroF,.iface 71 (.int .i64 z)])∧Below w.heap.size w w':=by
 have h1:=Kb.start w k s (.slice a l c)
 obtain ⟨W1,hW1⟩:∃ W1,((w.alloc (.cells #[.int .i64 k.kind,.int .i64 k.src,.int .i64 k.frm,.int .i64 k.dst,.int .i64 k.too] 37)).alloc (.cells #[.int .i64 s.frm,.int .i64 s.too,.int .i64 s.seq,.int .i64 s.ack,.int .i64 s.win,.int .i64 s.flg,.slice a l c] 41)).alloc (.cells #[.int .i64 0,.int .i64 0,.int .i64 0,.int .i64 0,.int .i64 0,.int .i64 0,.int .i64 0,.int .i64 0,.int .i64 0,.int .i64 0,.int .i64 0,.int .i64 0,.bool false,.bool false,.int .i64 0] 45)=W1:=⟨_,rfl⟩
 rw [hW1] at h1
 have cw:=fun W=>within_any rule (-1) 200 W
 rw [show flV zeroF = .agg #[.int .i64 0,.int .i64 0,.int .i64 0,.int .i64 0,.int .i64 0,.int .i64 0,.int .i64 0,.int .i64 0,.int .i64 0,.int .i64 0,.int .i64 0,.int .i64 0,.bool false,.bool false,.int .i64 0] from rfl]
 rw [hr] at cw
 have hsd:=fun W (hB:Below w.heap.size w W)=>checkSaid_any k s (.slice a l c) 0 now W (hb.below (Nat.le_refl _) hB)
 rw [hd,errV_no h0] at hsd
 unfold keyV segV at hsd
 clear hr hd h0 hb
 unfold keyV segV
 go_enter Tryz.func31,Tryz.ntmps31
 go_upto_region 1 with fail
 try rw [hW1]
 clear hW1
 go_upto_region 3 with (go_at_call 56;refine (cw _).mono ?_;rintro e w' ⟨rfl,hw'⟩;rw [hw'];clear hw' w')
 obtain ⟨k0,k1,k2,k3,k4⟩:=h1.ky.cells
 obtain ⟨s0,s1,s2,s3,s4,s5,s6⟩:=h1.sg.cells
 go_upto_region 5 with (go_at_call 57;refine (hsd _ h1.bel).mono ?_;rintro e W2 ⟨rfl,b2⟩)
 have h2:=h1.step b2
 clear k0 k1 k2 k3 k4 s0 s1 s2 s3 s4 s5 s6
 clear h1 b2 hsd
 obtain ⟨y0,y1,y2,y3,y4,y5,y6,y7,y8,y9,y10,y11,y12,y13,y14⟩:=h2.rs.frees
 obtain ⟨d0,d1,d2,d3,d4,d5,d6,d7,d8,d9,d10,d11,d12,d13,d14⟩:=zero_cells h2.rs
 go_wp2_with fail
 obtain ⟨W9,hW9,g9,b9⟩:=h2.wipe
 rw [hW9]
 clear hW9 y0 y1 y2 y3 y4 y5 y6 y7 y8 y9 y10 y11 y12 y13 y14 d0 d1 d2 d3 d4 d5 d6 d7 d8 d9 d10 d11 d12 d13 d14
 obtain ⟨c0,c1,c2,c3,c4,c5,c6,c7,c8,c9,c10,c11,c12,c13,c14⟩:=zero_cells g9
 exact bodyPost_ret (v:=.tuple #[.agg #[.int .i64 0,.int .i64 0,.int .i64 0,.int .i64 0,.int .i64 0,.int .i64 0,.int .i64 0,.int .i64 0,.int .i64 0,.int .i64 0,.int .i64 0,.int .i64 0,.bool false,.bool false,.int .i64 0],.iface 71 (.int .i64 z)]) (by simp [results,Tryz.results31,go_sem,c0,c1,c2,c3,c4,c5,c6,c7,c8,c9,c10,c11,c12,c13,c14]) rfl ⟨rfl,b9⟩
set_option maxRecDepth 100000 in
set_option maxHeartbeats 16000000 in
theorem beg_syn (k:Ky) (s:Sg) (a:Option Addr) (l c:Nat) (rule now:Int) (w:World) (hr:inR rule (-1) 200=true) (hb:Bytes w (.slice a l c) s.body) (hd:sdE k s 0 now=0) (hk:k.kind=1) (hf:¬ s.flg=2) :
  Calls Tryz.prog 31 #[keyV k,segV s (.slice a l c),.int .i64 rule,.int .i64 now] w fun e w'=>e = .returned (.tuple #[flV zeroF,.iface 71 (.int .i64 6)])∧Below w.heap.size w w':=by
 have h1:=Kb.start w k s (.slice a l c)
 obtain ⟨W1,hW1⟩:∃ W1,((w.alloc (.cells #[.int .i64 k.kind,.int .i64 k.src,.int .i64 k.frm,.int .i64 k.dst,.int .i64 k.too] 37)).alloc (.cells #[.int .i64 s.frm,.int .i64 s.too,.int .i64 s.seq,.int .i64 s.ack,.int .i64 s.win,.int .i64 s.flg,.slice a l c] 41)).alloc (.cells #[.int .i64 0,.int .i64 0,.int .i64 0,.int .i64 0,.int .i64 0,.int .i64 0,.int .i64 0,.int .i64 0,.int .i64 0,.int .i64 0,.int .i64 0,.int .i64 0,.bool false,.bool false,.int .i64 0] 45)=W1:=⟨_,rfl⟩
 rw [hW1] at h1
 have cw:=fun W=>within_any rule (-1) 200 W
 rw [show flV zeroF = .agg #[.int .i64 0,.int .i64 0,.int .i64 0,.int .i64 0,.int .i64 0,.int .i64 0,.int .i64 0,.int .i64 0,.int .i64 0,.int .i64 0,.int .i64 0,.int .i64 0,.bool false,.bool false,.int .i64 0] from rfl]
 rw [hr] at cw
 have hsd:=fun W (hB:Below w.heap.size w W)=>checkSaid_any k s (.slice a l c) 0 now W (hb.below (Nat.le_refl _) hB)
 rw [hd,errV_ok] at hsd
 unfold keyV segV at hsd
 have e1:(k.kind == 1)=true:=by simpa using hk
 have e2:(s.flg != 2)=true:=by simpa using hf
 clear hr hd hb hk hf
 unfold keyV segV
 go_enter Tryz.func31,Tryz.ntmps31
 go_upto_region 1 with fail
 try rw [hW1]
 clear hW1
 go_upto_region 3 with (go_at_call 56;refine (cw _).mono ?_;rintro e w' ⟨rfl,hw'⟩;rw [hw'];clear hw' w')
 obtain ⟨k0,k1,k2,k3,k4⟩:=h1.ky.cells
 obtain ⟨s0,s1,s2,s3,s4,s5,s6⟩:=h1.sg.cells
 go_upto_region 6 with (go_at_call 57;refine (hsd _ h1.bel).mono ?_;rintro e W2 ⟨rfl,b2⟩)
 have h2:=h1.step b2
 clear k0 k1 k2 k3 k4 s0 s1 s2 s3 s4 s5 s6
 clear h1 b2 hsd cw
 obtain ⟨k0,k1,k2,k3,k4⟩:=h2.ky.cells
 obtain ⟨s0,s1,s2,s3,s4,s5,s6⟩:=h2.sg.cells
 go_upto_region 7 with fail
 have h3:=h2.step ((Below.refl _ _).alloc (Nat.le_refl _) (.cells #[.int .i64 k.kind,.int .i64 k.src,.int .i64 k.frm,.int .i64 k.dst,.int .i64 k.too,.int .i64 1,.int .i64 0,.int .i64 0,.int .i64 0,.int .i64 0,.int .i64 0,.int .i64 0,.bool false,.bool false,.int .i64 rule] 45))
 have hlt:=h2.rs.lt
 have p3:=FlAt.new W2 { key:=k,st:=1,unt:=0,stp:=0,h0:=0,h1:=0,w0:=0,w1:=0,d0:=false,d1:=false,num:=rule }
 simp only at p3
 obtain ⟨W3,hW3⟩:∃ W3,W2.alloc (.cells #[.int .i64 k.kind,.int .i64 k.src,.int .i64 k.frm,.int .i64 k.dst,.int .i64 k.too,.int .i64 1,.int .i64 0,.int .i64 0,.int .i64 0,.int .i64 0,.int .i64 0,.int .i64 0,.bool false,.bool false,.int .i64 rule] 45)=W3:=⟨_,rfl⟩
 rw [hW3] at h3 p3 ⊢
 obtain ⟨G,hG⟩:∃ G,W2.heap.size=G:=⟨_,rfl⟩
 rw [hG] at p3 hlt ⊢
 clear hW3 hG h2
 clear k0 k1 k2 k3 k4 s0 s1 s2 s3 s4 s5 s6
 obtain ⟨k0,k1,k2,k3,k4⟩:=h3.ky.cells
 obtain ⟨s0,s1,s2,s3,s4,s5,s6⟩:=h3.sg.cells
 go_upto_region 9 with fail
 clear k0 k1 k2 k3 k4 s0 s1 s2 s3 s4 s5 s6
 obtain ⟨y0,y1,y2,y3,y4,y5,y6,y7,y8,y9,y10,y11,y12,y13,y14⟩:=h3.rs.frees
 obtain ⟨d0,d1,d2,d3,d4,d5,d6,d7,d8,d9,d10,d11,d12,d13,d14⟩:=zero_cells h3.rs
 go_wp2_with fail
 obtain ⟨W9,hW9,g9,b9⟩:=h3.wipe
 rw [hW9]
 clear hW9 y0 y1 y2 y3 y4 y5 y6 y7 y8 y9 y10 y11 y12 y13 y14 d0 d1 d2 d3 d4 d5 d6 d7 d8 d9 d10 d11 d12 d13 d14
 obtain ⟨c0,c1,c2,c3,c4,c5,c6,c7,c8,c9,c10,c11,c12,c13,c14⟩:=zero_cells g9
 exact bodyPost_ret (v:=.tuple #[.agg #[.int .i64 0,.int .i64 0,.int .i64 0,.int .i64 0,.int .i64 0,.int .i64 0,.int .i64 0,.int .i64 0,.int .i64 0,.int .i64 0,.int .i64 0,.int .i64 0,.bool false,.bool false,.int .i64 0],.iface 71 (.int .i64 6)]) (by simp [results,Tryz.results31,go_sem,c0,c1,c2,c3,c4,c5,c6,c7,c8,c9,c10,c11,c12,c13,c14]) rfl ⟨rfl,b9⟩
end Go.Proofs.YtkhheooofcpfdaaGreatDoor
namespace Go.Proofs.YtkhheooofcpfdaaGreatDoor
open Go.RowKit
set_option linter.unusedVariables false
set_option maxRecDepth 100000 in
set_option maxHeartbeats 16000000 in
theorem beg_other (k:Ky) (s:Sg) (a:Option Addr) (l c:Nat) (rule now:Int) (w:World) (hr:inR rule (-1) 200=true) (hb:Bytes w (.slice a l c) s.body) (hL:Lives w) (hd:sdE k s 0 now=0) (hk:¬ k.kind=1) :
  Calls Tryz.prog 31 #[keyV k,segV s (.slice a l c),.int .i64 rule,.int .i64 now] w fun e w'=>e = .returned (.tuple #[flV (begG k s rule now),.nilIface])∧Below w.heap.size w w':=by
 have h1:=Kb.start w k s (.slice a l c)
 obtain ⟨W1,hW1⟩:∃ W1,((w.alloc (.cells #[.int .i64 k.kind,.int .i64 k.src,.int .i64 k.frm,.int .i64 k.dst,.int .i64 k.too] 37)).alloc (.cells #[.int .i64 s.frm,.int .i64 s.too,.int .i64 s.seq,.int .i64 s.ack,.int .i64 s.win,.int .i64 s.flg,.slice a l c] 41)).alloc (.cells #[.int .i64 0,.int .i64 0,.int .i64 0,.int .i64 0,.int .i64 0,.int .i64 0,.int .i64 0,.int .i64 0,.int .i64 0,.int .i64 0,.int .i64 0,.int .i64 0,.bool false,.bool false,.int .i64 0] 45)=W1:=⟨_,rfl⟩
 rw [hW1] at h1
 have cw:=fun W=>within_any rule (-1) 200 W
 obtain ⟨hn,_,_⟩:=sdE_ok hd
 obtain ⟨g,hg⟩:∃ g:Fl,{ key:=k,st:=1,unt:=0,stp:=0,h0:=0,h1:=0,w0:=0,w1:=0,d0:=false,d1:=false,num:=rule }=g:=⟨_,rfl⟩
 have hch:=fun W (hb:Below w.heap.size w W)=>changed_any g now W (hL.below hb) (by rw [← hg];exact Int.le_refl 0) (by rw [← hg];show (0:Int)≤1000000;decide) hn.1 hn.2
 rw [show chgF g now=begG k s rule now by rw [← hg];unfold chgF begG;rw [if_neg hk,if_neg hk];rfl] at hch
 obtain ⟨q,hq⟩:∃ q,begG k s rule now=q:=⟨_,rfl⟩
 rw [hq] at hch ⊢
 have HCH:=hidE hch
 have HG:=hidE hg
 unfold flV at HCH ⊢
 rw [hr] at cw
 have hsd:=fun W (hB:Below w.heap.size w W)=>checkSaid_any k s (.slice a l c) 0 now W (hb.below (Nat.le_refl _) hB)
 rw [hd,errV_ok] at hsd
 unfold keyV segV at hsd
 have e1:(k.kind == 1)=false:=by simpa using hk
 clear hr hd hb hk hL hn hq hch hg
 unfold keyV segV
 go_enter Tryz.func31,Tryz.ntmps31
 go_upto_region 1 with fail
 try rw [hW1]
 clear hW1
 go_upto_region 3 with (go_at_call 56;refine (cw _).mono ?_;rintro e w' ⟨rfl,hw'⟩;rw [hw'];clear hw' w')
 obtain ⟨k0,k1,k2,k3,k4⟩:=h1.ky.cells
 obtain ⟨s0,s1,s2,s3,s4,s5,s6⟩:=h1.sg.cells
 go_upto_region 6 with (go_at_call 57;refine (hsd _ h1.bel).mono ?_;rintro e W2 ⟨rfl,b2⟩)
 have h2:=h1.step b2
 clear k0 k1 k2 k3 k4 s0 s1 s2 s3 s4 s5 s6
 clear h1 b2 hsd cw
 obtain ⟨k0,k1,k2,k3,k4⟩:=h2.ky.cells
 obtain ⟨s0,s1,s2,s3,s4,s5,s6⟩:=h2.sg.cells
 go_upto_region 7 with fail
 have h3:=h2.step ((Below.refl _ _).alloc (Nat.le_refl _) (.cells #[.int .i64 k.kind,.int .i64 k.src,.int .i64 k.frm,.int .i64 k.dst,.int .i64 k.too,.int .i64 1,.int .i64 0,.int .i64 0,.int .i64 0,.int .i64 0,.int .i64 0,.int .i64 0,.bool false,.bool false,.int .i64 rule] 45))
 have hlt:=h2.rs.lt
 have p3:=FlAt.new W2 { key:=k,st:=1,unt:=0,stp:=0,h0:=0,h1:=0,w0:=0,w1:=0,d0:=false,d1:=false,num:=rule }
 simp only at p3
 obtain ⟨W3,hW3⟩:∃ W3,W2.alloc (.cells #[.int .i64 k.kind,.int .i64 k.src,.int .i64 k.frm,.int .i64 k.dst,.int .i64 k.too,.int .i64 1,.int .i64 0,.int .i64 0,.int .i64 0,.int .i64 0,.int .i64 0,.int .i64 0,.bool false,.bool false,.int .i64 rule] 45)=W3:=⟨_,rfl⟩
 rw [hW3] at h3 p3 ⊢
 obtain ⟨G,hG⟩:∃ G,W2.heap.size=G:=⟨_,rfl⟩
 rw [hG] at p3 hlt ⊢
 clear hW3 hG h2
 clear k0 k1 k2 k3 k4 s0 s1 s2 s3 s4 s5 s6
 rw [HG.out] at p3
 obtain ⟨k0,k1,k2,k3,k4⟩:=h3.ky.cells
 obtain ⟨s0,s1,s2,s3,s4,s5,s6⟩:=h3.sg.cells
 go_upto_region 11 with fail
 clear k0 k1 k2 k3 k4 s0 s1 s2 s3 s4 s5 s6
 obtain ⟨c0,c1,c2,c3,c4,c5,c6,c7,c8,c9,c10,c11,c12,c13,c14⟩:=p3.cells
 have hch:=HCH.out _ h3.bel
 go_wp2_with (go_at_call 59;refine hch.mono ?_;rintro e W8 ⟨rfl,b8⟩;have h8:=h3.step b8;obtain ⟨y0,y1,y2,y3,y4,y5,y6,y7,y8,y9,y10,y11,y12,y13,y14⟩:=h8.rs.frees;obtain ⟨d0,d1,d2,d3,d4,d5,d6,d7,d8,d9,d10,d11,d12,d13,d14⟩:=h8.rs.cells)
 clear c0 c1 c2 c3 c4 c5 c6 c7 c8 c9 c10 c11 c12 c13 c14 hch HCH b8 h3 p3
 obtain ⟨W9,hW9,g9,b9⟩:=h8.fin (q:=q)
 rw [hW9]
 clear hW9 y0 y1 y2 y3 y4 y5 y6 y7 y8 y9 y10 y11 y12 y13 y14 d0 d1 d2 d3 d4 d5 d6 d7 d8 d9 d10 d11 d12 d13 d14
 obtain ⟨c0,c1,c2,c3,c4,c5,c6,c7,c8,c9,c10,c11,c12,c13,c14⟩:=g9.cells
 exact bodyPost_ret (v:=.tuple #[.agg #[.int .i64 q.key.kind,.int .i64 q.key.src,.int .i64 q.key.frm,.int .i64 q.key.dst,.int .i64 q.key.too,.int .i64 q.st,.int .i64 q.unt,.int .i64 q.stp,.int .i64 q.h0,.int .i64 q.h1,.int .i64 q.w0,.int .i64 q.w1,.bool q.d0,.bool q.d1,.int .i64 q.num],.nilIface]) (by simp [results,Tryz.results31,go_sem,c0,c1,c2,c3,c4,c5,c6,c7,c8,c9,c10,c11,c12,c13,c14]) rfl ⟨rfl,b9⟩
set_option maxRecDepth 100000 in
set_option maxHeartbeats 16000000 in
theorem beg_stream (k:Ky) (s:Sg) (a:Option Addr) (l c:Nat) (rule now:Int) (w:World) (hr:inR rule (-1) 200=true) (hb:Bytes w (.slice a l c) s.body) (hL:Lives w) (hd:sdE k s 0 now=0) (hk:k.kind=1) (hf:s.flg=2) :
  Calls Tryz.prog 31 #[keyV k,segV s (.slice a l c),.int .i64 rule,.int .i64 now] w fun e w'=>e = .returned (.tuple #[flV (begG k s rule now),.nilIface])∧Below w.heap.size w w':=by
 have h1:=Kb.start w k s (.slice a l c)
 obtain ⟨W1,hW1⟩:∃ W1,((w.alloc (.cells #[.int .i64 k.kind,.int .i64 k.src,.int .i64 k.frm,.int .i64 k.dst,.int .i64 k.too] 37)).alloc (.cells #[.int .i64 s.frm,.int .i64 s.too,.int .i64 s.seq,.int .i64 s.ack,.int .i64 s.win,.int .i64 s.flg,.slice a l c] 41)).alloc (.cells #[.int .i64 0,.int .i64 0,.int .i64 0,.int .i64 0,.int .i64 0,.int .i64 0,.int .i64 0,.int .i64 0,.int .i64 0,.int .i64 0,.int .i64 0,.int .i64 0,.bool false,.bool false,.int .i64 0] 45)=W1:=⟨_,rfl⟩
 rw [hW1] at h1
 have cw:=fun W=>within_any rule (-1) 200 W
 obtain ⟨hn,hsg,_⟩:=sdE_ok hd
 obtain ⟨f1,f2,f3,f4,f5,f6⟩:=fitB_of (sgErr_ok hsg).2.2.2.1
 have hl:s.body.length=l:=by obtain ⟨a',c',h⟩:=len_body hb;cases h;rfl
 have hl4:l≤4000:=by have:=(sgErr_ok hsg).2.2.2.2.2;omega
 have hh:=fun W=>end_any s a l c W f6.1 f6.2 f4.1 (Int.le_trans f4.2 (seqM_le _).1) hl hl4
 obtain ⟨g,hg⟩:∃ g:Fl,{ key:=k,st:=1,unt:=0,stp:=0,h0:=endI s,h1:=0,w0:=s.win,w1:=0,d0:=false,d1:=false,num:=rule }=g:=⟨_,rfl⟩
 have hch:=fun W (hb:Below w.heap.size w W)=>changed_any g now W (hL.below hb) (by rw [← hg];exact Int.le_refl 0) (by rw [← hg];show (0:Int)≤1000000;decide) hn.1 hn.2
 rw [show chgF g now=begG k s rule now by rw [← hg];unfold chgF begG;rw [if_pos hk,if_pos hk];rfl] at hch
 obtain ⟨q,hq⟩:∃ q,begG k s rule now=q:=⟨_,rfl⟩
 rw [hq] at hch ⊢
 generalize endI s=en at hh hg
 have HCH:=hidE hch
 have HG:=hidE hg
 unfold flV at HCH ⊢
 unfold segV at hh
 rw [hr] at cw
 have hsd:=fun W (hB:Below w.heap.size w W)=>checkSaid_any k s (.slice a l c) 0 now W (hb.below (Nat.le_refl _) hB)
 rw [hd,errV_ok] at hsd
 unfold keyV segV at hsd
 have e1:(k.kind == 1)=true:=by simpa using hk
 have e2:(s.flg != 2)=false:=by simp [hf]
 clear hr hd hb hk hL hn hq hch hg hf hsg f1 f2 f3 f4 f5 f6 hl hl4
 unfold keyV segV
 go_enter Tryz.func31,Tryz.ntmps31
 go_upto_region 1 with fail
 try rw [hW1]
 clear hW1
 go_upto_region 3 with (go_at_call 56;refine (cw _).mono ?_;rintro e w' ⟨rfl,hw'⟩;rw [hw'];clear hw' w')
 obtain ⟨k0,k1,k2,k3,k4⟩:=h1.ky.cells
 obtain ⟨s0,s1,s2,s3,s4,s5,s6⟩:=h1.sg.cells
 go_upto_region 6 with (go_at_call 57;refine (hsd _ h1.bel).mono ?_;rintro e W2 ⟨rfl,b2⟩)
 have h2:=h1.step b2
 clear k0 k1 k2 k3 k4 s0 s1 s2 s3 s4 s5 s6
 clear h1 b2 hsd cw
 obtain ⟨k0,k1,k2,k3,k4⟩:=h2.ky.cells
 obtain ⟨s0,s1,s2,s3,s4,s5,s6⟩:=h2.sg.cells
 go_upto_region 7 with fail
 have h3:=h2.step ((Below.refl _ _).alloc (Nat.le_refl _) (.cells #[.int .i64 k.kind,.int .i64 k.src,.int .i64 k.frm,.int .i64 k.dst,.int .i64 k.too,.int .i64 1,.int .i64 0,.int .i64 0,.int .i64 0,.int .i64 0,.int .i64 0,.int .i64 0,.bool false,.bool false,.int .i64 rule] 45))
 have hlt:=h2.rs.lt
 have p3:=FlAt.new W2 { key:=k,st:=1,unt:=0,stp:=0,h0:=0,h1:=0,w0:=0,w1:=0,d0:=false,d1:=false,num:=rule }
 simp only at p3
 obtain ⟨W3,hW3⟩:∃ W3,W2.alloc (.cells #[.int .i64 k.kind,.int .i64 k.src,.int .i64 k.frm,.int .i64 k.dst,.int .i64 k.too,.int .i64 1,.int .i64 0,.int .i64 0,.int .i64 0,.int .i64 0,.int .i64 0,.int .i64 0,.bool false,.bool false,.int .i64 rule] 45)=W3:=⟨_,rfl⟩
 rw [hW3] at h3 p3 ⊢
 obtain ⟨G,hG⟩:∃ G,W2.heap.size=G:=⟨_,rfl⟩
 rw [hG] at p3 hlt ⊢
 clear hW3 hG h2
 clear k0 k1 k2 k3 k4 s0 s1 s2 s3 s4 s5 s6
 obtain ⟨k0,k1,k2,k3,k4⟩:=h3.ky.cells
 obtain ⟨s0,s1,s2,s3,s4,s5,s6⟩:=h3.sg.cells
 go_upto_region 10 with fail
 clear k0 k1 k2 k3 k4 s0 s1 s2 s3 s4 s5 s6
 have hS:W3.cell? ⟨w.heap.size+1,0,none⟩=some (.int .i64 s.frm)∧W3.cell? ⟨w.heap.size+1,1,none⟩=some (.int .i64 s.too)∧W3.cell? ⟨w.heap.size+1,2,none⟩=some (.int .i64 s.seq)∧W3.cell? ⟨w.heap.size+1,3,none⟩=some (.int .i64 s.ack)∧W3.cell? ⟨w.heap.size+1,4,none⟩=some (.int .i64 s.win)∧W3.cell? ⟨w.heap.size+1,5,none⟩=some (.int .i64 s.flg)∧W3.cell? ⟨w.heap.size+1,6,none⟩=some (.slice a l c):=h3.sg.cells
 go_region_held3 (fun W=>W.cell? ⟨w.heap.size+1,0,none⟩=some (.int .i64 s.frm)∧W.cell? ⟨w.heap.size+1,1,none⟩=some (.int .i64 s.too)∧W.cell? ⟨w.heap.size+1,2,none⟩=some (.int .i64 s.seq)∧W.cell? ⟨w.heap.size+1,3,none⟩=some (.int .i64 s.ack)∧W.cell? ⟨w.heap.size+1,4,none⟩=some (.int .i64 s.win)∧W.cell? ⟨w.heap.size+1,5,none⟩=some (.int .i64 s.flg)∧W.cell? ⟨w.heap.size+1,6,none⟩=some (.slice a l c)) (with_reducible first|assumption|go_keep) (first|(go_at_call 58;refine (hh _).mono ?_;rintro e W4 ⟨rfl,b4⟩;have h4:=h3.drew.step b4;have p4:=p3.drew.below p3.lt b4;have hS4:W4.cell? ⟨w.heap.size+1,0,none⟩=some (.int .i64 s.frm)∧W4.cell? ⟨w.heap.size+1,1,none⟩=some (.int .i64 s.too)∧W4.cell? ⟨w.heap.size+1,2,none⟩=some (.int .i64 s.seq)∧W4.cell? ⟨w.heap.size+1,3,none⟩=some (.int .i64 s.ack)∧W4.cell? ⟨w.heap.size+1,4,none⟩=some (.int .i64 s.win)∧W4.cell? ⟨w.heap.size+1,5,none⟩=some (.int .i64 s.flg)∧W4.cell? ⟨w.heap.size+1,6,none⟩=some (.slice a l c):=h4.sg.cells;have e8:=p4.cells.2.2.2.2.2.2.2.2.1;have f8:=p4.free 8;obtain ⟨W5,hW5,p5,o5⟩:=p4.store_h0 en;have h5:=h4.only hlt o5;have e10:=p5.cells.2.2.2.2.2.2.2.2.2.2.1;have f10:=p5.free 10;obtain ⟨W6,hW6,p6,o6⟩:=p5.store_w0 s.win;have h6:=h5.only hlt o6;have hS5:W5.cell? ⟨w.heap.size+1,0,none⟩=some (.int .i64 s.frm)∧W5.cell? ⟨w.heap.size+1,1,none⟩=some (.int .i64 s.too)∧W5.cell? ⟨w.heap.size+1,2,none⟩=some (.int .i64 s.seq)∧W5.cell? ⟨w.heap.size+1,3,none⟩=some (.int .i64 s.ack)∧W5.cell? ⟨w.heap.size+1,4,none⟩=some (.int .i64 s.win)∧W5.cell? ⟨w.heap.size+1,5,none⟩=some (.int .i64 s.flg)∧W5.cell? ⟨w.heap.size+1,6,none⟩=some (.slice a l c):=h5.sg.cells;have hS6:W6.cell? ⟨w.heap.size+1,0,none⟩=some (.int .i64 s.frm)∧W6.cell? ⟨w.heap.size+1,1,none⟩=some (.int .i64 s.too)∧W6.cell? ⟨w.heap.size+1,2,none⟩=some (.int .i64 s.seq)∧W6.cell? ⟨w.heap.size+1,3,none⟩=some (.int .i64 s.ack)∧W6.cell? ⟨w.heap.size+1,4,none⟩=some (.int .i64 s.win)∧W6.cell? ⟨w.heap.size+1,5,none⟩=some (.int .i64 s.flg)∧W6.cell? ⟨w.heap.size+1,6,none⟩=some (.slice a l c):=h6.sg.cells))
 try rw [hW5,hW6]
 rw [HG.out] at p6
 clear hS hS4 hS5 hS6 e8 f8 e10 f10 hW5 hW6 h5 h4 h3 b4 hh p3 p4 p5 o5 o6
 obtain ⟨c0,c1,c2,c3,c4,c5,c6,c7,c8,c9,c10,c11,c12,c13,c14⟩:=p6.cells
 have hch:=HCH.out _ h6.bel
 go_wp2_with (go_at_call 59;refine hch.mono ?_;rintro e W8 ⟨rfl,b8⟩;have h8:=h6.step b8;obtain ⟨y0,y1,y2,y3,y4,y5,y6,y7,y8,y9,y10,y11,y12,y13,y14⟩:=h8.rs.frees;obtain ⟨d0,d1,d2,d3,d4,d5,d6,d7,d8,d9,d10,d11,d12,d13,d14⟩:=h8.rs.cells)
 clear c0 c1 c2 c3 c4 c5 c6 c7 c8 c9 c10 c11 c12 c13 c14 hch HCH b8 h6 p6
 obtain ⟨W9,hW9,g9,b9⟩:=h8.fin (q:=q)
 rw [hW9]
 clear hW9 y0 y1 y2 y3 y4 y5 y6 y7 y8 y9 y10 y11 y12 y13 y14 d0 d1 d2 d3 d4 d5 d6 d7 d8 d9 d10 d11 d12 d13 d14
 obtain ⟨c0,c1,c2,c3,c4,c5,c6,c7,c8,c9,c10,c11,c12,c13,c14⟩:=g9.cells
 exact bodyPost_ret (v:=.tuple #[.agg #[.int .i64 q.key.kind,.int .i64 q.key.src,.int .i64 q.key.frm,.int .i64 q.key.dst,.int .i64 q.key.too,.int .i64 q.st,.int .i64 q.unt,.int .i64 q.stp,.int .i64 q.h0,.int .i64 q.h1,.int .i64 q.w0,.int .i64 q.w1,.bool q.d0,.bool q.d1,.int .i64 q.num],.nilIface]) (by simp [results,Tryz.results31,go_sem,c0,c1,c2,c3,c4,c5,c6,c7,c8,c9,c10,c11,c12,c13,c14]) rfl ⟨rfl,b9⟩
theorem begin_any (k:Ky) (s:Sg) (bv:Value) (rule now:Int) (w:World) (hb:Bytes w bv s.body) (hL:Lives w) :
  Calls Tryz.prog 31 #[keyV k,segV s bv,.int .i64 rule,.int .i64 now] w fun e w'=>e = .returned (.tuple #[flV (begF k s rule now),errV (begE k s rule now)])∧Below w.heap.size w w':=by
 obtain ⟨a,c,rfl⟩:=len_body hb
 cases hr:inR rule (-1) 200
 ·have e:begE k s rule now=1:=by unfold begE;rw [if_pos hr]
  rw [show begF k s rule now=zeroF by unfold begF;rw [if_neg (by rw [e];decide)],e,errV_no (by decide)]
  exact beg_rule k s a _ c rule now w hr
 have hr':¬ inR rule (-1) 200=false:=by rw [hr];decide
 by_cases hd:sdE k s 0 now=0
 ·by_cases hk:k.kind=1
  ·by_cases hf:s.flg=2
   ·have e:begE k s rule now=0:=by unfold begE;rw [if_neg hr',if_neg (fun h=>h hd),if_neg (fun h=>h.2 hf)]
    rw [show begF k s rule now=begG k s rule now by unfold begF;rw [if_pos e],e,errV_ok]
    exact beg_stream k s a _ c rule now w hr hb hL hd hk hf
   ·have e:begE k s rule now=6:=by unfold begE;rw [if_neg hr',if_neg (fun h=>h hd),if_pos ⟨hk,hf⟩]
    rw [show begF k s rule now=zeroF by unfold begF;rw [if_neg (by rw [e];decide)],e,errV_no (by decide)]
    exact beg_syn k s a _ c rule now w hr hb hd hk hf
  ·have e:begE k s rule now=0:=by unfold begE;rw [if_neg hr',if_neg (fun h=>h hd),if_neg (fun h=>hk h.1)]
   rw [show begF k s rule now=begG k s rule now by unfold begF;rw [if_pos e],e,errV_ok]
   exact beg_other k s a _ c rule now w hr hb hL hd hk
 ·have e:begE k s rule now=sdE k s 0 now:=by unfold begE;rw [if_neg hr',if_pos hd]
  rw [show begF k s rule now=zeroF by unfold begF;rw [if_neg (by rw [e];exact hd)],e,errV_no hd]
  exact beg_said k s a _ c rule now w hr hb _ rfl hd
end Go.Proofs.YtkhheooofcpfdaaGreatDoor
