/- The reference's Begin of a table: the states that its walk goes through; where it refuses. -/
import Derived.Test.YtkhheooofcpfdaaGreatDoorMgZ
import Derived.Test.YtkhheooofcpfdaaGreatDoorMhM
import Derived.Test.YtkhheooofcpfdaaGreatDoorMgT
import Derived.Test.YtkhheooofcpfdaaGreatDoorMgR
namespace Go.Proofs.YtkhheooofcpfdaaGreatDoor
open Go.RowKit Go.Maps
set_option linter.unusedVariables false
structure LgS (w:World) (b:Nat) (t:Tb) (va:Value) (k:Ky) (s:Sg) (bv:Value) (W:World):Prop where
 ky:KyAt W w.heap.size k
 sg:SgAt W (w.heap.size+1) s bv
 rs:FlAt W (w.heap.size+2) zeroF
 tb:LIn W b t va
 lb:b < w.heap.size
 bel:Below w.heap.size w W
theorem LgS.start (w:World) (b:Nat) (t:Tb) (va:Value) (k:Ky) (s:Sg) (bv:Value) (h:LIn w b t va):LgS w b t va k s bv (((w.alloc (.cells #[.int .i64 k.kind,.int .i64 k.src,.int .i64 k.frm,.int .i64 k.dst,.int .i64 k.too] 37)).alloc (.cells #[.int .i64 s.frm,.int .i64 s.too,.int .i64 s.seq,.int .i64 s.ack,.int .i64 s.win,.int .i64 s.flg,bv] 41)).alloc (.cells #[.int .i64 0,.int .i64 0,.int .i64 0,.int .i64 0,.int .i64 0,.int .i64 0,.int .i64 0,.int .i64 0,.int .i64 0,.int .i64 0,.int .i64 0,.int .i64 0,.bool false,.bool false,.int .i64 0] 45)):=by
 have h1:=Ks2.start w k s bv
 have s1:((w.alloc (.cells #[.int .i64 k.kind,.int .i64 k.src,.int .i64 k.frm,.int .i64 k.dst,.int .i64 k.too] 37)).alloc (.cells #[.int .i64 s.frm,.int .i64 s.too,.int .i64 s.seq,.int .i64 s.ack,.int .i64 s.win,.int .i64 s.flg,bv] 41)).heap.size=w.heap.size+2:=by simp
 have t1:=(h.alloc (.cells #[.int .i64 k.kind,.int .i64 k.src,.int .i64 k.frm,.int .i64 k.dst,.int .i64 k.too] 37)).alloc (.cells #[.int .i64 s.frm,.int .i64 s.too,.int .i64 s.seq,.int .i64 s.ack,.int .i64 s.win,.int .i64 s.flg,bv] 41)
 generalize (w.alloc (.cells #[.int .i64 k.kind,.int .i64 k.src,.int .i64 k.frm,.int .i64 k.dst,.int .i64 k.too] 37)).alloc (.cells #[.int .i64 s.frm,.int .i64 s.too,.int .i64 s.seq,.int .i64 s.ack,.int .i64 s.win,.int .i64 s.flg,bv] 41)=w1 at h1 s1 t1 ⊢
 have h3:=FlAt.zero w1
 rw [s1] at h3
 exact ⟨h1.ky.alloc _,h1.sg.alloc _,h3,t1.alloc _,h.lt,h1.bel.alloc h1.bel.size _⟩
theorem LgS.step {w W W':World} {b:Nat} {t:Tb} {va:Value} {k:Ky} {s:Sg} {bv:Value} (h:LgS w b t va k s bv W) (hb:Below W.heap.size W W'):LgS w b t va k s bv W' :=
 ⟨h.ky.below h.ky.lt hb,h.sg.below h.sg.lt hb,h.rs.below h.rs.lt hb,h.tb.below hb,h.lb,h.bel.trans (hb.mono h.bel.size)⟩
theorem LgS.alloc {w W:World} {b:Nat} {t:Tb} {va:Value} {k:Ky} {s:Sg} {bv:Value} (h:LgS w b t va k s bv W) (o:Obj):LgS w b t va k s bv (W.alloc o):=h.step ((Below.refl _ _).alloc (Nat.le_refl _) _)
set_option maxRecDepth 100000 in
set_option maxHeartbeats 32000000 in
theorem lb_time (b:Nat) (t:Tb) (va:Value) (k:Ky) (s:Sg) (a:Option Addr) (l c:Nat) (rule now:Int) (w:World) (h:LIn w b t va) (hlen:t.fs.length≤1000) (hvb:va.ownBlock≠some b) (hb:Bytes w (.slice a l c) s.body) (z:Int) (hz:timE t now=z) (h0:¬ z=0) :
  Calls Tryz.prog 7 #[.pointer (some ⟨b,0,none⟩),keyV k,segV s (.slice a l c),.int .i64 rule,.int .i64 now] w fun e w'=>e = .returned (.tuple #[flV zeroF,.int .i64 z])∧Below w.heap.size w w':=by
 rw [show flV zeroF = .agg #[.int .i64 0,.int .i64 0,.int .i64 0,.int .i64 0,.int .i64 0,.int .i64 0,.int .i64 0,.int .i64 0,.int .i64 0,.int .i64 0,.int .i64 0,.int .i64 0,.bool false,.bool false,.int .i64 0] from rfl]
 have h1:=LgS.start w b t va k s (.slice a l c) h
 obtain ⟨W1,hW1⟩:∃ W1,((w.alloc (.cells #[.int .i64 k.kind,.int .i64 k.src,.int .i64 k.frm,.int .i64 k.dst,.int .i64 k.too] 37)).alloc (.cells #[.int .i64 s.frm,.int .i64 s.too,.int .i64 s.seq,.int .i64 s.ack,.int .i64 s.win,.int .i64 s.flg,.slice a l c] 41)).alloc (.cells #[.int .i64 0,.int .i64 0,.int .i64 0,.int .i64 0,.int .i64 0,.int .i64 0,.int .i64 0,.int .i64 0,.int .i64 0,.int .i64 0,.int .i64 0,.int .i64 0,.bool false,.bool false,.int .i64 0] 45)=W1:=⟨_,rfl⟩
 rw [hW1] at h1
 have HB:=hidE (fun W (hB:Below w.heap.size w W)=>hb.below (Nat.le_refl _) hB)
 have hc:=ltime_any b t va now W1 h1.tb
 rw [hz] at hc
 have i1:(z != 0)=true:=by simpa using h0
 clear h0
 clear hb hz
 unfold keyV segV
 go_enter Tryz.func7,Tryz.ntmps7
 go_upto_region 1 with fail
 try rw [hW1]
 clear hW1
 go_upto_region 3 with (go_at_call 25;go_must (refine hc.mono ?_;rintro e W2 ⟨rfl,hw⟩;rw [hw];clear hw W2))
 clear hc
 obtain ⟨y0,y1,y2,y3,y4,y5,y6,y7,y8,y9,y10,y11,y12,y13,y14⟩:=h1.rs.frees
 obtain ⟨d0,d1,d2,d3,d4,d5,d6,d7,d8,d9,d10,d11,d12,d13,d14⟩:=zero_cells h1.rs
 obtain ⟨W9,hW9,g9,o9⟩:=fl_wipe h1.rs
 have HW9:=hidE hW9
 have HG9:=hidE g9
 have HB9:=hidE (o9.below (by omega) h1.bel)
 clear hW9 g9 o9
 go_wp2_with fail
 rw [HW9.out]
 clear y0 y1 y2 y3 y4 y5 y6 y7 y8 y9 y10 y11 y12 y13 y14 d0 d1 d2 d3 d4 d5 d6 d7 d8 d9 d10 d11 d12 d13 d14
 obtain ⟨c0,c1,c2,c3,c4,c5,c6,c7,c8,c9,c10,c11,c12,c13,c14⟩:=zero_cells HG9.out
 exact bodyPost_ret (v:=.tuple #[.agg #[.int .i64 0,.int .i64 0,.int .i64 0,.int .i64 0,.int .i64 0,.int .i64 0,.int .i64 0,.int .i64 0,.int .i64 0,.int .i64 0,.int .i64 0,.int .i64 0,.bool false,.bool false,.int .i64 0],.int .i64 z]) (by simp [results,Tryz.results7,go_sem,c0,c1,c2,c3,c4,c5,c6,c7,c8,c9,c10,c11,c12,c13,c14]) rfl ⟨rfl,HB9.out⟩
set_option maxRecDepth 100000 in
set_option maxHeartbeats 32000000 in
theorem lb_beg (b:Nat) (t:Tb) (va:Value) (k:Ky) (s:Sg) (a:Option Addr) (l c:Nat) (rule now:Int) (w:World) (h:LIn w b t va) (hlen:t.fs.length≤1000) (hvb:va.ownBlock≠some b) (hb:Bytes w (.slice a l c) s.body) (z:Int) (hz:timE t now=0) (hbe:begE k s rule now=z) (h0:¬ z=0) :
  Calls Tryz.prog 7 #[.pointer (some ⟨b,0,none⟩),keyV k,segV s (.slice a l c),.int .i64 rule,.int .i64 now] w fun e w'=>e = .returned (.tuple #[flV zeroF,.int .i64 z])∧Below w.heap.size w w':=by
 rw [show flV zeroF = .agg #[.int .i64 0,.int .i64 0,.int .i64 0,.int .i64 0,.int .i64 0,.int .i64 0,.int .i64 0,.int .i64 0,.int .i64 0,.int .i64 0,.int .i64 0,.int .i64 0,.bool false,.bool false,.int .i64 0] from rfl]
 have h1:=LgS.start w b t va k s (.slice a l c) h
 obtain ⟨W1,hW1⟩:∃ W1,((w.alloc (.cells #[.int .i64 k.kind,.int .i64 k.src,.int .i64 k.frm,.int .i64 k.dst,.int .i64 k.too] 37)).alloc (.cells #[.int .i64 s.frm,.int .i64 s.too,.int .i64 s.seq,.int .i64 s.ack,.int .i64 s.win,.int .i64 s.flg,.slice a l c] 41)).alloc (.cells #[.int .i64 0,.int .i64 0,.int .i64 0,.int .i64 0,.int .i64 0,.int .i64 0,.int .i64 0,.int .i64 0,.int .i64 0,.int .i64 0,.int .i64 0,.int .i64 0,.bool false,.bool false,.int .i64 0] 45)=W1:=⟨_,rfl⟩
 rw [hW1] at h1
 have HB:=hidE (fun W (hB:Below w.heap.size w W)=>hb.below (Nat.le_refl _) hB)
 have hc:=ltime_any b t va now W1 h1.tb
 rw [hz] at hc
 have i1:(z != 0)=true:=by simpa using h0
 clear h0
 have HZ:=hidE hz
 have c2:=hidE (fun W hB=>refBegin_any k s (.slice a l c) rule now W (HB.out W hB))
 obtain ⟨f,hf⟩:∃ f,begF k s rule now=f:=⟨_,rfl⟩
 rw [hbe] at c2
 clear hbe
 rw [hf] at c2
 unfold keyV segV flV at c2
 have HF:=hidE hf
 clear hf
 clear hb hz
 unfold keyV segV
 go_enter Tryz.func7,Tryz.ntmps7
 go_upto_region 1 with fail
 try rw [hW1]
 clear hW1
 go_upto_region 4 with (go_at_call 25;go_must (refine hc.mono ?_;rintro e W2 ⟨rfl,hw⟩;rw [hw];clear hw W2))
 clear hc
 obtain ⟨k0,k1,k2,k3,k4⟩:=h1.ky.cells
 obtain ⟨s0,s1,s2,s3,s4,s5,s6⟩:=h1.sg.cells
 have hc:=c2.out W1 h1.bel
 go_upto_region 6 with (go_at_call 26;go_must (refine hc.mono ?_;rintro e W4 ⟨rfl,b4⟩))
 have h4:=(h1.step b4).alloc (.cells #[.int .i64 f.key.kind,.int .i64 f.key.src,.int .i64 f.key.frm,.int .i64 f.key.dst,.int .i64 f.key.too,.int .i64 f.st,.int .i64 f.unt,.int .i64 f.stp,.int .i64 f.h0,.int .i64 f.h1,.int .i64 f.w0,.int .i64 f.w1,.bool f.d0,.bool f.d1,.int .i64 f.num] 45)
 have p4:=FlAt.new W4 f
 have hly:w.heap.size+2 < W4.heap.size:=(h1.step b4).rs.lt
 obtain ⟨W5,hW5⟩:∃ X9,W4.alloc (.cells #[.int .i64 f.key.kind,.int .i64 f.key.src,.int .i64 f.key.frm,.int .i64 f.key.dst,.int .i64 f.key.too,.int .i64 f.st,.int .i64 f.unt,.int .i64 f.stp,.int .i64 f.h0,.int .i64 f.h1,.int .i64 f.w0,.int .i64 f.w1,.bool f.d0,.bool f.d1,.int .i64 f.num] 45)=X9:=⟨_,rfl⟩
 obtain ⟨Y,hY⟩:∃ X9,W4.heap.size=X9:=⟨_,rfl⟩
 rw [hW5] at h4 p4 ⊢
 rw [hY] at p4 hly ⊢
 clear hW5 hY hc b4 h1 k0 k1 k2 k3 k4 s0 s1 s2 s3 s4 s5 s6
 obtain ⟨y0,y1,y2,y3,y4,y5,y6,y7,y8,y9,y10,y11,y12,y13,y14⟩:=h4.rs.frees
 obtain ⟨d0,d1,d2,d3,d4,d5,d6,d7,d8,d9,d10,d11,d12,d13,d14⟩:=zero_cells h4.rs
 obtain ⟨W9,hW9,g9,o9⟩:=fl_wipe h4.rs
 have HW9:=hidE hW9
 have HG9:=hidE g9
 have HB9:=hidE (o9.below (by omega) h4.bel)
 clear hW9 g9 o9
 go_wp2_with fail
 rw [HW9.out]
 clear y0 y1 y2 y3 y4 y5 y6 y7 y8 y9 y10 y11 y12 y13 y14 d0 d1 d2 d3 d4 d5 d6 d7 d8 d9 d10 d11 d12 d13 d14
 obtain ⟨c0,c1,c2,c3,c4,c5,c6,c7,c8,c9,c10,c11,c12,c13,c14⟩:=zero_cells HG9.out
 exact bodyPost_ret (v:=.tuple #[.agg #[.int .i64 0,.int .i64 0,.int .i64 0,.int .i64 0,.int .i64 0,.int .i64 0,.int .i64 0,.int .i64 0,.int .i64 0,.int .i64 0,.int .i64 0,.int .i64 0,.bool false,.bool false,.int .i64 0],.int .i64 z]) (by simp [results,Tryz.results7,go_sem,c0,c1,c2,c3,c4,c5,c6,c7,c8,c9,c10,c11,c12,c13,c14]) rfl ⟨rfl,HB9.out⟩
end Go.Proofs.YtkhheooofcpfdaaGreatDoor
namespace Go.Proofs.YtkhheooofcpfdaaGreatDoor
open Go.RowKit Go.Maps
set_option linter.unusedVariables false
set_option maxRecDepth 100000 in
set_option maxHeartbeats 32000000 in
theorem lb_clash (b:Nat) (t:Tb) (va:Value) (k:Ky) (s:Sg) (a:Option Addr) (l c:Nat) (rule now:Int) (w:World) (h:LIn w b t va) (hlen:t.fs.length≤1000) (hvb:va.ownBlock≠some b) (hb:Bytes w (.slice a l c) s.body) (hz:timE t now=0) (hbe:begE k s rule now=0) (hhs:hasK (leftL now t.fs) k=true) :
  Calls Tryz.prog 7 #[.pointer (some ⟨b,0,none⟩),keyV k,segV s (.slice a l c),.int .i64 rule,.int .i64 now] w fun e w'=>e = .returned (.tuple #[flV zeroF,.int .i64 7])∧Below w.heap.size w w':=by
 rw [show flV zeroF = .agg #[.int .i64 0,.int .i64 0,.int .i64 0,.int .i64 0,.int .i64 0,.int .i64 0,.int .i64 0,.int .i64 0,.int .i64 0,.int .i64 0,.int .i64 0,.int .i64 0,.bool false,.bool false,.int .i64 0] from rfl]
 have h1:=LgS.start w b t va k s (.slice a l c) h
 obtain ⟨W1,hW1⟩:∃ W1,((w.alloc (.cells #[.int .i64 k.kind,.int .i64 k.src,.int .i64 k.frm,.int .i64 k.dst,.int .i64 k.too] 37)).alloc (.cells #[.int .i64 s.frm,.int .i64 s.too,.int .i64 s.seq,.int .i64 s.ack,.int .i64 s.win,.int .i64 s.flg,.slice a l c] 41)).alloc (.cells #[.int .i64 0,.int .i64 0,.int .i64 0,.int .i64 0,.int .i64 0,.int .i64 0,.int .i64 0,.int .i64 0,.int .i64 0,.int .i64 0,.int .i64 0,.int .i64 0,.bool false,.bool false,.int .i64 0] 45)=W1:=⟨_,rfl⟩
 rw [hW1] at h1
 have HB:=hidE (fun W (hB:Below w.heap.size w W)=>hb.below (Nat.le_refl _) hB)
 have hc:=ltime_any b t va now W1 h1.tb
 rw [hz] at hc
 have HHS:=hidE hhs
 clear hhs
 have HZ:=hidE hz
 have c2:=hidE (fun W hB=>refBegin_any k s (.slice a l c) rule now W (HB.out W hB))
 obtain ⟨f,hf⟩:∃ f,begF k s rule now=f:=⟨_,rfl⟩
 rw [hbe] at c2
 have HBE:=hidE hbe
 clear hbe
 rw [hf] at c2
 unfold keyV segV flV at c2
 have HF:=hidE hf
 clear hf
 clear hb hz
 unfold keyV segV
 go_enter Tryz.func7,Tryz.ntmps7
 go_upto_region 1 with fail
 try rw [hW1]
 clear hW1
 go_upto_region 4 with (go_at_call 25;go_must (refine hc.mono ?_;rintro e W2 ⟨rfl,hw⟩;rw [hw];clear hw W2))
 clear hc
 obtain ⟨k0,k1,k2,k3,k4⟩:=h1.ky.cells
 obtain ⟨s0,s1,s2,s3,s4,s5,s6⟩:=h1.sg.cells
 have hc:=c2.out W1 h1.bel
 go_upto_region 7 with (go_at_call 26;go_must (refine hc.mono ?_;rintro e W4 ⟨rfl,b4⟩))
 have h4:=(h1.step b4).alloc (.cells #[.int .i64 f.key.kind,.int .i64 f.key.src,.int .i64 f.key.frm,.int .i64 f.key.dst,.int .i64 f.key.too,.int .i64 f.st,.int .i64 f.unt,.int .i64 f.stp,.int .i64 f.h0,.int .i64 f.h1,.int .i64 f.w0,.int .i64 f.w1,.bool f.d0,.bool f.d1,.int .i64 f.num] 45)
 have p4:=FlAt.new W4 f
 have hly:w.heap.size+2 < W4.heap.size:=(h1.step b4).rs.lt
 obtain ⟨W5,hW5⟩:∃ X9,W4.alloc (.cells #[.int .i64 f.key.kind,.int .i64 f.key.src,.int .i64 f.key.frm,.int .i64 f.key.dst,.int .i64 f.key.too,.int .i64 f.st,.int .i64 f.unt,.int .i64 f.stp,.int .i64 f.h0,.int .i64 f.h1,.int .i64 f.w0,.int .i64 f.w1,.bool f.d0,.bool f.d1,.int .i64 f.num] 45)=X9:=⟨_,rfl⟩
 obtain ⟨Y,hY⟩:∃ X9,W4.heap.size=X9:=⟨_,rfl⟩
 rw [hW5] at h4 p4 ⊢
 rw [hY] at p4 hly ⊢
 clear hW5 hY hc b4 h1 k0 k1 k2 k3 k4 s0 s1 s2 s3 s4 s5 s6
 have hlt:=later_any b t va now W5 h4.tb HZ.out hlen
 go_upto_region 8 with (go_at_call 27;go_must (refine hlt.mono ?_;rintro e W6 ⟨⟨X,v6,rfl,hx6,hlx,hvx⟩,b6⟩))
 have h6:=h4.step b6
 have p6:=p4.below p4.lt b6
 clear hlt b6 h4 p4
 obtain ⟨t',ht'⟩:∃ t',({ max:=t.max,now:=now,fs:=leftL now t.fs }:Tb)=t':=⟨_,rfl⟩
 rw [ht'] at hx6
 have HT':=hidE ht'
 clear ht'
 have hl6:t'.fs.length≤1000:=by
  rw [← HT'.out]
  exact Nat.le_trans (List.length_filter_le _ _) hlen
 have hat:=lat_any X t' v6 k W6 hx6 hl6
 unfold keyV at hat
 obtain ⟨k0,k1,k2,k3,k4⟩:=h6.ky.cells
 have HHB:Hid (hasK t'.fs k=true):=by rw [← HT'.out];exact HHS.out
 go_upto_if 40 with (go_at_call 28;go_must (refine hat.mono ?_;rintro e W7 ⟨⟨r,rfl,hr⟩,b7⟩))
 have h7:=h6.step b7
 have p7:=p6.below p6.lt b7
 have hx7:=hx6.below b7
 have HR:=hidE hr
 clear hat b7 h6 p6 hx6 k0 k1 k2 k3 k4 hr
 obtain ⟨i,hi⟩:∃ i:Nat,r=(i:Int):=by
  rcases HR.out with ⟨hh,_⟩|⟨i,_,hr,_⟩
  ·rw [HHB.out] at hh;cases hh
  ·exact ⟨i,hr⟩
 subst hi
 have i1:(i:Int) ≥ 0:=by omega
 clear HR hx7 p7
 obtain ⟨y0,y1,y2,y3,y4,y5,y6,y7,y8,y9,y10,y11,y12,y13,y14⟩:=h7.rs.frees
 obtain ⟨d0,d1,d2,d3,d4,d5,d6,d7,d8,d9,d10,d11,d12,d13,d14⟩:=zero_cells h7.rs
 obtain ⟨W9,hW9,g9,o9⟩:=fl_wipe h7.rs
 have HW9:=hidE hW9
 have HG9:=hidE g9
 have HB9:=hidE (o9.below (by omega) h7.bel)
 clear hW9 g9 o9
 go_wp2_with fail
 rw [HW9.out]
 clear y0 y1 y2 y3 y4 y5 y6 y7 y8 y9 y10 y11 y12 y13 y14 d0 d1 d2 d3 d4 d5 d6 d7 d8 d9 d10 d11 d12 d13 d14
 obtain ⟨c0,c1,c2,c3,c4,c5,c6,c7,c8,c9,c10,c11,c12,c13,c14⟩:=zero_cells HG9.out
 exact bodyPost_ret (v:=.tuple #[.agg #[.int .i64 0,.int .i64 0,.int .i64 0,.int .i64 0,.int .i64 0,.int .i64 0,.int .i64 0,.int .i64 0,.int .i64 0,.int .i64 0,.int .i64 0,.int .i64 0,.bool false,.bool false,.int .i64 0],.int .i64 7]) (by simp [results,Tryz.results7,go_sem,c0,c1,c2,c3,c4,c5,c6,c7,c8,c9,c10,c11,c12,c13,c14]) rfl ⟨rfl,HB9.out⟩
set_option maxRecDepth 100000 in
set_option maxHeartbeats 32000000 in
theorem lb_full (b:Nat) (t:Tb) (va:Value) (k:Ky) (s:Sg) (a:Option Addr) (l c:Nat) (rule now:Int) (w:World) (h:LIn w b t va) (hlen:t.fs.length≤1000) (hvb:va.ownBlock≠some b) (hb:Bytes w (.slice a l c) s.body) (hz:timE t now=0) (hbe:begE k s rule now=0) (hhs:hasK (leftL now t.fs) k=false) (hfu:t.max≤((leftL now t.fs).length:Int)) :
  Calls Tryz.prog 7 #[.pointer (some ⟨b,0,none⟩),keyV k,segV s (.slice a l c),.int .i64 rule,.int .i64 now] w fun e w'=>e = .returned (.tuple #[flV zeroF,.int .i64 4])∧Below w.heap.size w w':=by
 rw [show flV zeroF = .agg #[.int .i64 0,.int .i64 0,.int .i64 0,.int .i64 0,.int .i64 0,.int .i64 0,.int .i64 0,.int .i64 0,.int .i64 0,.int .i64 0,.int .i64 0,.int .i64 0,.bool false,.bool false,.int .i64 0] from rfl]
 have h1:=LgS.start w b t va k s (.slice a l c) h
 obtain ⟨W1,hW1⟩:∃ W1,((w.alloc (.cells #[.int .i64 k.kind,.int .i64 k.src,.int .i64 k.frm,.int .i64 k.dst,.int .i64 k.too] 37)).alloc (.cells #[.int .i64 s.frm,.int .i64 s.too,.int .i64 s.seq,.int .i64 s.ack,.int .i64 s.win,.int .i64 s.flg,.slice a l c] 41)).alloc (.cells #[.int .i64 0,.int .i64 0,.int .i64 0,.int .i64 0,.int .i64 0,.int .i64 0,.int .i64 0,.int .i64 0,.int .i64 0,.int .i64 0,.int .i64 0,.int .i64 0,.bool false,.bool false,.int .i64 0] 45)=W1:=⟨_,rfl⟩
 rw [hW1] at h1
 have HB:=hidE (fun W (hB:Below w.heap.size w W)=>hb.below (Nat.le_refl _) hB)
 have hc:=ltime_any b t va now W1 h1.tb
 rw [hz] at hc
 have HFU:=hidE hfu
 clear hfu
 have HHS:=hidE hhs
 clear hhs
 have HZ:=hidE hz
 have c2:=hidE (fun W hB=>refBegin_any k s (.slice a l c) rule now W (HB.out W hB))
 obtain ⟨f,hf⟩:∃ f,begF k s rule now=f:=⟨_,rfl⟩
 rw [hbe] at c2
 have HBE:=hidE hbe
 clear hbe
 rw [hf] at c2
 unfold keyV segV flV at c2
 have HF:=hidE hf
 clear hf
 clear hb hz
 unfold keyV segV
 go_enter Tryz.func7,Tryz.ntmps7
 go_upto_region 1 with fail
 try rw [hW1]
 clear hW1
 go_upto_region 4 with (go_at_call 25;go_must (refine hc.mono ?_;rintro e W2 ⟨rfl,hw⟩;rw [hw];clear hw W2))
 clear hc
 obtain ⟨k0,k1,k2,k3,k4⟩:=h1.ky.cells
 obtain ⟨s0,s1,s2,s3,s4,s5,s6⟩:=h1.sg.cells
 have hc:=c2.out W1 h1.bel
 go_upto_region 7 with (go_at_call 26;go_must (refine hc.mono ?_;rintro e W4 ⟨rfl,b4⟩))
 have h4:=(h1.step b4).alloc (.cells #[.int .i64 f.key.kind,.int .i64 f.key.src,.int .i64 f.key.frm,.int .i64 f.key.dst,.int .i64 f.key.too,.int .i64 f.st,.int .i64 f.unt,.int .i64 f.stp,.int .i64 f.h0,.int .i64 f.h1,.int .i64 f.w0,.int .i64 f.w1,.bool f.d0,.bool f.d1,.int .i64 f.num] 45)
 have p4:=FlAt.new W4 f
 have hly:w.heap.size+2 < W4.heap.size:=(h1.step b4).rs.lt
 obtain ⟨W5,hW5⟩:∃ X9,W4.alloc (.cells #[.int .i64 f.key.kind,.int .i64 f.key.src,.int .i64 f.key.frm,.int .i64 f.key.dst,.int .i64 f.key.too,.int .i64 f.st,.int .i64 f.unt,.int .i64 f.stp,.int .i64 f.h0,.int .i64 f.h1,.int .i64 f.w0,.int .i64 f.w1,.bool f.d0,.bool f.d1,.int .i64 f.num] 45)=X9:=⟨_,rfl⟩
 obtain ⟨Y,hY⟩:∃ X9,W4.heap.size=X9:=⟨_,rfl⟩
 rw [hW5] at h4 p4 ⊢
 rw [hY] at p4 hly ⊢
 clear hW5 hY hc b4 h1 k0 k1 k2 k3 k4 s0 s1 s2 s3 s4 s5 s6
 have hlt:=later_any b t va now W5 h4.tb HZ.out hlen
 go_upto_region 8 with (go_at_call 27;go_must (refine hlt.mono ?_;rintro e W6 ⟨⟨X,v6,rfl,hx6,hlx,hvx⟩,b6⟩))
 have h6:=h4.step b6
 have p6:=p4.below p4.lt b6
 clear hlt b6 h4 p4
 obtain ⟨t',ht'⟩:∃ t',({ max:=t.max,now:=now,fs:=leftL now t.fs }:Tb)=t':=⟨_,rfl⟩
 rw [ht'] at hx6
 have HT':=hidE ht'
 clear ht'
 have hl6:t'.fs.length≤1000:=by
  rw [← HT'.out]
  exact Nat.le_trans (List.length_filter_le _ _) hlen
 have hat:=lat_any X t' v6 k W6 hx6 hl6
 unfold keyV at hat
 obtain ⟨k0,k1,k2,k3,k4⟩:=h6.ky.cells
 have HHB:Hid (hasK t'.fs k=false):=by rw [← HT'.out];exact HHS.out
 go_upto_if 40 with (go_at_call 28;go_must (refine hat.mono ?_;rintro e W7 ⟨⟨r,rfl,hr⟩,b7⟩))
 have h7:=h6.step b7
 have p7:=p6.below p6.lt b7
 have hx7:=hx6.below b7
 have HR:=hidE hr
 clear hat b7 h6 p6 hx6 k0 k1 k2 k3 k4 hr
 have hr1:r = -1:=by
  rcases HR.out with ⟨_,hr⟩|⟨i,_,_,hh,_⟩
  ·exact hr
  ·rw [HHB.out] at hh;cases hh
 subst hr1
 clear HR
 go_upto_region 10 with fail
 obtain ⟨ax,cx,hvx6⟩:=OwnN.len hx7.own
 obtain ⟨LL,hLL⟩:∃ LL,t'.fs.length=LL:=⟨_,rfl⟩
 rw [hLL] at hvx6
 subst hvx6
 have HLL:Hid ((leftL now t.fs).length=LL):=by show _=_;rw [← hLL,← HT'.out]
 have c0:=Ext.cell ((l_cells h7.tb.tab).1)
 have c2:=Ext.cell ((l_cells hx7.tab).2.2)
 have i5:(LL:Int) ≥ t.max:=by have:=HFU.out;rw [HLL.out] at this;exact this
 refine wp_region_ext (by kernel_rfl) (by kernel_rfl) ?_
 repeat (go_big_quiet_step (fail))
 refine wpQuiet_nil ?_
 rintro _ ⟨u,rfl⟩
 have h8:=h7.step u.h
 have p8:=p7.below p7.lt u.h
 obtain ⟨W8,hW8⟩:∃ W8,u.W=W8:=⟨_,rfl⟩
 rw [hW8] at h8 p8 ⊢
 clear hW8 c0 c2 h7 p7 hx7 hLL
 clear p8
 obtain ⟨y0,y1,y2,y3,y4,y5,y6,y7,y8,y9,y10,y11,y12,y13,y14⟩:=h8.rs.frees
 obtain ⟨d0,d1,d2,d3,d4,d5,d6,d7,d8,d9,d10,d11,d12,d13,d14⟩:=zero_cells h8.rs
 obtain ⟨W9,hW9,g9,o9⟩:=fl_wipe h8.rs
 have HW9:=hidE hW9
 have HG9:=hidE g9
 have HB9:=hidE (o9.below (by omega) h8.bel)
 clear hW9 g9 o9
 go_wp2_with fail
 rw [HW9.out]
 clear y0 y1 y2 y3 y4 y5 y6 y7 y8 y9 y10 y11 y12 y13 y14 d0 d1 d2 d3 d4 d5 d6 d7 d8 d9 d10 d11 d12 d13 d14
 obtain ⟨c0,c1,c2,c3,c4,c5,c6,c7,c8,c9,c10,c11,c12,c13,c14⟩:=zero_cells HG9.out
 exact bodyPost_ret (v:=.tuple #[.agg #[.int .i64 0,.int .i64 0,.int .i64 0,.int .i64 0,.int .i64 0,.int .i64 0,.int .i64 0,.int .i64 0,.int .i64 0,.int .i64 0,.int .i64 0,.int .i64 0,.bool false,.bool false,.int .i64 0],.int .i64 4]) (by simp [results,Tryz.results7,go_sem,c0,c1,c2,c3,c4,c5,c6,c7,c8,c9,c10,c11,c12,c13,c14]) rfl ⟨rfl,HB9.out⟩
end Go.Proofs.YtkhheooofcpfdaaGreatDoor
namespace Go.Proofs.YtkhheooofcpfdaaGreatDoor
open Go.RowKit Go.Maps
set_option linter.unusedVariables false
set_option maxRecDepth 100000 in
set_option maxHeartbeats 32000000 in
theorem lb_ok (b:Nat) (t:Tb) (va:Value) (k:Ky) (s:Sg) (a:Option Addr) (l c:Nat) (rule now:Int) (w:World) (h:LIn w b t va) (hlen:t.fs.length≤1000) (hvb:va.ownBlock≠some b) (hb:Bytes w (.slice a l c) s.body) (hz:timE t now=0) (hbe:begE k s rule now=0) (hhs:hasK (leftL now t.fs) k=false) (hfu:¬ t.max≤((leftL now t.fs).length:Int)) :
  Calls Tryz.prog 7 #[.pointer (some ⟨b,0,none⟩),keyV k,segV s (.slice a l c),.int .i64 rule,.int .i64 now] w fun e w'=>e = .returned (.tuple #[flV (begG k s rule now),.int .i64 0])∧(∃ v',LIn w' b { max:=t.max,now:=now,fs:=insL (begG k s rule now) (leftL now t.fs) } v'∧v'.ownBlock≠some b)∧w.grownBy w' (some b):=by
 obtain ⟨Q,hQ⟩:∃ Q:Ending→World→Prop,Q=fun e w'=>e = .returned (.tuple #[flV (begG k s rule now),.int .i64 0])∧(∃ v',LIn w' b { max:=t.max,now:=now,fs:=insL (begG k s rule now) (leftL now t.fs) } v'∧v'.ownBlock≠some b)∧w.grownBy w' (some b):=⟨_,rfl⟩
 have HQ:=hidE hQ
 rw [← hQ]
 clear hQ
 have HVB:=hidE hvb
 have h1:=LgS.start w b t va k s (.slice a l c) h
 obtain ⟨W1,hW1⟩:∃ W1,((w.alloc (.cells #[.int .i64 k.kind,.int .i64 k.src,.int .i64 k.frm,.int .i64 k.dst,.int .i64 k.too] 37)).alloc (.cells #[.int .i64 s.frm,.int .i64 s.too,.int .i64 s.seq,.int .i64 s.ack,.int .i64 s.win,.int .i64 s.flg,.slice a l c] 41)).alloc (.cells #[.int .i64 0,.int .i64 0,.int .i64 0,.int .i64 0,.int .i64 0,.int .i64 0,.int .i64 0,.int .i64 0,.int .i64 0,.int .i64 0,.int .i64 0,.int .i64 0,.bool false,.bool false,.int .i64 0] 45)=W1:=⟨_,rfl⟩
 rw [hW1] at h1
 have HB:=hidE (fun W (hB:Below w.heap.size w W)=>hb.below (Nat.le_refl _) hB)
 have hc:=ltime_any b t va now W1 h1.tb
 rw [hz] at hc
 have HFU:=hidE hfu
 clear hfu
 have HHS:=hidE hhs
 clear hhs
 have HZ:=hidE hz
 have c2:=hidE (fun W hB=>refBegin_any k s (.slice a l c) rule now W (HB.out W hB))
 obtain ⟨f,hf⟩:∃ f,begF k s rule now=f:=⟨_,rfl⟩
 rw [hbe] at c2
 have HBE:=hidE hbe
 clear hbe
 rw [hf] at c2
 unfold keyV segV flV at c2
 have HF:=hidE hf
 clear hf
 clear hb hz
 unfold keyV segV
 go_enter Tryz.func7,Tryz.ntmps7
 go_upto_region 1 with fail
 try rw [hW1]
 clear hW1
 go_upto_region 4 with (go_at_call 25;go_must (refine hc.mono ?_;rintro e W2 ⟨rfl,hw⟩;rw [hw];clear hw W2))
 clear hc
 obtain ⟨k0,k1,k2,k3,k4⟩:=h1.ky.cells
 obtain ⟨s0,s1,s2,s3,s4,s5,s6⟩:=h1.sg.cells
 have hc:=c2.out W1 h1.bel
 go_upto_region 7 with (go_at_call 26;go_must (refine hc.mono ?_;rintro e W4 ⟨rfl,b4⟩))
 have h4:=(h1.step b4).alloc (.cells #[.int .i64 f.key.kind,.int .i64 f.key.src,.int .i64 f.key.frm,.int .i64 f.key.dst,.int .i64 f.key.too,.int .i64 f.st,.int .i64 f.unt,.int .i64 f.stp,.int .i64 f.h0,.int .i64 f.h1,.int .i64 f.w0,.int .i64 f.w1,.bool f.d0,.bool f.d1,.int .i64 f.num] 45)
 have p4:=FlAt.new W4 f
 have hly:w.heap.size+2 < W4.heap.size:=(h1.step b4).rs.lt
 obtain ⟨W5,hW5⟩:∃ X9,W4.alloc (.cells #[.int .i64 f.key.kind,.int .i64 f.key.src,.int .i64 f.key.frm,.int .i64 f.key.dst,.int .i64 f.key.too,.int .i64 f.st,.int .i64 f.unt,.int .i64 f.stp,.int .i64 f.h0,.int .i64 f.h1,.int .i64 f.w0,.int .i64 f.w1,.bool f.d0,.bool f.d1,.int .i64 f.num] 45)=X9:=⟨_,rfl⟩
 obtain ⟨Y,hY⟩:∃ X9,W4.heap.size=X9:=⟨_,rfl⟩
 rw [hW5] at h4 p4 ⊢
 rw [hY] at p4 hly ⊢
 clear hW5 hY hc b4 h1 k0 k1 k2 k3 k4 s0 s1 s2 s3 s4 s5 s6
 have hlt:=later_any b t va now W5 h4.tb HZ.out hlen
 go_upto_region 8 with (go_at_call 27;go_must (refine hlt.mono ?_;rintro e W6 ⟨⟨X,v6,rfl,hx6,hlx,hvx⟩,b6⟩))
 have h6:=h4.step b6
 have p6:=p4.below p4.lt b6
 clear hlt b6 h4 p4
 obtain ⟨t',ht'⟩:∃ t',({ max:=t.max,now:=now,fs:=leftL now t.fs }:Tb)=t':=⟨_,rfl⟩
 rw [ht'] at hx6
 have HT':=hidE ht'
 clear ht'
 have hl6:t'.fs.length≤1000:=by
  rw [← HT'.out]
  exact Nat.le_trans (List.length_filter_le _ _) hlen
 have hat:=lat_any X t' v6 k W6 hx6 hl6
 unfold keyV at hat
 obtain ⟨k0,k1,k2,k3,k4⟩:=h6.ky.cells
 have HHB:Hid (hasK t'.fs k=false):=by rw [← HT'.out];exact HHS.out
 go_upto_if 40 with (go_at_call 28;go_must (refine hat.mono ?_;rintro e W7 ⟨⟨r,rfl,hr⟩,b7⟩))
 have h7:=h6.step b7
 have p7:=p6.below p6.lt b7
 have hx7:=hx6.below b7
 have HR:=hidE hr
 clear hat b7 h6 p6 hx6 k0 k1 k2 k3 k4 hr
 have hr1:r = -1:=by
  rcases HR.out with ⟨_,hr⟩|⟨i,_,_,hh,_⟩
  ·exact hr
  ·rw [HHB.out] at hh;cases hh
 subst hr1
 clear HR
 go_upto_region 10 with fail
 obtain ⟨ax,cx,hvx6⟩:=OwnN.len hx7.own
 obtain ⟨LL,hLL⟩:∃ LL,t'.fs.length=LL:=⟨_,rfl⟩
 rw [hLL] at hvx6
 subst hvx6
 have HLL:Hid ((leftL now t.fs).length=LL):=by show _=_;rw [← hLL,← HT'.out]
 have c0:=Ext.cell ((l_cells h7.tb.tab).1)
 have c2:=Ext.cell ((l_cells hx7.tab).2.2)
 have i5:¬ (LL:Int) ≥ t.max:=by have:=HFU.out;rw [HLL.out] at this;omega
 refine wp_region_ext (by kernel_rfl) (by kernel_rfl) ?_
 repeat (go_big_quiet_step (fail))
 refine wpQuiet_nil ?_
 rintro _ ⟨u,rfl⟩
 have h8:=h7.step u.h
 have p8:=p7.below p7.lt u.h
 obtain ⟨W8,hW8⟩:∃ W8,u.W=W8:=⟨_,rfl⟩
 rw [hW8] at h8 p8 ⊢
 clear hW8 c0 c2 h7 p7 hx7 hLL
 have htk:=ltick_ok b t va now W8 h8.tb HZ.out hlen HVB.out
 go_upto_region 13 with (go_at_call 16;go_must (refine htk.mono ?_;rintro e W9 ⟨⟨vk,ks,rfl,ok9,ek9⟩,⟨v9,t9,n9⟩,g9⟩))
 have hbs:=h8.lb
 have bel8:=h8.bel
 have p9:FlAt W9 Y f:=by
  show W9.heap[Y]? = _
  rw [g9.block Y p8.lt (by simp;omega)];exact p8
 have r9:FlAt W9 (w.heap.size+2) zeroF:=by
  show W9.heap[w.heap.size+2]? = _
  rw [g9.block _ h8.rs.lt (by simp;omega)];exact h8.rs
 rw [HT'.out] at t9
 have BW9:Hid (w.grownBy W9 (some b)):=⟨g9.os.trans bel8.os,g9.tape.trans bel8.tape,g9.output.trans bel8.output,Nat.le_trans bel8.size g9.size,fun i hi hne=>(g9.block i (Nat.lt_of_lt_of_le hi bel8.size) hne).trans (bel8.block i hi)⟩
 have hly9:=p9.lt
 clear htk h8 p8 g9 n9 ok9 ek9 bel8
 have hp:=lput_any b t' v9 f W9 t9 hl6
 unfold flV at hp
 obtain ⟨e0,e1,e2,e3,e4,e5,e6,e7,e8,e9,e10,e11,e12,e13,e14⟩:=p9.cells
 go_upto_region 14 with (go_at_call 29;go_must (refine hp.mono ?_;rintro e W10 ⟨rfl,⟨v10,t10,n10⟩,g10⟩))
 have p10:FlAt W10 Y f:=by
  show W10.heap[Y]? = _
  rw [g10.block Y p9.lt (by simp;omega)];exact p9
 have r10:FlAt W10 (w.heap.size+2) zeroF:=by
  show W10.heap[w.heap.size+2]? = _
  rw [g10.block _ r9.lt (by simp;omega)];exact r9
 have BW10:Hid (w.grownBy W10 (some b)):=⟨g10.os.trans BW9.out.os,g10.tape.trans BW9.out.tape,g10.output.trans BW9.out.output,Nat.le_trans BW9.out.size g10.size,fun i hi hne=>(g10.block i (Nat.lt_of_lt_of_le hi BW9.out.size) hne).trans (BW9.out.block i hi hne)⟩
 have HN10:=hidE n10
 have HT10:=hidE t10
 have hs9:=r9.lt
 clear hp g10 n10 t10 p9 r9 BW9 t9 e0 e1 e2 e3 e4 e5 e6 e7 e8 e9 e10 e11 e12 e13 e14
 obtain ⟨e0,e1,e2,e3,e4,e5,e6,e7,e8,e9,e10,e11,e12,e13,e14⟩:=p10.cells
 obtain ⟨y0,y1,y2,y3,y4,y5,y6,y7,y8,y9,y10,y11,y12,y13,y14⟩:=r10.frees
 obtain ⟨d0,d1,d2,d3,d4,d5,d6,d7,d8,d9,d10,d11,d12,d13,d14⟩:=zero_cells r10
 obtain ⟨W11,hW11,g11,o11⟩:=r10.store f
 have HFIN:Hid (Q (.returned (.tuple #[.agg #[.int .i64 f.key.kind,.int .i64 f.key.src,.int .i64 f.key.frm,.int .i64 f.key.dst,.int .i64 f.key.too,.int .i64 f.st,.int .i64 f.unt,.int .i64 f.stp,.int .i64 f.h0,.int .i64 f.h1,.int .i64 f.w0,.int .i64 f.w1,.bool f.d0,.bool f.d1,.int .i64 f.num],.int .i64 0])) W11):=by
  have hfe:begG k s rule now=f:=by rw [← HF.out];unfold begF;rw [if_pos HBE.out]
  show Q _ _
  rw [HQ.out,hfe]
  have gw:=BW10.out
  refine ⟨rfl,⟨v10,?_,fun hc=>?_⟩,⟨o11.os.trans gw.os,o11.tape.trans gw.tape,o11.output.trans gw.output,by rw [o11.size];exact gw.size,fun i hi hne=>(o11.block i (by omega)).trans (gw.block i hi hne)⟩⟩
  ·have:=HT10.out
   rw [← HT'.out] at this
   exact this.blk (o11.block b (by omega)) (fun j hj=>o11.block j (by have:=HN10.out j hj;omega))
  ·have:=HN10.out b hc
   omega
 have HW11:=hidE hW11
 have HG11:=hidE g11
 clear hW11 g11 o11 p10 r10
 go_wp2_with fail
 rw [HW11.out]
 clear y0 y1 y2 y3 y4 y5 y6 y7 y8 y9 y10 y11 y12 y13 y14 d0 d1 d2 d3 d4 d5 d6 d7 d8 d9 d10 d11 d12 d13 d14 e0 e1 e2 e3 e4 e5 e6 e7 e8 e9 e10 e11 e12 e13 e14
 obtain ⟨c0,c1,c2,c3,c4,c5,c6,c7,c8,c9,c10,c11,c12,c13,c14⟩:=HG11.out.cells
 exact bodyPost_ret (v:=.tuple #[.agg #[.int .i64 f.key.kind,.int .i64 f.key.src,.int .i64 f.key.frm,.int .i64 f.key.dst,.int .i64 f.key.too,.int .i64 f.st,.int .i64 f.unt,.int .i64 f.stp,.int .i64 f.h0,.int .i64 f.h1,.int .i64 f.w0,.int .i64 f.w1,.bool f.d0,.bool f.d1,.int .i64 f.num],.int .i64 0]) (by simp [results,Tryz.results7,go_sem,c0,c1,c2,c3,c4,c5,c6,c7,c8,c9,c10,c11,c12,c13,c14]) rfl HFIN.out
end Go.Proofs.YtkhheooofcpfdaaGreatDoor
namespace Go.Proofs.YtkhheooofcpfdaaGreatDoor
open Go.RowKit Go.Maps
set_option linter.unusedVariables false
def lbS (t:Tb) (k:Ky) (s:Sg) (rule now:Int):Tb :=
 if tbE t k s rule now=0 then { max:=t.max,now:=now,fs:=insL (begG k s rule now) (leftL now t.fs) } else t
theorem lin_no {w w':World} {b:Nat} {t:Tb} {va:Value} (h:LIn w b t va) (hvb:va.ownBlock≠some b) (hb:Below w.heap.size w w'):(∃ v',LIn w' b t v'∧v'.ownBlock≠some b)∧w.grownBy w' (some b):=⟨⟨va,h.below hb,hvb⟩,(grown_of_below hb).but _⟩
theorem lbegin_any (b:Nat) (t:Tb) (va:Value) (k:Ky) (s:Sg) (bv:Value) (rule now:Int) (w:World) (h:LIn w b t va) (hlen:t.fs.length≤1000) (hvb:va.ownBlock≠some b) (hb:Bytes w bv s.body) :
  Calls Tryz.prog 7 #[.pointer (some ⟨b,0,none⟩),keyV k,segV s bv,.int .i64 rule,.int .i64 now] w fun e w'=>e = .returned (.tuple #[flV (tbF t k s rule now),.int .i64 (tbE t k s rule now)])∧(∃ v',LIn w' b (lbS t k s rule now) v'∧v'.ownBlock≠some b)∧w.grownBy w' (some b):=by
 obtain ⟨a,c,rfl⟩:=len_body hb
 have no:∀ z:Int,¬ z=0→tbE t k s rule now=z→Calls Tryz.prog 7 #[.pointer (some ⟨b,0,none⟩),keyV k,segV s (.slice a s.body.length c),.int .i64 rule,.int .i64 now] w (fun e w'=>e = .returned (.tuple #[flV zeroF,.int .i64 z])∧Below w.heap.size w w')→Calls Tryz.prog 7 #[.pointer (some ⟨b,0,none⟩),keyV k,segV s (.slice a s.body.length c),.int .i64 rule,.int .i64 now] w (fun e w'=>e = .returned (.tuple #[flV (tbF t k s rule now),.int .i64 (tbE t k s rule now)])∧(∃ v',LIn w' b (lbS t k s rule now) v'∧v'.ownBlock≠some b)∧w.grownBy w' (some b)):=by
  intro z h0 he hc
  have e0:¬ tbE t k s rule now=0:=by rw [he];exact h0
  refine hc.mono fun e w' ⟨h1,h2⟩=>?_
  refine ⟨?_,?_⟩
  ·rw [h1,he];unfold tbF;rw [if_neg e0]
  ·unfold lbS;rw [if_neg e0];exact lin_no h hvb h2
 by_cases hz:timE t now=0
 case neg =>
  exact no _ hz (by unfold tbE;rw [if_pos hz]) (lb_time b t va k s a _ c rule now w h hlen hvb hb _ rfl hz)
 by_cases hbe:begE k s rule now=0
 case neg =>
  exact no _ hbe (by unfold tbE;rw [if_neg (fun x=>x hz),if_pos hbe]) (lb_beg b t va k s a _ c rule now w h hlen hvb hb _ hz rfl hbe)
 cases hhs:hasK (leftL now t.fs) k
 case true =>
  exact no 7 (by decide) (by unfold tbE;rw [if_neg (fun x=>x hz),if_neg (fun x=>x hbe),if_pos hhs]) (lb_clash b t va k s a _ c rule now w h hlen hvb hb hz hbe hhs)
 by_cases hfu:t.max≤((leftL now t.fs).length:Int)
 case pos =>
  exact no 4 (by decide) (by unfold tbE;rw [if_neg (fun x=>x hz),if_neg (fun x=>x hbe),if_neg (by rw [hhs];decide),if_pos hfu]) (lb_full b t va k s a _ c rule now w h hlen hvb hb hz hbe hhs hfu)
 have e0:tbE t k s rule now=0:=by unfold tbE;rw [if_neg (fun x=>x hz),if_neg (fun x=>x hbe),if_neg (by rw [hhs];decide),if_neg hfu]
 refine (lb_ok b t va k s a _ c rule now w h hlen hvb hb hz hbe hhs hfu).mono fun e w' ⟨h1,h2⟩=>?_
 refine ⟨?_,?_⟩
 ·rw [h1,e0];unfold tbF;rw [if_pos e0]
 ·unfold lbS;rw [if_pos e0];exact h2
end Go.Proofs.YtkhheooofcpfdaaGreatDoor
