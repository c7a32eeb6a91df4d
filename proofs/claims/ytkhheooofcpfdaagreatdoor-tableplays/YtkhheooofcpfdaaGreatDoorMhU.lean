/- What Begin of package table returns, and what it leaves where the segment is refused. -/
import Derived.Test.YtkhheooofcpfdaaGreatDoorMgR
namespace Go.Proofs.YtkhheooofcpfdaaGreatDoor
open Go.RowKit Go.Maps
set_option linter.unusedVariables false
set_option maxRecDepth 100000 in
set_option maxHeartbeats 32000000 in
theorem bg_beg (b m:Nat) (t:Tb) (k:Ky) (s:Sg) (a:Option Addr) (l c:Nat) (rule now:Int) (w:World) (h:TbAt w b m t) (ok:TbOk t) (hk:KyOk k) (hb:Bytes w (.slice a l c) s.body) (hL:Lives w) (z:Int) (hz:timE t now=0) (hbe:begE k s rule now=z) (h0:¬ z=0) :
  Calls Tryz.prog 8 #[.pointer (some ⟨b,0,none⟩),keyV k,segV s (.slice a l c),.int .i64 rule,.int .i64 now] w fun e w'=>e = .returned (.tuple #[flV zeroF,.iface 71 (.int .i64 z)])∧Below w.heap.size w w':=by
 rw [show flV zeroF = .agg #[.int .i64 0,.int .i64 0,.int .i64 0,.int .i64 0,.int .i64 0,.int .i64 0,.int .i64 0,.int .i64 0,.int .i64 0,.int .i64 0,.int .i64 0,.int .i64 0,.bool false,.bool false,.int .i64 0] from rfl]
 have h1:=BgS.start w b m t k s (.slice a l c) h
 obtain ⟨W1,hW1⟩:∃ W1,((w.alloc (.cells #[.int .i64 k.kind,.int .i64 k.src,.int .i64 k.frm,.int .i64 k.dst,.int .i64 k.too] 37)).alloc (.cells #[.int .i64 s.frm,.int .i64 s.too,.int .i64 s.seq,.int .i64 s.ack,.int .i64 s.win,.int .i64 s.flg,.slice a l c] 41)).alloc (.cells #[.int .i64 0,.int .i64 0,.int .i64 0,.int .i64 0,.int .i64 0,.int .i64 0,.int .i64 0,.int .i64 0,.int .i64 0,.int .i64 0,.int .i64 0,.int .i64 0,.bool false,.bool false,.int .i64 0] 45)=W1:=⟨_,rfl⟩
 rw [hW1] at h1
 have HT:=hidE h
 have HL:=hidE (fun W (hb:Below w.heap.size w W)=>hL.below hb)
 have HB:=hidE (fun W (hB:Below w.heap.size w W)=>hb.below (Nat.le_refl _) hB)
 have hc:=at_ok b m t now W1 h1.tb hz ok.ap (by have:=ok.le;have:=ok.mx;omega)
 have c2:=hidE (fun W hB=>begin_any k s (.slice a l c) rule now W (HB.out W hB) (HL.out W hB))
 obtain ⟨f,hf⟩:∃ f,begF k s rule now=f:=⟨_,rfl⟩
 rw [hbe,errV_no h0] at c2
 clear hbe h0
 rw [hf] at c2
 unfold keyV segV flV at c2
 have HF:=hidE hf
 clear hz hf
 clear hL hb
 unfold keyV segV
 go_enter Tryz.func8,Tryz.ntmps8
 go_upto_region 1 with fail
 try rw [hW1]
 clear hW1
 go_upto_region 4 with (go_at_call 30;go_must (refine hc.mono ?_;rintro e W2 ⟨m',v,ks,rfl,hm2,hlm,hown2,hpm2,b2⟩))
 have h2:=BgT.of (h1.step b2) hm2 (Nat.le_trans h1.bel.size hlm)
 obtain ⟨W3,hW3⟩:∃ W3,W2.alloc (.cells #[.int .i64 t.max,.int .i64 now,.map (some m')] 76)=W3:=⟨_,rfl⟩
 obtain ⟨X,hX⟩:∃ X,W2.heap.size=X:=⟨_,rfl⟩
 rw [hW3] at h2 ⊢
 rw [hX] at h2 ⊢
 clear hW3 hX h1 b2 hc hm2 hlm hown2 hpm2
 obtain ⟨t',ht'⟩:∃ t',({ max:=t.max,now:=now,fs:=leftL now t.fs }:Tb)=t':=⟨_,rfl⟩
 rw [ht'] at h2
 have HT':=hidE ht'
 clear ht'
 obtain ⟨k0,k1,k2,k3,k4⟩:=h2.st.ky.cells
 obtain ⟨s0,s1,s2,s3,s4,s5,s6⟩:=h2.st.sg.cells
 have hc:=c2.out W3 h2.st.bel
 go_upto_region 6 with (go_at_call 31;go_must (refine hc.mono ?_;rintro e W4 ⟨rfl,b4⟩))
 have h4:=(h2.step b4).alloc (.cells #[.int .i64 f.key.kind,.int .i64 f.key.src,.int .i64 f.key.frm,.int .i64 f.key.dst,.int .i64 f.key.too,.int .i64 f.st,.int .i64 f.unt,.int .i64 f.stp,.int .i64 f.h0,.int .i64 f.h1,.int .i64 f.w0,.int .i64 f.w1,.bool f.d0,.bool f.d1,.int .i64 f.num] 45)
 have p4:=FlAt.new W4 f
 obtain ⟨W5,hW5⟩:∃ X9,W4.alloc (.cells #[.int .i64 f.key.kind,.int .i64 f.key.src,.int .i64 f.key.frm,.int .i64 f.key.dst,.int .i64 f.key.too,.int .i64 f.st,.int .i64 f.unt,.int .i64 f.stp,.int .i64 f.h0,.int .i64 f.h1,.int .i64 f.w0,.int .i64 f.w1,.bool f.d0,.bool f.d1,.int .i64 f.num] 45)=X9:=⟨_,rfl⟩
 obtain ⟨Y,hY⟩:∃ X9,W4.heap.size=X9:=⟨_,rfl⟩
 rw [hW5] at h4 p4 ⊢
 rw [hY] at p4 ⊢
 clear hW5 hY hc b4 h2 k0 k1 k2 k3 k4 s0 s1 s2 s3 s4 s5 s6
 obtain ⟨y0,y1,y2,y3,y4,y5,y6,y7,y8,y9,y10,y11,y12,y13,y14⟩:=h4.st.rs.frees
 obtain ⟨d0,d1,d2,d3,d4,d5,d6,d7,d8,d9,d10,d11,d12,d13,d14⟩:=zero_cells h4.st.rs
 obtain ⟨W9,hW9,g9,b9⟩:=h4.st.wipe
 have HW9:=hidE hW9
 have HG9:=hidE g9
 have HB9:=hidE b9
 clear hW9 g9 b9
 go_wp2_with fail
 rw [HW9.out]
 clear y0 y1 y2 y3 y4 y5 y6 y7 y8 y9 y10 y11 y12 y13 y14 d0 d1 d2 d3 d4 d5 d6 d7 d8 d9 d10 d11 d12 d13 d14
 obtain ⟨c0,c1,c2,c3,c4,c5,c6,c7,c8,c9,c10,c11,c12,c13,c14⟩:=zero_cells HG9.out
 exact bodyPost_ret (v:=.tuple #[.agg #[.int .i64 0,.int .i64 0,.int .i64 0,.int .i64 0,.int .i64 0,.int .i64 0,.int .i64 0,.int .i64 0,.int .i64 0,.int .i64 0,.int .i64 0,.int .i64 0,.bool false,.bool false,.int .i64 0],.iface 71 (.int .i64 z)]) (by simp [results,Tryz.results8,go_sem,c0,c1,c2,c3,c4,c5,c6,c7,c8,c9,c10,c11,c12,c13,c14]) rfl ⟨rfl,HB9.out⟩
end Go.Proofs.YtkhheooofcpfdaaGreatDoor
namespace Go.Proofs.YtkhheooofcpfdaaGreatDoor
open Go.RowKit Go.Maps
set_option linter.unusedVariables false
set_option maxRecDepth 100000 in
set_option maxHeartbeats 32000000 in
theorem bg_clash (b m:Nat) (t:Tb) (k:Ky) (s:Sg) (a:Option Addr) (l c:Nat) (rule now:Int) (w:World) (h:TbAt w b m t) (ok:TbOk t) (hk:KyOk k) (hb:Bytes w (.slice a l c) s.body) (hL:Lives w) (hz:timE t now=0) (hbe:begE k s rule now=0) (hhs:hasK (leftL now t.fs) k=true) :
  Calls Tryz.prog 8 #[.pointer (some ⟨b,0,none⟩),keyV k,segV s (.slice a l c),.int .i64 rule,.int .i64 now] w fun e w'=>e = .returned (.tuple #[flV zeroF,.iface 71 (.int .i64 7)])∧Below w.heap.size w w':=by
 rw [show flV zeroF = .agg #[.int .i64 0,.int .i64 0,.int .i64 0,.int .i64 0,.int .i64 0,.int .i64 0,.int .i64 0,.int .i64 0,.int .i64 0,.int .i64 0,.int .i64 0,.int .i64 0,.bool false,.bool false,.int .i64 0] from rfl]
 have h1:=BgS.start w b m t k s (.slice a l c) h
 obtain ⟨W1,hW1⟩:∃ W1,((w.alloc (.cells #[.int .i64 k.kind,.int .i64 k.src,.int .i64 k.frm,.int .i64 k.dst,.int .i64 k.too] 37)).alloc (.cells #[.int .i64 s.frm,.int .i64 s.too,.int .i64 s.seq,.int .i64 s.ack,.int .i64 s.win,.int .i64 s.flg,.slice a l c] 41)).alloc (.cells #[.int .i64 0,.int .i64 0,.int .i64 0,.int .i64 0,.int .i64 0,.int .i64 0,.int .i64 0,.int .i64 0,.int .i64 0,.int .i64 0,.int .i64 0,.int .i64 0,.bool false,.bool false,.int .i64 0] 45)=W1:=⟨_,rfl⟩
 rw [hW1] at h1
 have HT:=hidE h
 have HL:=hidE (fun W (hb:Below w.heap.size w W)=>hL.below hb)
 have HB:=hidE (fun W (hB:Below w.heap.size w W)=>hb.below (Nat.le_refl _) hB)
 have HHS:=hidE hhs
 clear hhs
 have hc:=at_ok b m t now W1 h1.tb hz ok.ap (by have:=ok.le;have:=ok.mx;omega)
 have c2:=hidE (fun W hB=>begin_any k s (.slice a l c) rule now W (HB.out W hB) (HL.out W hB))
 obtain ⟨f,hf⟩:∃ f,begF k s rule now=f:=⟨_,rfl⟩
 rw [hbe,errV_ok] at c2
 clear hbe
 rw [hf] at c2
 unfold keyV segV flV at c2
 have HF:=hidE hf
 clear hz hf
 clear hL hb
 unfold keyV segV
 go_enter Tryz.func8,Tryz.ntmps8
 go_upto_region 1 with fail
 try rw [hW1]
 clear hW1
 go_upto_region 4 with (go_at_call 30;go_must (refine hc.mono ?_;rintro e W2 ⟨m',v,ks,rfl,hm2,hlm,hown2,hpm2,b2⟩))
 have h2:=BgT.of (h1.step b2) hm2 (Nat.le_trans h1.bel.size hlm)
 obtain ⟨W3,hW3⟩:∃ W3,W2.alloc (.cells #[.int .i64 t.max,.int .i64 now,.map (some m')] 76)=W3:=⟨_,rfl⟩
 obtain ⟨X,hX⟩:∃ X,W2.heap.size=X:=⟨_,rfl⟩
 rw [hW3] at h2 ⊢
 rw [hX] at h2 ⊢
 clear hW3 hX h1 b2 hc hm2 hlm hown2 hpm2
 obtain ⟨t',ht'⟩:∃ t',({ max:=t.max,now:=now,fs:=leftL now t.fs }:Tb)=t':=⟨_,rfl⟩
 rw [ht'] at h2
 have HT':=hidE ht'
 clear ht'
 obtain ⟨k0,k1,k2,k3,k4⟩:=h2.st.ky.cells
 obtain ⟨s0,s1,s2,s3,s4,s5,s6⟩:=h2.st.sg.cells
 have hc:=c2.out W3 h2.st.bel
 go_upto_region 7 with (go_at_call 31;go_must (refine hc.mono ?_;rintro e W4 ⟨rfl,b4⟩))
 have h4:=(h2.step b4).alloc (.cells #[.int .i64 f.key.kind,.int .i64 f.key.src,.int .i64 f.key.frm,.int .i64 f.key.dst,.int .i64 f.key.too,.int .i64 f.st,.int .i64 f.unt,.int .i64 f.stp,.int .i64 f.h0,.int .i64 f.h1,.int .i64 f.w0,.int .i64 f.w1,.bool f.d0,.bool f.d1,.int .i64 f.num] 45)
 have p4:=FlAt.new W4 f
 obtain ⟨W5,hW5⟩:∃ X9,W4.alloc (.cells #[.int .i64 f.key.kind,.int .i64 f.key.src,.int .i64 f.key.frm,.int .i64 f.key.dst,.int .i64 f.key.too,.int .i64 f.st,.int .i64 f.unt,.int .i64 f.stp,.int .i64 f.h0,.int .i64 f.h1,.int .i64 f.w0,.int .i64 f.w1,.bool f.d0,.bool f.d1,.int .i64 f.num] 45)=X9:=⟨_,rfl⟩
 obtain ⟨Y,hY⟩:∃ X9,W4.heap.size=X9:=⟨_,rfl⟩
 rw [hW5] at h4 p4 ⊢
 rw [hY] at p4 ⊢
 clear hW5 hY hc b4 h2 k0 k1 k2 k3 k4 s0 s1 s2 s3 s4 s5 s6
 have HHB:Hid (hasK t'.fs k=true):=by rw [← HT'.out];exact HHS.out
 have hh:=thas_any X m' t' k W5 h4.tb hk
 rw [HHB.out] at hh
 unfold keyV at hh
 obtain ⟨k0,k1,k2,k3,k4⟩:=h4.st.ky.cells
 go_upto_region 8 with (go_at_call 32;go_must (refine hh.mono ?_;rintro e W6 ⟨rfl,b6⟩))
 have h6:=h4.step b6
 have p6:=p4.below p4.lt b6
 clear hh b6 h4 p4 k0 k1 k2 k3 k4
 obtain ⟨y0,y1,y2,y3,y4,y5,y6,y7,y8,y9,y10,y11,y12,y13,y14⟩:=h6.st.rs.frees
 obtain ⟨d0,d1,d2,d3,d4,d5,d6,d7,d8,d9,d10,d11,d12,d13,d14⟩:=zero_cells h6.st.rs
 obtain ⟨W9,hW9,g9,b9⟩:=h6.st.wipe
 have HW9:=hidE hW9
 have HG9:=hidE g9
 have HB9:=hidE b9
 clear hW9 g9 b9
 go_wp2_with fail
 rw [HW9.out]
 clear y0 y1 y2 y3 y4 y5 y6 y7 y8 y9 y10 y11 y12 y13 y14 d0 d1 d2 d3 d4 d5 d6 d7 d8 d9 d10 d11 d12 d13 d14
 obtain ⟨c0,c1,c2,c3,c4,c5,c6,c7,c8,c9,c10,c11,c12,c13,c14⟩:=zero_cells HG9.out
 exact bodyPost_ret (v:=.tuple #[.agg #[.int .i64 0,.int .i64 0,.int .i64 0,.int .i64 0,.int .i64 0,.int .i64 0,.int .i64 0,.int .i64 0,.int .i64 0,.int .i64 0,.int .i64 0,.int .i64 0,.bool false,.bool false,.int .i64 0],.iface 71 (.int .i64 7)]) (by simp [results,Tryz.results8,go_sem,c0,c1,c2,c3,c4,c5,c6,c7,c8,c9,c10,c11,c12,c13,c14]) rfl ⟨rfl,HB9.out⟩
set_option maxRecDepth 100000 in
set_option maxHeartbeats 32000000 in
theorem bg_full (b m:Nat) (t:Tb) (k:Ky) (s:Sg) (a:Option Addr) (l c:Nat) (rule now:Int) (w:World) (h:TbAt w b m t) (ok:TbOk t) (hk:KyOk k) (hb:Bytes w (.slice a l c) s.body) (hL:Lives w) (hz:timE t now=0) (hbe:begE k s rule now=0) (hhs:hasK (leftL now t.fs) k=false) (hfu:t.max≤((leftL now t.fs).length:Int)) :
  Calls Tryz.prog 8 #[.pointer (some ⟨b,0,none⟩),keyV k,segV s (.slice a l c),.int .i64 rule,.int .i64 now] w fun e w'=>e = .returned (.tuple #[flV zeroF,.iface 71 (.int .i64 4)])∧Below w.heap.size w w':=by
 rw [show flV zeroF = .agg #[.int .i64 0,.int .i64 0,.int .i64 0,.int .i64 0,.int .i64 0,.int .i64 0,.int .i64 0,.int .i64 0,.int .i64 0,.int .i64 0,.int .i64 0,.int .i64 0,.bool false,.bool false,.int .i64 0] from rfl]
 have h1:=BgS.start w b m t k s (.slice a l c) h
 obtain ⟨W1,hW1⟩:∃ W1,((w.alloc (.cells #[.int .i64 k.kind,.int .i64 k.src,.int .i64 k.frm,.int .i64 k.dst,.int .i64 k.too] 37)).alloc (.cells #[.int .i64 s.frm,.int .i64 s.too,.int .i64 s.seq,.int .i64 s.ack,.int .i64 s.win,.int .i64 s.flg,.slice a l c] 41)).alloc (.cells #[.int .i64 0,.int .i64 0,.int .i64 0,.int .i64 0,.int .i64 0,.int .i64 0,.int .i64 0,.int .i64 0,.int .i64 0,.int .i64 0,.int .i64 0,.int .i64 0,.bool false,.bool false,.int .i64 0] 45)=W1:=⟨_,rfl⟩
 rw [hW1] at h1
 have HT:=hidE h
 have HL:=hidE (fun W (hb:Below w.heap.size w W)=>hL.below hb)
 have HB:=hidE (fun W (hB:Below w.heap.size w W)=>hb.below (Nat.le_refl _) hB)
 have HHS:=hidE hhs
 have HFU:=hidE hfu
 have HBE:=hidE hbe
 clear hhs hfu
 have hc:=at_ok b m t now W1 h1.tb hz ok.ap (by have:=ok.le;have:=ok.mx;omega)
 have c2:=hidE (fun W hB=>begin_any k s (.slice a l c) rule now W (HB.out W hB) (HL.out W hB))
 obtain ⟨f,hf⟩:∃ f,begF k s rule now=f:=⟨_,rfl⟩
 rw [hbe,errV_ok] at c2
 clear hbe
 rw [hf] at c2
 unfold keyV segV flV at c2
 have HF:=hidE hf
 clear hz hf
 clear hL hb
 unfold keyV segV
 go_enter Tryz.func8,Tryz.ntmps8
 go_upto_region 1 with fail
 try rw [hW1]
 clear hW1
 go_upto_region 4 with (go_at_call 30;go_must (refine hc.mono ?_;rintro e W2 ⟨m',v,ks,rfl,hm2,hlm,hown2,hpm2,b2⟩))
 have h2:=BgT.of (h1.step b2) hm2 (Nat.le_trans h1.bel.size hlm)
 obtain ⟨W3,hW3⟩:∃ W3,W2.alloc (.cells #[.int .i64 t.max,.int .i64 now,.map (some m')] 76)=W3:=⟨_,rfl⟩
 obtain ⟨X,hX⟩:∃ X,W2.heap.size=X:=⟨_,rfl⟩
 rw [hW3] at h2 ⊢
 rw [hX] at h2 ⊢
 clear hW3 hX h1 b2 hc hm2 hlm hown2 hpm2
 obtain ⟨t',ht'⟩:∃ t',({ max:=t.max,now:=now,fs:=leftL now t.fs }:Tb)=t':=⟨_,rfl⟩
 rw [ht'] at h2
 have HT':=hidE ht'
 clear ht'
 obtain ⟨k0,k1,k2,k3,k4⟩:=h2.st.ky.cells
 obtain ⟨s0,s1,s2,s3,s4,s5,s6⟩:=h2.st.sg.cells
 have hc:=c2.out W3 h2.st.bel
 go_upto_region 7 with (go_at_call 31;go_must (refine hc.mono ?_;rintro e W4 ⟨rfl,b4⟩))
 have h4:=(h2.step b4).alloc (.cells #[.int .i64 f.key.kind,.int .i64 f.key.src,.int .i64 f.key.frm,.int .i64 f.key.dst,.int .i64 f.key.too,.int .i64 f.st,.int .i64 f.unt,.int .i64 f.stp,.int .i64 f.h0,.int .i64 f.h1,.int .i64 f.w0,.int .i64 f.w1,.bool f.d0,.bool f.d1,.int .i64 f.num] 45)
 have p4:=FlAt.new W4 f
 obtain ⟨W5,hW5⟩:∃ X9,W4.alloc (.cells #[.int .i64 f.key.kind,.int .i64 f.key.src,.int .i64 f.key.frm,.int .i64 f.key.dst,.int .i64 f.key.too,.int .i64 f.st,.int .i64 f.unt,.int .i64 f.stp,.int .i64 f.h0,.int .i64 f.h1,.int .i64 f.w0,.int .i64 f.w1,.bool f.d0,.bool f.d1,.int .i64 f.num] 45)=X9:=⟨_,rfl⟩
 obtain ⟨Y,hY⟩:∃ X9,W4.heap.size=X9:=⟨_,rfl⟩
 rw [hW5] at h4 p4 ⊢
 rw [hY] at p4 ⊢
 clear hW5 hY hc b4 h2 k0 k1 k2 k3 k4 s0 s1 s2 s3 s4 s5 s6
 have HHB:Hid (hasK t'.fs k=false):=by rw [← HT'.out];exact HHS.out
 have hh:=thas_any X m' t' k W5 h4.tb hk
 rw [HHB.out] at hh
 unfold keyV at hh
 obtain ⟨k0,k1,k2,k3,k4⟩:=h4.st.ky.cells
 go_upto_region 9 with (go_at_call 32;go_must (refine hh.mono ?_;rintro e W6 ⟨rfl,b6⟩))
 have h6:=h4.step b6
 have p6:=p4.below p4.lt b6
 clear hh b6 h4 p4 k0 k1 k2 k3 k4
 have hfk:f.key=k:=by rw [← HF.out];unfold begF;rw [if_pos HBE.out];rfl
 have hp:=put_full X m' t' f W6 h6.tb (by rw [hfk];exact hk) (by rw [hfk];exact HHB.out) (by rw [← HT'.out];exact HFU.out)
 unfold flV at hp
 clear hfk
 obtain ⟨e0,e1,e2,e3,e4,e5,e6,e7,e8,e9,e10,e11,e12,e13,e14⟩:=p6.cells
 go_upto_region 11 with (go_at_call 33;go_must (refine hp.mono ?_;rintro e W7 ⟨rfl,b7⟩))
 have h7:=h6.step b7
 clear hp b7 h6 p6 e0 e1 e2 e3 e4 e5 e6 e7 e8 e9 e10 e11 e12 e13 e14
 obtain ⟨y0,y1,y2,y3,y4,y5,y6,y7,y8,y9,y10,y11,y12,y13,y14⟩:=h7.st.rs.frees
 obtain ⟨d0,d1,d2,d3,d4,d5,d6,d7,d8,d9,d10,d11,d12,d13,d14⟩:=zero_cells h7.st.rs
 obtain ⟨W9,hW9,g9,b9⟩:=h7.st.wipe
 have HW9:=hidE hW9
 have HG9:=hidE g9
 have HB9:=hidE b9
 clear hW9 g9 b9
 go_wp2_with fail
 rw [HW9.out]
 clear y0 y1 y2 y3 y4 y5 y6 y7 y8 y9 y10 y11 y12 y13 y14 d0 d1 d2 d3 d4 d5 d6 d7 d8 d9 d10 d11 d12 d13 d14
 obtain ⟨c0,c1,c2,c3,c4,c5,c6,c7,c8,c9,c10,c11,c12,c13,c14⟩:=zero_cells HG9.out
 exact bodyPost_ret (v:=.tuple #[.agg #[.int .i64 0,.int .i64 0,.int .i64 0,.int .i64 0,.int .i64 0,.int .i64 0,.int .i64 0,.int .i64 0,.int .i64 0,.int .i64 0,.int .i64 0,.int .i64 0,.bool false,.bool false,.int .i64 0],.iface 71 (.int .i64 4)]) (by simp [results,Tryz.results8,go_sem,c0,c1,c2,c3,c4,c5,c6,c7,c8,c9,c10,c11,c12,c13,c14]) rfl ⟨rfl,HB9.out⟩
end Go.Proofs.YtkhheooofcpfdaaGreatDoor
namespace Go.Proofs.YtkhheooofcpfdaaGreatDoor
open Go.RowKit Go.Maps
set_option linter.unusedVariables false
set_option maxRecDepth 100000 in
set_option maxHeartbeats 32000000 in
theorem bg_ok (b m:Nat) (t:Tb) (k:Ky) (s:Sg) (a:Option Addr) (l c:Nat) (rule now:Int) (w:World) (h:TbAt w b m t) (ok:TbOk t) (hk:KyOk k) (hb:Bytes w (.slice a l c) s.body) (hL:Lives w) (hz:timE t now=0) (hbe:begE k s rule now=0) (hhs:hasK (leftL now t.fs) k=false) (hfu:¬ t.max≤((leftL now t.fs).length:Int)) :
  Calls Tryz.prog 8 #[.pointer (some ⟨b,0,none⟩),keyV k,segV s (.slice a l c),.int .i64 rule,.int .i64 now] w fun e w'=>e = .returned (.tuple #[flV (begG k s rule now),.nilIface])∧(∃ m',w.heap.size≤m'∧TbAt w' b m' { max:=t.max,now:=now,fs:=begG k s rule now :: leftL now t.fs })∧w.grownBy w' (some b):=by
 obtain ⟨Q,hQ⟩:∃ Q:Ending→World→Prop,Q=fun e w'=>e = .returned (.tuple #[flV (begG k s rule now),.nilIface])∧(∃ m',w.heap.size≤m'∧TbAt w' b m' { max:=t.max,now:=now,fs:=begG k s rule now :: leftL now t.fs })∧w.grownBy w' (some b):=⟨_,rfl⟩
 have HQ:=hidE hQ
 rw [← hQ]
 clear hQ
 have h1:=BgS.start w b m t k s (.slice a l c) h
 obtain ⟨W1,hW1⟩:∃ W1,((w.alloc (.cells #[.int .i64 k.kind,.int .i64 k.src,.int .i64 k.frm,.int .i64 k.dst,.int .i64 k.too] 37)).alloc (.cells #[.int .i64 s.frm,.int .i64 s.too,.int .i64 s.seq,.int .i64 s.ack,.int .i64 s.win,.int .i64 s.flg,.slice a l c] 41)).alloc (.cells #[.int .i64 0,.int .i64 0,.int .i64 0,.int .i64 0,.int .i64 0,.int .i64 0,.int .i64 0,.int .i64 0,.int .i64 0,.int .i64 0,.int .i64 0,.int .i64 0,.bool false,.bool false,.int .i64 0] 45)=W1:=⟨_,rfl⟩
 rw [hW1] at h1
 have HT:=hidE h
 have HL:=hidE (fun W (hb:Below w.heap.size w W)=>hL.below hb)
 have HB:=hidE (fun W (hB:Below w.heap.size w W)=>hb.below (Nat.le_refl _) hB)
 have HHS:=hidE hhs
 have HFU:=hidE hfu
 have HBE:=hidE hbe
 have HLE:Hid ((leftL now t.fs).length≤1000):=by
  have:=ok.le;have:=ok.mx
  have:=List.length_filter_le (fun f=>!goneB now f) t.fs
  show (t.fs.filter fun f=>!goneB now f).length≤1000
  omega
 clear hhs hfu
 have hc:=at_ok b m t now W1 h1.tb hz ok.ap (by have:=ok.le;have:=ok.mx;omega)
 have c2:=hidE (fun W hB=>begin_any k s (.slice a l c) rule now W (HB.out W hB) (HL.out W hB))
 obtain ⟨f,hf⟩:∃ f,begF k s rule now=f:=⟨_,rfl⟩
 rw [hbe,errV_ok] at c2
 clear hbe
 rw [hf] at c2
 unfold keyV segV flV at c2
 have HF:=hidE hf
 clear hz hf
 clear hL hb
 unfold keyV segV
 go_enter Tryz.func8,Tryz.ntmps8
 go_upto_region 1 with fail
 try rw [hW1]
 clear hW1
 go_upto_region 4 with (go_at_call 30;go_must (refine hc.mono ?_;rintro e W2 ⟨m',v,ks,rfl,hm2,hlm,hown2,hpm2,b2⟩))
 have h2:=BgT.of (h1.step b2) hm2 (Nat.le_trans h1.bel.size hlm)
 obtain ⟨W3,hW3⟩:∃ W3,W2.alloc (.cells #[.int .i64 t.max,.int .i64 now,.map (some m')] 76)=W3:=⟨_,rfl⟩
 obtain ⟨X,hX⟩:∃ X,W2.heap.size=X:=⟨_,rfl⟩
 rw [hW3] at h2 ⊢
 rw [hX] at h2 ⊢
 clear hW3 hX h1 b2 hc hm2 hlm hown2 hpm2
 obtain ⟨t',ht'⟩:∃ t',({ max:=t.max,now:=now,fs:=leftL now t.fs }:Tb)=t':=⟨_,rfl⟩
 rw [ht'] at h2
 have HT':=hidE ht'
 clear ht'
 obtain ⟨k0,k1,k2,k3,k4⟩:=h2.st.ky.cells
 obtain ⟨s0,s1,s2,s3,s4,s5,s6⟩:=h2.st.sg.cells
 have hc:=c2.out W3 h2.st.bel
 go_upto_region 7 with (go_at_call 31;go_must (refine hc.mono ?_;rintro e W4 ⟨rfl,b4⟩))
 have h4:=(h2.step b4).alloc (.cells #[.int .i64 f.key.kind,.int .i64 f.key.src,.int .i64 f.key.frm,.int .i64 f.key.dst,.int .i64 f.key.too,.int .i64 f.st,.int .i64 f.unt,.int .i64 f.stp,.int .i64 f.h0,.int .i64 f.h1,.int .i64 f.w0,.int .i64 f.w1,.bool f.d0,.bool f.d1,.int .i64 f.num] 45)
 have p4:=FlAt.new W4 f
 obtain ⟨W5,hW5⟩:∃ X9,W4.alloc (.cells #[.int .i64 f.key.kind,.int .i64 f.key.src,.int .i64 f.key.frm,.int .i64 f.key.dst,.int .i64 f.key.too,.int .i64 f.st,.int .i64 f.unt,.int .i64 f.stp,.int .i64 f.h0,.int .i64 f.h1,.int .i64 f.w0,.int .i64 f.w1,.bool f.d0,.bool f.d1,.int .i64 f.num] 45)=X9:=⟨_,rfl⟩
 obtain ⟨Y,hY⟩:∃ X9,W4.heap.size=X9:=⟨_,rfl⟩
 rw [hW5] at h4 p4 ⊢
 rw [hY] at p4 ⊢
 clear hW5 hY hc b4 h2 k0 k1 k2 k3 k4 s0 s1 s2 s3 s4 s5 s6
 have HHB:Hid (hasK t'.fs k=false):=by rw [← HT'.out];exact HHS.out
 have hh:=thas_any X m' t' k W5 h4.tb hk
 rw [HHB.out] at hh
 unfold keyV at hh
 obtain ⟨k0,k1,k2,k3,k4⟩:=h4.st.ky.cells
 go_upto_region 9 with (go_at_call 32;go_must (refine hh.mono ?_;rintro e W6 ⟨rfl,b6⟩))
 have h6:=h4.step b6
 have p6:=p4.below p4.lt b6
 clear hh b6 h4 p4 k0 k1 k2 k3 k4
 have hfk:f.key=k:=by rw [← HF.out];unfold begF;rw [if_pos HBE.out];rfl
 have hp:=put_ok X m' t' f W6 h6.tb (by rw [hfk];exact hk) (.inr (by have:=HFU.out;rw [← HT'.out];show ¬ (t.max≤((leftL now t.fs).length:Int));omega)) (by rw [← HT'.out];exact HLE.out)
 have hpl:tputL f t'.fs=f :: t'.fs:=tputL_new (by rw [hfk];exact HHB.out)
 rw [hpl] at hp
 unfold flV at hp
 clear hfk hpl
 obtain ⟨e0,e1,e2,e3,e4,e5,e6,e7,e8,e9,e10,e11,e12,e13,e14⟩:=p6.cells
 go_upto_region 12 with (go_at_call 33;go_must (refine hp.mono ?_;rintro e W7 ⟨rfl,ht7,hg7⟩))
 have hbl:b < w.heap.size:=h6.st.lb
 have hlm:=h6.lm
 have hlx:=h6.lx
 have hwb:=h6.st.bel
 have hby:Y≠m':=fun e=>by
  have hm:=h6.tb.map
  rw [← e] at hm
  exact hm.not_cells p6
 have hbr:w.heap.size+2≠m':=fun e=>by
  have hm:=h6.tb.map
  rw [← e] at hm
  exact hm.not_cells h6.st.rs
 have o7:=(hg7.block b h6.st.tb.lt (by simp;omega)).trans h6.st.tb.tab
 have p7:FlAt W7 Y f:=by
  unfold FlAt
  rw [hg7.block Y p6.lt (by simpa using hby)];exact p6
 have r7:FlAt W7 (w.heap.size+2) zeroF:=by
  unfold FlAt
  rw [hg7.block _ h6.st.rs.lt (by simpa using hbr)];exact h6.st.rs
 have b7:=hwb.grown hg7 hwb.size (fun j hj=>by cases hj;exact hlm)
 have HTY:Hid (Y≠b):=fun e=>by
  have h1:=h6.st.tb.tab
  rw [← e] at h1
  unfold FlAt at p6
  rw [p6] at h1
  simp at h1
 clear hp hg7 h6 p6 e0 e1 e2 e3 e4 e5 e6 e7 e8 e9 e10 e11 e12 e13 e14 hby hbr hwb
 obtain ⟨x0,x1,x2⟩:=tab_cells ht7.tab
 obtain ⟨d0,d1,d2⟩:=tab_cells o7
 obtain ⟨y0,y1,y2⟩:=tab_frees o7
 go_upto_region 13 with fail
 obtain ⟨W8,hW8,o8,on8⟩:=tab_set o7 (.int .i64 t'.max) (.int .i64 t'.now) (.map (some m'))
 rw [hW8]
 have p8:=p7.only HTY.out on8
 have r8:=r7.only (by omega) on8
 have m8:=ht7.map.block (on8.block m' (by omega))
 have g8:w.grownBy W8 (some b):=⟨on8.os.trans b7.os,on8.tape.trans b7.tape,on8.output.trans b7.output,by rw [on8.size];exact b7.size,fun i hi hne=>(on8.block i (fun e=>hne (by rw [e]))).trans (b7.block i hi)⟩
 have hok:=ht7.oks
 clear hW8 x0 x1 x2 d0 d1 d2 y0 y1 y2 o7 p7 r7 b7 on8
 obtain ⟨e0,e1,e2,e3,e4,e5,e6,e7,e8,e9,e10,e11,e12,e13,e14⟩:=p8.cells
 obtain ⟨y0,y1,y2,y3,y4,y5,y6,y7,y8,y9,y10,y11,y12,y13,y14⟩:=r8.frees
 obtain ⟨d0,d1,d2,d3,d4,d5,d6,d7,d8,d9,d10,d11,d12,d13,d14⟩:=zero_cells r8
 obtain ⟨W9,hW9,g9,o9⟩:=r8.store f
 have HFIN:Hid (Q (.returned (.tuple #[.agg #[.int .i64 f.key.kind,.int .i64 f.key.src,.int .i64 f.key.frm,.int .i64 f.key.dst,.int .i64 f.key.too,.int .i64 f.st,.int .i64 f.unt,.int .i64 f.stp,.int .i64 f.h0,.int .i64 f.h1,.int .i64 f.w0,.int .i64 f.w1,.bool f.d0,.bool f.d1,.int .i64 f.num],.nilIface])) W9):=by
  have hfe:begG k s rule now=f:=by rw [← HF.out];unfold begF;rw [if_pos HBE.out]
  show Q _ _
  rw [HQ.out,hfe]
  have hmr:w.heap.size+2≠m':=fun e=>by
   rw [← e] at m8
   exact m8.not_cells r8
  refine ⟨rfl,⟨m',hlm,⟨(o9.block b (by omega)).trans ?_,?_,?_⟩⟩,⟨o9.os.trans g8.os,o9.tape.trans g8.tape,o9.output.trans g8.output,by rw [o9.size];exact g8.size,fun i hi hne=>(o9.block i (by omega)).trans (g8.block i hi hne)⟩⟩
  ·rw [o8,← HT'.out]
  ·have:=m8.block (o9.block m' (fun e=>hmr e.symm))
   rw [← HT'.out] at this
   exact this
  ·rw [← HT'.out] at hok
   exact hok
 have HW9:=hidE hW9
 have HG9:=hidE g9
 clear hW9 g9 o9 m8 g8 hok o8 ht7 r8 p8
 go_wp2_with fail
 rw [HW9.out]
 clear y0 y1 y2 y3 y4 y5 y6 y7 y8 y9 y10 y11 y12 y13 y14 d0 d1 d2 d3 d4 d5 d6 d7 d8 d9 d10 d11 d12 d13 d14 e0 e1 e2 e3 e4 e5 e6 e7 e8 e9 e10 e11 e12 e13 e14
 obtain ⟨c0,c1,c2,c3,c4,c5,c6,c7,c8,c9,c10,c11,c12,c13,c14⟩:=HG9.out.cells
 exact bodyPost_ret (v:=.tuple #[.agg #[.int .i64 f.key.kind,.int .i64 f.key.src,.int .i64 f.key.frm,.int .i64 f.key.dst,.int .i64 f.key.too,.int .i64 f.st,.int .i64 f.unt,.int .i64 f.stp,.int .i64 f.h0,.int .i64 f.h1,.int .i64 f.w0,.int .i64 f.w1,.bool f.d0,.bool f.d1,.int .i64 f.num],.nilIface]) (by simp [results,Tryz.results8,go_sem,c0,c1,c2,c3,c4,c5,c6,c7,c8,c9,c10,c11,c12,c13,c14]) rfl HFIN.out
end Go.Proofs.YtkhheooofcpfdaaGreatDoor
namespace Go.Proofs.YtkhheooofcpfdaaGreatDoor
open Go.RowKit Go.Maps
set_option linter.unusedVariables false
theorem tbegin_at (b m:Nat) (t:Tb) (k:Ky) (s:Sg) (bv:Value) (rule now:Int) (w:World) (h:TbAt w b m t) (ok:TbOk t) (hk:KyOk k) (hb:Bytes w bv s.body) (hL:Lives w) :
  Calls Tryz.prog 8 #[.pointer (some ⟨b,0,none⟩),keyV k,segV s bv,.int .i64 rule,.int .i64 now] w fun e w'=>e = .returned (.tuple #[flV (tbF t k s rule now),errV (tbE t k s rule now)])∧(∃ m',(m'=m∨w.heap.size≤m')∧TbAt w' b m' (tbS t k s rule now))∧w.grownBy w' (some b):=by
 obtain ⟨a,c,rfl⟩:=len_body hb
 have no:∀ z:Int,¬ z=0→tbE t k s rule now=z→Calls Tryz.prog 8 #[.pointer (some ⟨b,0,none⟩),keyV k,segV s (.slice a s.body.length c),.int .i64 rule,.int .i64 now] w (fun e w'=>e = .returned (.tuple #[flV zeroF,.iface 71 (.int .i64 z)])∧Below w.heap.size w w')→Calls Tryz.prog 8 #[.pointer (some ⟨b,0,none⟩),keyV k,segV s (.slice a s.body.length c),.int .i64 rule,.int .i64 now] w (fun e w'=>e = .returned (.tuple #[flV (tbF t k s rule now),errV (tbE t k s rule now)])∧(∃ m',(m'=m∨w.heap.size≤m')∧TbAt w' b m' (tbS t k s rule now))∧w.grownBy w' (some b)):=by
  intro z h0 he hc
  have e0:¬ tbE t k s rule now=0:=by rw [he];exact h0
  refine hc.mono fun e w' ⟨h1,h2⟩=>?_
  refine ⟨?_,?_⟩
  ·rw [h1,he,errV_no h0];unfold tbF;rw [if_neg e0]
  ·unfold tbS;rw [if_neg e0];exact ⟨⟨m,.inl rfl,h.below h2⟩,(said_no h h2).2⟩
 by_cases hz:timE t now=0
 case neg =>
  exact no _ hz (by unfold tbE;rw [if_pos hz]) (bg_time b m t k s a _ c rule now w h ok hk hb hL _ rfl hz)
 by_cases hbe:begE k s rule now=0
 case neg =>
  exact no _ hbe (by unfold tbE;rw [if_neg (fun x=>x hz),if_pos hbe]) (bg_beg b m t k s a _ c rule now w h ok hk hb hL _ hz rfl hbe)
 cases hhs:hasK (leftL now t.fs) k
 case true =>
  exact no 7 (by decide) (by unfold tbE;rw [if_neg (fun x=>x hz),if_neg (fun x=>x hbe),if_pos hhs]) (bg_clash b m t k s a _ c rule now w h ok hk hb hL hz hbe hhs)
 by_cases hfu:t.max≤((leftL now t.fs).length:Int)
 case pos =>
  exact no 4 (by decide) (by unfold tbE;rw [if_neg (fun x=>x hz),if_neg (fun x=>x hbe),if_neg (by rw [hhs];decide),if_pos hfu]) (bg_full b m t k s a _ c rule now w h ok hk hb hL hz hbe hhs hfu)
 have e0:tbE t k s rule now=0:=by unfold tbE;rw [if_neg (fun x=>x hz),if_neg (fun x=>x hbe),if_neg (by rw [hhs];decide),if_neg hfu]
 refine (bg_ok b m t k s a _ c rule now w h ok hk hb hL hz hbe hhs hfu).mono fun e w' ⟨h1,h2⟩=>?_
 refine ⟨?_,?_⟩
 ·rw [h1,e0,errV_ok];unfold tbF;rw [if_pos e0]
 ·unfold tbS;rw [if_pos e0];obtain ⟨⟨m1,p1,q1⟩,r1⟩:=h2;exact ⟨⟨m1,.inr p1,q1⟩,r1⟩
end Go.Proofs.YtkhheooofcpfdaaGreatDoor
