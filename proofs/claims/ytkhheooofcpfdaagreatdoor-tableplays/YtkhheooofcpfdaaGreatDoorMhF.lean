/- What Step of package track returns where the segment is not accepted. -/
import Derived.Test.YtkhheooofcpfdaaGreatDoorMgK
import Derived.Deep.RegionHeld3
import Derived.Deep.DeepCutAuto
import Derived.Test.YtkhheooofcpfdaaGreatDoorMhE
namespace Go.Proofs.YtkhheooofcpfdaaGreatDoor
open Go.RowKit
set_option linter.unusedVariables false
set_option maxRecDepth 100000 in
set_option maxHeartbeats 16000000 in
theorem step_no (f:Fl) (s:Sg) (a:Option Addr) (l c:Nat) (side now:Int) (w:World) (hs:side=0∨side=1) (hb:Bytes w (.slice a l c) s.body) (hL:Lives w) (hz:chkE f=0) (hd:sdE (sideK f side) s side now=0) (ht:¬ (f.unt≤now∨f.stp=1000000)) (hy:sayB f s side=false) :
  Calls Tryz.prog 35 #[flV f,segV s (.slice a l c),.int .i64 side,.int .i64 now] w fun e w'=>e = .returned (.tuple #[flV zeroF,.iface 71 (.int .i64 6)])∧Below w.heap.size w w':=by
 have h1:=Fsz.start w f s (.slice a l c)
 unfold fszW at h1
 obtain ⟨W1,hW1⟩:∃ W1,((w.alloc (.cells #[.int .i64 f.key.kind,.int .i64 f.key.src,.int .i64 f.key.frm,.int .i64 f.key.dst,.int .i64 f.key.too,.int .i64 f.st,.int .i64 f.unt,.int .i64 f.stp,.int .i64 f.h0,.int .i64 f.h1,.int .i64 f.w0,.int .i64 f.w1,.bool f.d0,.bool f.d1,.int .i64 f.num] 45)).alloc (.cells #[.int .i64 s.frm,.int .i64 s.too,.int .i64 s.seq,.int .i64 s.ack,.int .i64 s.win,.int .i64 s.flg,.slice a l c] 41)).alloc (.cells #[.int .i64 0,.int .i64 0,.int .i64 0,.int .i64 0,.int .i64 0,.int .i64 0,.int .i64 0,.int .i64 0,.int .i64 0,.int .i64 0,.int .i64 0,.int .i64 0,.bool false,.bool false,.int .i64 0] 45)=W1:=⟨_,rfl⟩
 rw [hW1] at h1
 have cw:=fun W=>within_any side 0 1 W
 rw [show flV zeroF = .agg #[.int .i64 0,.int .i64 0,.int .i64 0,.int .i64 0,.int .i64 0,.int .i64 0,.int .i64 0,.int .i64 0,.int .i64 0,.int .i64 0,.int .i64 0,.int .i64 0,.bool false,.bool false,.int .i64 0] from rfl]
 obtain ⟨hn,hsg,hof⟩:=sdE_ok hd
 obtain ⟨f1,f2,f3,f4,f5,f6⟩:=fitB_of (sgErr_ok hsg).2.2.2.1
 obtain ⟨hky,hfi,_,_⟩:=chkE_ok hz
 obtain ⟨g1,⟨g2,g3⟩,⟨g4,g5⟩,g6,g7,g8⟩:=fiB_of hfi
 have hl:s.body.length=l:=by obtain ⟨a',c',h⟩:=len_body hb;cases h;rfl
 have hl4:l≤4000:=by have:=(sgErr_ok hsg).2.2.2.2.2;omega
 have hsy:=fun W=>say_any f s a l c side W hs f6.1 f6.2 f4.1 (Int.le_trans f4.2 (seqM_le _).1) hl hl4 g2 g4
 rw [hy] at hsy
 rw [inR_yes (by omega) (by omega)] at cw
 have hck:=fun W (hb:Below w.heap.size w W)=>check_any f W (hL.below hb)
 rw [hz,errV_ok] at hck
 have hsd:=fun W (hB:Below w.heap.size w W)=>checkSaid_any (sideK f side) s (.slice a l c) side now W (hb.below (Nat.le_refl _) hB)
 rw [hd,errV_ok] at hsd
 have HSD:=hidE hsd
 have htn:=fun W=>turn_any f.key W
 have HS:=hidE hs
 unfold flV at hck
 unfold keyV turnK at htn
 have e1:(f.stp == 1000000)=false:=by simpa using fun h=>ht (.inr h)
 have e2:¬ f.unt≤now:=fun h=>ht (.inl h)
 generalize sayF f s side=g at hsy
 unfold flV segV at hsy
 clear hs hz hd hL hb hsd ht hn hsg hof f1 f2 f3 f4 f5 f6 hky hfi g1 g2 g3 g4 g5 g6 g7 g8 hl hl4 hy
 unfold flV segV
 go_enter Tryz.func35,Tryz.ntmps35
 go_upto_region 1 with fail
 try rw [hW1]
 clear hW1
 go_upto_region 3 with (go_at_call 56;refine (cw _).mono ?_;rintro e w' ⟨rfl,hw'⟩;rw [hw'];clear hw' w')
 obtain ⟨c0,c1,c2,c3,c4,c5,c6,c7,c8,c9,c10,c11,c12,c13,c14⟩:=h1.fl.cells
 obtain ⟨s0,s1,s2,s3,s4,s5,s6⟩:=h1.sg.cells
 go_upto_region 6 with (go_at_call 39;refine (hck _ h1.bel).mono ?_;rintro e W2 ⟨rfl,b2⟩)
 have h2:=h1.step b2
 clear c0 c1 c2 c3 c4 c5 c6 c7 c8 c9 c10 c11 c12 c13 c14 s0 s1 s2 s3 s4 s5 s6
 clear h1 b2 hck cw
 go_cut [11] (fun p wr=>∃ P,p = .pointer (some ⟨P,0,none⟩)∧Hid (Fk w f s (.slice a l c) P wr))
 case first =>
  have hS:W2.cell? ⟨w.heap.size,0,none⟩=some (.int .i64 f.key.kind)∧W2.cell? ⟨w.heap.size,1,none⟩=some (.int .i64 f.key.src)∧W2.cell? ⟨w.heap.size,2,none⟩=some (.int .i64 f.key.frm)∧W2.cell? ⟨w.heap.size,3,none⟩=some (.int .i64 f.key.dst)∧W2.cell? ⟨w.heap.size,4,none⟩=some (.int .i64 f.key.too):=⟨h2.fl.cells.1,h2.fl.cells.2.1,h2.fl.cells.2.2.1,h2.fl.cells.2.2.2.1,h2.fl.cells.2.2.2.2.1⟩
  have hlt2:=h2.rs.lt
  have n2:W2.heap.size≠w.heap.size:=by omega
  have n2':¬ w.heap.size=W2.heap.size:=by omega
  go_region_held3 (fun W=>W.cell? ⟨w.heap.size,0,none⟩=some (.int .i64 f.key.kind)∧W.cell? ⟨w.heap.size,1,none⟩=some (.int .i64 f.key.src)∧W.cell? ⟨w.heap.size,2,none⟩=some (.int .i64 f.key.frm)∧W.cell? ⟨w.heap.size,3,none⟩=some (.int .i64 f.key.dst)∧W.cell? ⟨w.heap.size,4,none⟩=some (.int .i64 f.key.too)) (with_reducible first|assumption|go_keep) (first
   | (go_at_call 61;with_reducible refine (htn W2.drew).mono ?_;rintro e W3 ⟨rfl,b3⟩;have h3:=h2.drew.step b3;have H3:=hidE h3;have hS3:W3.cell? ⟨w.heap.size,0,none⟩=some (.int .i64 f.key.kind)∧W3.cell? ⟨w.heap.size,1,none⟩=some (.int .i64 f.key.src)∧W3.cell? ⟨w.heap.size,2,none⟩=some (.int .i64 f.key.frm)∧W3.cell? ⟨w.heap.size,3,none⟩=some (.int .i64 f.key.dst)∧W3.cell? ⟨w.heap.size,4,none⟩=some (.int .i64 f.key.too):=⟨h3.fl.cells.1,h3.fl.cells.2.1,h3.fl.cells.2.2.1,h3.fl.cells.2.2.2.1,h3.fl.cells.2.2.2.2.1⟩;have hlt3:=h3.fl.lt;have n3:W3.heap.size≠w.heap.size:=(by omega);have n3':¬ w.heap.size=W3.heap.size:=(by omega);clear h3)
   | (go_at_call 61;with_reducible refine (htn (W2.alloc (.cells #[.int .i64 0,.int .i64 0,.int .i64 0,.int .i64 0,.int .i64 0,.int .i64 0,.int .i64 0,.int .i64 0,.int .i64 0,.int .i64 0] 110)).drew).mono ?_;rintro e W3 ⟨rfl,b3⟩;obtain ⟨h3,hz3⟩:=keys_early h2 b3;have hS3:W3.cell? ⟨w.heap.size,0,none⟩=some (.int .i64 f.key.kind)∧W3.cell? ⟨w.heap.size,1,none⟩=some (.int .i64 f.key.src)∧W3.cell? ⟨w.heap.size,2,none⟩=some (.int .i64 f.key.frm)∧W3.cell? ⟨w.heap.size,3,none⟩=some (.int .i64 f.key.dst)∧W3.cell? ⟨w.heap.size,4,none⟩=some (.int .i64 f.key.too):=⟨h3.fl.cells.1,h3.fl.cells.2.1,h3.fl.cells.2.2.1,h3.fl.cells.2.2.2.1,h3.fl.cells.2.2.2.2.1⟩;have hz4:=keysZ_cells hz3;have hz5:=keysZ_frees hz3;obtain ⟨z0,z1,z2,z3,z4,z5,z6,z7,z8,z9⟩:=hz4;obtain ⟨v0,v1,v2,v3,v4,v5,v6,v7,v8,v9⟩:=hz5;have HZ3:=hidE hz3;have H3:=hidE h3;clear hz3 h3))
  ·clear hS hS3
   go_wp2_with fail
   go_meet
   case rel=>exact ⟨_,rfl,Fk.fresh H3.out⟩
  ·clear hS hS3 z0 z1 z2 z3 z4 z5 z6 z7 z8 z9 v0 v1 v2 v3 v4 v5 v6 v7 v8 v9
   have HK:=hidE (Fk.put H3.out (show w.heap.size+2 < W2.heap.size by omega) HZ3.out)
   go_wp2_with fail
   go_meet
   case rel=>exact ⟨_,rfl,HK⟩
 case rest =>
 obtain ⟨P,rfl,HF⟩:=hcut
 have h3:=HF.out
 obtain ⟨W3,hW3⟩:∃ W3,wc=W3:=⟨_,rfl⟩
 rw [hW3] at h3 ⊢
 clear hW3 HF h2 htn
 go_upto_region 7 with fail
 go_cut [12] (fun v wr=>v = .nilIface∧Hid (Fsz w f s (.slice a l c) zeroF wr))
 case first =>
  obtain ⟨k0,k1,k2,k3,k4,k5,k6,k7,k8,k9⟩:=h3.cells
  obtain ⟨s0,s1,s2,s3,s4,s5,s6⟩:=h3.st.sg.cells
  have k0:=Ext.cell k0
  have k1:=Ext.cell k1
  have k2:=Ext.cell k2
  have k3:=Ext.cell k3
  have k4:=Ext.cell k4
  have k5:=Ext.cell k5
  have k6:=Ext.cell k6
  have k7:=Ext.cell k7
  have k8:=Ext.cell k8
  have k9:=Ext.cell k9
  have s0:=Ext.cell s0
  have s1:=Ext.cell s1
  have s2:=Ext.cell s2
  have s3:=Ext.cell s3
  have s4:=Ext.cell s4
  have s5:=Ext.cell s5
  have s6:=Ext.cell s6
  have hcl:∀ u:Ext W3,Calls Tryz.prog 57 #[keyV (sideK f side),segV s (.slice a l c),.int .i64 side,.int .i64 now] u.W fun e w'=>e = .returned (.nilIface)∧∃ u':Ext W3,w'=u'.W:=fun u=>(HSD.out u.W (h3.st.bel.trans (u.h.mono h3.st.bel.size))).mono fun e w' ⟨he,hb⟩=>⟨he,⟨w',u.h.trans (hb.mono u.h.size)⟩,rfl⟩
  rcases HS.out with hs|hs
  ·subst hs
   rw [show keyV (sideK f 0) = .agg #[.int .i64 f.key.kind,.int .i64 f.key.src,.int .i64 f.key.frm,.int .i64 f.key.dst,.int .i64 f.key.too] from rfl] at hcl
   unfold segV at hcl
   refine wp_region_ext (by kernel_rfl) (by kernel_rfl) ?_
   repeat (go_big_quiet_step ((go_at_call 57;exact hcl _)))
   refine wpQuiet_nil ?_
   rintro _ ⟨u,rfl⟩
   have HF:=hidE (h3.st.step u.h)
   obtain ⟨W7,hW7⟩:∃ W7,u.W=W7:=⟨_,rfl⟩
   rw [hW7] at HF ⊢
   clear hW7 hcl k0 k1 k2 k3 k4 k5 k6 k7 k8 k9 s0 s1 s2 s3 s4 s5 s6
   go_wp2_with fail
   go_meet
   case rel=>exact ⟨rfl,HF⟩
  ·subst hs
   rw [show keyV (sideK f 1) = .agg #[.int .i64 f.key.kind,.int .i64 f.key.dst,.int .i64 f.key.too,.int .i64 f.key.src,.int .i64 f.key.frm] from rfl] at hcl
   unfold segV at hcl
   refine wp_region_ext (by kernel_rfl) (by kernel_rfl) ?_
   repeat (go_big_quiet_step ((go_at_call 57;exact hcl _)))
   refine wpQuiet_nil ?_
   rintro _ ⟨u,rfl⟩
   have HF:=hidE (h3.st.step u.h)
   obtain ⟨W7,hW7⟩:∃ W7,u.W=W7:=⟨_,rfl⟩
   rw [hW7] at HF ⊢
   clear hW7 hcl k0 k1 k2 k3 k4 k5 k6 k7 k8 k9 s0 s1 s2 s3 s4 s5 s6
   go_wp2_with fail
   go_meet
   case rel=>exact ⟨rfl,HF⟩
 case rest =>
 obtain ⟨rfl,HF⟩:=hcut
 have h4:=HF.out
 obtain ⟨W4,hW4⟩:∃ W4,wc=W4:=⟨_,rfl⟩
 rw [hW4] at h4 ⊢
 clear hW4 HF h3 HSD HS
 obtain ⟨c0,c1,c2,c3,c4,c5,c6,c7,c8,c9,c10,c11,c12,c13,c14⟩:=h4.fl.cells
 obtain ⟨s0,s1,s2,s3,s4,s5,s6⟩:=h4.sg.cells
 go_upto_region 13 with (go_at_call 62;refine (hsy _).mono ?_;rintro e W5 ⟨rfl,b5⟩)
 have h5:=(h4.step b5).step ((Below.refl _ _).alloc (Nat.le_refl _) (.cells #[.int .i64 g.key.kind,.int .i64 g.key.src,.int .i64 g.key.frm,.int .i64 g.key.dst,.int .i64 g.key.too,.int .i64 g.st,.int .i64 g.unt,.int .i64 g.stp,.int .i64 g.h0,.int .i64 g.h1,.int .i64 g.w0,.int .i64 g.w1,.bool g.d0,.bool g.d1,.int .i64 g.num] 45))
 obtain ⟨W6,hW6⟩:∃ W6,W5.alloc (.cells #[.int .i64 g.key.kind,.int .i64 g.key.src,.int .i64 g.key.frm,.int .i64 g.key.dst,.int .i64 g.key.too,.int .i64 g.st,.int .i64 g.unt,.int .i64 g.stp,.int .i64 g.h0,.int .i64 g.h1,.int .i64 g.w0,.int .i64 g.w1,.bool g.d0,.bool g.d1,.int .i64 g.num] 45)=W6:=⟨_,rfl⟩
 rw [hW6] at h5 ⊢
 clear hW6 h4 b5 hsy e1 e2
 clear c0 c1 c2 c3 c4 c5 c6 c7 c8 c9 c10 c11 c12 c13 c14 s0 s1 s2 s3 s4 s5 s6
 go_upto_region 14 with fail
 obtain ⟨y0,y1,y2,y3,y4,y5,y6,y7,y8,y9,y10,y11,y12,y13,y14⟩:=h5.rs.frees
 obtain ⟨d0,d1,d2,d3,d4,d5,d6,d7,d8,d9,d10,d11,d12,d13,d14⟩:=zero_cells h5.rs
 go_wp2_with fail
 obtain ⟨W9,hW9,g9,b9⟩:=h5.wipe
 rw [hW9]
 clear hW9 y0 y1 y2 y3 y4 y5 y6 y7 y8 y9 y10 y11 y12 y13 y14 d0 d1 d2 d3 d4 d5 d6 d7 d8 d9 d10 d11 d12 d13 d14
 obtain ⟨c0,c1,c2,c3,c4,c5,c6,c7,c8,c9,c10,c11,c12,c13,c14⟩:=zero_cells g9
 exact bodyPost_ret (v:=.tuple #[.agg #[.int .i64 0,.int .i64 0,.int .i64 0,.int .i64 0,.int .i64 0,.int .i64 0,.int .i64 0,.int .i64 0,.int .i64 0,.int .i64 0,.int .i64 0,.int .i64 0,.bool false,.bool false,.int .i64 0],.iface 71 (.int .i64 6)]) (by simp [results,Tryz.results35,go_sem,c0,c1,c2,c3,c4,c5,c6,c7,c8,c9,c10,c11,c12,c13,c14]) rfl ⟨rfl,b9⟩
end Go.Proofs.YtkhheooofcpfdaaGreatDoor
namespace Go.Proofs.YtkhheooofcpfdaaGreatDoor
open Go.RowKit
set_option linter.unusedVariables false
set_option maxRecDepth 100000 in
set_option maxHeartbeats 16000000 in
theorem step_ok (f:Fl) (s:Sg) (a:Option Addr) (l c:Nat) (side now:Int) (w:World) (hs:side=0∨side=1) (hb:Bytes w (.slice a l c) s.body) (hL:Lives w) (hz:chkE f=0) (hd:sdE (sideK f side) s side now=0) (ht:¬ (f.unt≤now∨f.stp=1000000)) (hy:sayB f s side=true) (hst:(sayF f s side).stp=f.stp) :
  Calls Tryz.prog 35 #[flV f,segV s (.slice a l c),.int .i64 side,.int .i64 now] w fun e w'=>e = .returned (.tuple #[flV (chgF (sayF f s side) now),.nilIface])∧Below w.heap.size w w':=by
 have h1:=Fsz.start w f s (.slice a l c)
 unfold fszW at h1
 obtain ⟨W1,hW1⟩:∃ W1,((w.alloc (.cells #[.int .i64 f.key.kind,.int .i64 f.key.src,.int .i64 f.key.frm,.int .i64 f.key.dst,.int .i64 f.key.too,.int .i64 f.st,.int .i64 f.unt,.int .i64 f.stp,.int .i64 f.h0,.int .i64 f.h1,.int .i64 f.w0,.int .i64 f.w1,.bool f.d0,.bool f.d1,.int .i64 f.num] 45)).alloc (.cells #[.int .i64 s.frm,.int .i64 s.too,.int .i64 s.seq,.int .i64 s.ack,.int .i64 s.win,.int .i64 s.flg,.slice a l c] 41)).alloc (.cells #[.int .i64 0,.int .i64 0,.int .i64 0,.int .i64 0,.int .i64 0,.int .i64 0,.int .i64 0,.int .i64 0,.int .i64 0,.int .i64 0,.int .i64 0,.int .i64 0,.bool false,.bool false,.int .i64 0] 45)=W1:=⟨_,rfl⟩
 rw [hW1] at h1
 have cw:=fun W=>within_any side 0 1 W
 obtain ⟨hn,hsg,hof⟩:=sdE_ok hd
 obtain ⟨f1,f2,f3,f4,f5,f6⟩:=fitB_of (sgErr_ok hsg).2.2.2.1
 obtain ⟨hky,hfi,_,_⟩:=chkE_ok hz
 obtain ⟨g1,⟨g2,g3⟩,⟨g4,g5⟩,g6,g7,g8⟩:=fiB_of hfi
 have hl:s.body.length=l:=by obtain ⟨a',c',h⟩:=len_body hb;cases h;rfl
 have hl4:l≤4000:=by have:=(sgErr_ok hsg).2.2.2.2.2;omega
 have hsy:=fun W=>say_any f s a l c side W hs f6.1 f6.2 f4.1 (Int.le_trans f4.2 (seqM_le _).1) hl hl4 g2 g4
 rw [hy] at hsy
 rw [inR_yes (by omega) (by omega)] at cw
 have hck:=fun W (hb:Below w.heap.size w W)=>check_any f W (hL.below hb)
 rw [hz,errV_ok] at hck
 have hsd:=fun W (hB:Below w.heap.size w W)=>checkSaid_any (sideK f side) s (.slice a l c) side now W (hb.below (Nat.le_refl _) hB)
 rw [hd,errV_ok] at hsd
 have HSD:=hidE hsd
 have htn:=fun W=>turn_any f.key W
 have HS:=hidE hs
 unfold flV at hck
 unfold keyV turnK at htn
 have e1:(f.stp == 1000000)=false:=by simpa using fun h=>ht (.inr h)
 have e2:¬ f.unt≤now:=fun h=>ht (.inl h)
 have hch:=fun W (hb:Below w.heap.size w W)=>changed_any (sayF f s side) now W (hL.below hb) (by rw [hst];omega) (by rw [hst];omega) hn.1 hn.2
 generalize sayF f s side=g at hsy hch hst ⊢
 obtain ⟨q,hq⟩:∃ q,chgF g now=q:=⟨_,rfl⟩
 rw [hq] at hch ⊢
 have HCH:=hidE hch
 unfold flV segV at hsy
 unfold flV at HCH
 clear hs hz hd hL hb hsd ht hn hsg hof f1 f2 f3 f4 f5 f6 hky hfi g1 g2 g3 g4 g5 g6 g7 g8 hl hl4 hy hst hq hch
 unfold flV segV
 go_enter Tryz.func35,Tryz.ntmps35
 go_upto_region 1 with fail
 try rw [hW1]
 clear hW1
 go_upto_region 3 with (go_at_call 56;refine (cw _).mono ?_;rintro e w' ⟨rfl,hw'⟩;rw [hw'];clear hw' w')
 obtain ⟨c0,c1,c2,c3,c4,c5,c6,c7,c8,c9,c10,c11,c12,c13,c14⟩:=h1.fl.cells
 obtain ⟨s0,s1,s2,s3,s4,s5,s6⟩:=h1.sg.cells
 go_upto_region 6 with (go_at_call 39;refine (hck _ h1.bel).mono ?_;rintro e W2 ⟨rfl,b2⟩)
 have h2:=h1.step b2
 clear c0 c1 c2 c3 c4 c5 c6 c7 c8 c9 c10 c11 c12 c13 c14 s0 s1 s2 s3 s4 s5 s6
 clear h1 b2 hck cw
 go_cut [11] (fun p wr=>∃ P,p = .pointer (some ⟨P,0,none⟩)∧Hid (Fk w f s (.slice a l c) P wr))
 case first =>
  have hS:W2.cell? ⟨w.heap.size,0,none⟩=some (.int .i64 f.key.kind)∧W2.cell? ⟨w.heap.size,1,none⟩=some (.int .i64 f.key.src)∧W2.cell? ⟨w.heap.size,2,none⟩=some (.int .i64 f.key.frm)∧W2.cell? ⟨w.heap.size,3,none⟩=some (.int .i64 f.key.dst)∧W2.cell? ⟨w.heap.size,4,none⟩=some (.int .i64 f.key.too):=⟨h2.fl.cells.1,h2.fl.cells.2.1,h2.fl.cells.2.2.1,h2.fl.cells.2.2.2.1,h2.fl.cells.2.2.2.2.1⟩
  have hlt2:=h2.rs.lt
  have n2:W2.heap.size≠w.heap.size:=by omega
  have n2':¬ w.heap.size=W2.heap.size:=by omega
  go_region_held3 (fun W=>W.cell? ⟨w.heap.size,0,none⟩=some (.int .i64 f.key.kind)∧W.cell? ⟨w.heap.size,1,none⟩=some (.int .i64 f.key.src)∧W.cell? ⟨w.heap.size,2,none⟩=some (.int .i64 f.key.frm)∧W.cell? ⟨w.heap.size,3,none⟩=some (.int .i64 f.key.dst)∧W.cell? ⟨w.heap.size,4,none⟩=some (.int .i64 f.key.too)) (with_reducible first|assumption|go_keep) (first
   | (go_at_call 61;with_reducible refine (htn W2.drew).mono ?_;rintro e W3 ⟨rfl,b3⟩;have h3:=h2.drew.step b3;have H3:=hidE h3;have hS3:W3.cell? ⟨w.heap.size,0,none⟩=some (.int .i64 f.key.kind)∧W3.cell? ⟨w.heap.size,1,none⟩=some (.int .i64 f.key.src)∧W3.cell? ⟨w.heap.size,2,none⟩=some (.int .i64 f.key.frm)∧W3.cell? ⟨w.heap.size,3,none⟩=some (.int .i64 f.key.dst)∧W3.cell? ⟨w.heap.size,4,none⟩=some (.int .i64 f.key.too):=⟨h3.fl.cells.1,h3.fl.cells.2.1,h3.fl.cells.2.2.1,h3.fl.cells.2.2.2.1,h3.fl.cells.2.2.2.2.1⟩;have hlt3:=h3.fl.lt;have n3:W3.heap.size≠w.heap.size:=(by omega);have n3':¬ w.heap.size=W3.heap.size:=(by omega);clear h3)
   | (go_at_call 61;with_reducible refine (htn (W2.alloc (.cells #[.int .i64 0,.int .i64 0,.int .i64 0,.int .i64 0,.int .i64 0,.int .i64 0,.int .i64 0,.int .i64 0,.int .i64 0,.int .i64 0] 110)).drew).mono ?_;rintro e W3 ⟨rfl,b3⟩;obtain ⟨h3,hz3⟩:=keys_early h2 b3;have hS3:W3.cell? ⟨w.heap.size,0,none⟩=some (.int .i64 f.key.kind)∧W3.cell? ⟨w.heap.size,1,none⟩=some (.int .i64 f.key.src)∧W3.cell? ⟨w.heap.size,2,none⟩=some (.int .i64 f.key.frm)∧W3.cell? ⟨w.heap.size,3,none⟩=some (.int .i64 f.key.dst)∧W3.cell? ⟨w.heap.size,4,none⟩=some (.int .i64 f.key.too):=⟨h3.fl.cells.1,h3.fl.cells.2.1,h3.fl.cells.2.2.1,h3.fl.cells.2.2.2.1,h3.fl.cells.2.2.2.2.1⟩;have hz4:=keysZ_cells hz3;have hz5:=keysZ_frees hz3;obtain ⟨z0,z1,z2,z3,z4,z5,z6,z7,z8,z9⟩:=hz4;obtain ⟨v0,v1,v2,v3,v4,v5,v6,v7,v8,v9⟩:=hz5;have HZ3:=hidE hz3;have H3:=hidE h3;clear hz3 h3))
  ·clear hS hS3
   go_wp2_with fail
   go_meet
   case rel=>exact ⟨_,rfl,Fk.fresh H3.out⟩
  ·clear hS hS3 z0 z1 z2 z3 z4 z5 z6 z7 z8 z9 v0 v1 v2 v3 v4 v5 v6 v7 v8 v9
   have HK:=hidE (Fk.put H3.out (show w.heap.size+2 < W2.heap.size by omega) HZ3.out)
   go_wp2_with fail
   go_meet
   case rel=>exact ⟨_,rfl,HK⟩
 case rest =>
 obtain ⟨P,rfl,HF⟩:=hcut
 have h3:=HF.out
 obtain ⟨W3,hW3⟩:∃ W3,wc=W3:=⟨_,rfl⟩
 rw [hW3] at h3 ⊢
 clear hW3 HF h2 htn
 go_upto_region 7 with fail
 go_cut [12] (fun v wr=>v = .nilIface∧Hid (Fsz w f s (.slice a l c) zeroF wr))
 case first =>
  obtain ⟨k0,k1,k2,k3,k4,k5,k6,k7,k8,k9⟩:=h3.cells
  obtain ⟨s0,s1,s2,s3,s4,s5,s6⟩:=h3.st.sg.cells
  have k0:=Ext.cell k0
  have k1:=Ext.cell k1
  have k2:=Ext.cell k2
  have k3:=Ext.cell k3
  have k4:=Ext.cell k4
  have k5:=Ext.cell k5
  have k6:=Ext.cell k6
  have k7:=Ext.cell k7
  have k8:=Ext.cell k8
  have k9:=Ext.cell k9
  have s0:=Ext.cell s0
  have s1:=Ext.cell s1
  have s2:=Ext.cell s2
  have s3:=Ext.cell s3
  have s4:=Ext.cell s4
  have s5:=Ext.cell s5
  have s6:=Ext.cell s6
  have hcl:∀ u:Ext W3,Calls Tryz.prog 57 #[keyV (sideK f side),segV s (.slice a l c),.int .i64 side,.int .i64 now] u.W fun e w'=>e = .returned (.nilIface)∧∃ u':Ext W3,w'=u'.W:=fun u=>(HSD.out u.W (h3.st.bel.trans (u.h.mono h3.st.bel.size))).mono fun e w' ⟨he,hb⟩=>⟨he,⟨w',u.h.trans (hb.mono u.h.size)⟩,rfl⟩
  rcases HS.out with hs|hs
  ·subst hs
   rw [show keyV (sideK f 0) = .agg #[.int .i64 f.key.kind,.int .i64 f.key.src,.int .i64 f.key.frm,.int .i64 f.key.dst,.int .i64 f.key.too] from rfl] at hcl
   unfold segV at hcl
   refine wp_region_ext (by kernel_rfl) (by kernel_rfl) ?_
   repeat (go_big_quiet_step ((go_at_call 57;exact hcl _)))
   refine wpQuiet_nil ?_
   rintro _ ⟨u,rfl⟩
   have HF:=hidE (h3.st.step u.h)
   obtain ⟨W7,hW7⟩:∃ W7,u.W=W7:=⟨_,rfl⟩
   rw [hW7] at HF ⊢
   clear hW7 hcl k0 k1 k2 k3 k4 k5 k6 k7 k8 k9 s0 s1 s2 s3 s4 s5 s6
   go_wp2_with fail
   go_meet
   case rel=>exact ⟨rfl,HF⟩
  ·subst hs
   rw [show keyV (sideK f 1) = .agg #[.int .i64 f.key.kind,.int .i64 f.key.dst,.int .i64 f.key.too,.int .i64 f.key.src,.int .i64 f.key.frm] from rfl] at hcl
   unfold segV at hcl
   refine wp_region_ext (by kernel_rfl) (by kernel_rfl) ?_
   repeat (go_big_quiet_step ((go_at_call 57;exact hcl _)))
   refine wpQuiet_nil ?_
   rintro _ ⟨u,rfl⟩
   have HF:=hidE (h3.st.step u.h)
   obtain ⟨W7,hW7⟩:∃ W7,u.W=W7:=⟨_,rfl⟩
   rw [hW7] at HF ⊢
   clear hW7 hcl k0 k1 k2 k3 k4 k5 k6 k7 k8 k9 s0 s1 s2 s3 s4 s5 s6
   go_wp2_with fail
   go_meet
   case rel=>exact ⟨rfl,HF⟩
 case rest =>
 obtain ⟨rfl,HF⟩:=hcut
 have h4:=HF.out
 obtain ⟨W4,hW4⟩:∃ W4,wc=W4:=⟨_,rfl⟩
 rw [hW4] at h4 ⊢
 clear hW4 HF h3 HSD HS
 obtain ⟨c0,c1,c2,c3,c4,c5,c6,c7,c8,c9,c10,c11,c12,c13,c14⟩:=h4.fl.cells
 obtain ⟨s0,s1,s2,s3,s4,s5,s6⟩:=h4.sg.cells
 go_upto_region 13 with (go_at_call 62;refine (hsy _).mono ?_;rintro e W5 ⟨rfl,b5⟩)
 have h5:=(h4.step b5).step ((Below.refl _ _).alloc (Nat.le_refl _) (.cells #[.int .i64 g.key.kind,.int .i64 g.key.src,.int .i64 g.key.frm,.int .i64 g.key.dst,.int .i64 g.key.too,.int .i64 g.st,.int .i64 g.unt,.int .i64 g.stp,.int .i64 g.h0,.int .i64 g.h1,.int .i64 g.w0,.int .i64 g.w1,.bool g.d0,.bool g.d1,.int .i64 g.num] 45))
 have p5:=FlAt.new W5 g
 obtain ⟨W6,hW6⟩:∃ W6,W5.alloc (.cells #[.int .i64 g.key.kind,.int .i64 g.key.src,.int .i64 g.key.frm,.int .i64 g.key.dst,.int .i64 g.key.too,.int .i64 g.st,.int .i64 g.unt,.int .i64 g.stp,.int .i64 g.h0,.int .i64 g.h1,.int .i64 g.w0,.int .i64 g.w1,.bool g.d0,.bool g.d1,.int .i64 g.num] 45)=W6:=⟨_,rfl⟩
 rw [hW6] at h5 p5 ⊢
 obtain ⟨G,hG⟩:∃ G,W5.heap.size=G:=⟨_,rfl⟩
 rw [hG] at p5 ⊢
 clear hW6 hG h4 b5 hsy e1 e2
 clear c0 c1 c2 c3 c4 c5 c6 c7 c8 c9 c10 c11 c12 c13 c14 s0 s1 s2 s3 s4 s5 s6
 obtain ⟨c0,c1,c2,c3,c4,c5,c6,c7,c8,c9,c10,c11,c12,c13,c14⟩:=p5.cells
 have hch:=HCH.out W6 h5.bel
 go_wp2_with (go_at_call 59;refine hch.mono ?_;rintro e W8 ⟨rfl,b8⟩;have h8:=h5.step b8;obtain ⟨y0,y1,y2,y3,y4,y5,y6,y7,y8,y9,y10,y11,y12,y13,y14⟩:=h8.rs.frees;obtain ⟨d0,d1,d2,d3,d4,d5,d6,d7,d8,d9,d10,d11,d12,d13,d14⟩:=h8.rs.cells)
 clear c0 c1 c2 c3 c4 c5 c6 c7 c8 c9 c10 c11 c12 c13 c14 hch HCH b8 h5 p5
 obtain ⟨W9,hW9,g9,b9⟩:=h8.fin (q:=q)
 rw [hW9]
 clear hW9 y0 y1 y2 y3 y4 y5 y6 y7 y8 y9 y10 y11 y12 y13 y14 d0 d1 d2 d3 d4 d5 d6 d7 d8 d9 d10 d11 d12 d13 d14
 obtain ⟨c0,c1,c2,c3,c4,c5,c6,c7,c8,c9,c10,c11,c12,c13,c14⟩:=g9.cells
 exact bodyPost_ret (v:=.tuple #[.agg #[.int .i64 q.key.kind,.int .i64 q.key.src,.int .i64 q.key.frm,.int .i64 q.key.dst,.int .i64 q.key.too,.int .i64 q.st,.int .i64 q.unt,.int .i64 q.stp,.int .i64 q.h0,.int .i64 q.h1,.int .i64 q.w0,.int .i64 q.w1,.bool q.d0,.bool q.d1,.int .i64 q.num],.nilIface]) (by simp [results,Tryz.results35,go_sem,c0,c1,c2,c3,c4,c5,c6,c7,c8,c9,c10,c11,c12,c13,c14]) rfl ⟨rfl,b9⟩
end Go.Proofs.YtkhheooofcpfdaaGreatDoor
namespace Go.Proofs.YtkhheooofcpfdaaGreatDoor
open Go.RowKit
set_option linter.unusedVariables false
theorem goF_same (f:Fl) (s:Sg) (side:Int):(goF f s side).stp=f.stp∧(goF f s side).key=f.key∧(goF f s side).num=f.num∧(goF f s side).unt=f.unt:=by
 unfold goF;split <;> exact ⟨rfl,rfl,rfl,rfl⟩
theorem strF_same (f:Fl) (s:Sg) (side:Int):(strF f s side).stp=f.stp∧(strF f s side).key=f.key∧(strF f s side).num=f.num∧(strF f s side).unt=f.unt:=by
 unfold strF
 split
 ·exact ⟨rfl,rfl,rfl,rfl⟩
 split
 ·exact goF_same f s side
 split <;> exact ⟨rfl,rfl,rfl,rfl⟩
theorem sayF_same (f:Fl) (s:Sg) (side:Int):(sayF f s side).stp=f.stp∧(sayF f s side).key=f.key∧(sayF f s side).num=f.num∧(sayF f s side).unt=f.unt:=by
 unfold sayF
 split
 ·exact strF_same f s side
 split <;> exact ⟨rfl,rfl,rfl,rfl⟩
theorem stpF_no {f:Fl} {s:Sg} {side now z:Int} (h:stpE f s side now=z) (hz:¬ z=0):stpF f s side now=zeroF:=by
 unfold stpF;rw [if_neg (by rw [h];exact hz)]
theorem step_any (f:Fl) (s:Sg) (bv:Value) (side now:Int) (w:World) (hb:Bytes w bv s.body) (hL:Lives w) :
  Calls Tryz.prog 35 #[flV f,segV s bv,.int .i64 side,.int .i64 now] w fun e w'=>e = .returned (.tuple #[flV (stpF f s side now),errV (stpE f s side now)])∧Below w.heap.size w w':=by
 obtain ⟨a,c,rfl⟩:=len_body hb
 by_cases hs:side=0∨side=1
 case neg =>
  have e:stpE f s side now=1:=by unfold stpE;rw [if_pos hs]
  rw [stpF_no e (by decide),e,errV_no (by decide)]
  exact step_side f s a _ c side now w hs
 have hs':¬ ¬ (side=0∨side=1):=fun h=>h hs
 by_cases hz:chkE f=0
 case neg =>
  have e:stpE f s side now=chkE f:=by unfold stpE;rw [if_neg hs',if_pos hz]
  rw [stpF_no e hz,e,errV_no hz]
  exact step_chk f s a _ c side now w hs hL _ rfl hz
 have hz':¬ ¬ chkE f=0:=fun h=>h hz
 by_cases hd:sdE (sideK f side) s side now=0
 case neg =>
  have e:stpE f s side now=sdE (sideK f side) s side now:=by unfold stpE;rw [if_neg hs',if_neg hz',if_pos hd]
  rw [stpF_no e hd,e,errV_no hd]
  exact step_said f s a _ c side now w hs hb hL hz _ rfl hd
 have hd':¬ ¬ sdE (sideK f side) s side now=0:=fun h=>h hd
 by_cases ht:f.unt≤now∨f.stp=1000000
 ·have e:stpE f s side now=6:=by unfold stpE;rw [if_neg hs',if_neg hz',if_neg hd',if_pos ht]
  rw [stpF_no e (by decide),e,errV_no (by decide)]
  exact step_late f s a _ c side now w hs hb hL hz hd ht
 cases hy:sayB f s side
 ·have e:stpE f s side now=6:=by unfold stpE;rw [if_neg hs',if_neg hz',if_neg hd',if_neg ht,if_pos hy]
  rw [stpF_no e (by decide),e,errV_no (by decide)]
  exact step_no f s a _ c side now w hs hb hL hz hd ht hy
 ·have e:stpE f s side now=0:=by unfold stpE;rw [if_neg hs',if_neg hz',if_neg hd',if_neg ht,if_neg (by rw [hy];decide)]
  rw [show stpF f s side now=chgF (sayF f s side) now by unfold stpF;rw [if_pos e],e,errV_ok]
  exact step_ok f s a _ c side now w hs hb hL hz hd ht hy (sayF_same f s side).1
end Go.Proofs.YtkhheooofcpfdaaGreatDoor
