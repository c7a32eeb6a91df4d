/- The reference's Offer to a table, where it refuses ahead of the step. -/
import Derived.Test.YtkhheooofcpfdaaGreatDoorMhA
import Derived.Test.YtkhheooofcpfdaaGreatDoorMhN
import Derived.Test.YtkhheooofcpfdaaGreatDoorMgR
namespace Go.Proofs.YtkhheooofcpfdaaGreatDoor
open Go.RowKit Go.Maps
set_option linter.unusedVariables false
set_option maxRecDepth 100000 in
set_option maxHeartbeats 32000000 in
theorem lo_time (b:Nat) (t:Tb) (va:Value) (k:Ky) (s:Sg) (a:Option Addr) (l c:Nat) (now:Int) (w:World) (h:LIn w b t va) (hlen:t.fs.length≤1000) (hvb:va.ownBlock≠some b) (hb:Bytes w (.slice a l c) s.body) (z:Int) (hz:timE t now=z) (h0:¬ z=0) :
  Calls Tryz.prog 10 #[.pointer (some ⟨b,0,none⟩),keyV k,segV s (.slice a l c),.int .i64 now] w fun e w'=>e = .returned (.tuple #[flV zeroF,.int .i64 z])∧Below w.heap.size w w':=by
 rw [show flV zeroF = .agg #[.int .i64 0,.int .i64 0,.int .i64 0,.int .i64 0,.int .i64 0,.int .i64 0,.int .i64 0,.int .i64 0,.int .i64 0,.int .i64 0,.int .i64 0,.int .i64 0,.bool false,.bool false,.int .i64 0] from rfl]
 have h1:=LgS.start w b t va k s (.slice a l c) h
 obtain ⟨W1,hW1⟩:∃ W1,((w.alloc (.cells #[.int .i64 k.kind,.int .i64 k.src,.int .i64 k.frm,.int .i64 k.dst,.int .i64 k.too] 37)).alloc (.cells #[.int .i64 s.frm,.int .i64 s.too,.int .i64 s.seq,.int .i64 s.ack,.int .i64 s.win,.int .i64 s.flg,.slice a l c] 41)).alloc (.cells #[.int .i64 0,.int .i64 0,.int .i64 0,.int .i64 0,.int .i64 0,.int .i64 0,.int .i64 0,.int .i64 0,.int .i64 0,.int .i64 0,.int .i64 0,.int .i64 0,.bool false,.bool false,.int .i64 0] 45)=W1:=⟨_,rfl⟩
 rw [hW1] at h1
 have HB:=hidE (fun W (hB:Below w.heap.size w W)=>hb.below (Nat.le_refl _) hB)
 have hc:=ltime_any b t va now W1 h1.tb
 rw [hz] at hc
 have i1:(z != 0)=true:=by simpa using h0
 clear h0
 clear hb hz
 unfold keyV segV
 go_enter Tryz.func10,Tryz.ntmps10
 go_upto_region 1 with fail
 try rw [hW1]
 clear hW1
 go_upto_region 3 with (go_at_call 25;go_must (refine hc.mono ?_;rintro e W2 ⟨rfl,hw⟩;rw [hw];clear hw W2))
 clear hc
 obtain ⟨y0,y1,y2,y3,y4,y5,y6,y7,y8,y9,y10,y11,y12,y13,y14⟩:=h1.rs.frees
 obtain ⟨d0,d1,d2,d3,d4,d5,d6,d7,d8,d9,d10,d11,d12,d13,d14⟩:=zero_cells h1.rs
 obtain ⟨W9,hW9,g9,o9⟩:=fl_wipe h1.rs
 have HW9:=hidE hW9
 have HG9:=hidE g9
 have HB9:=hidE (o9.below (by omega) h1.bel)
 clear hW9 g9 o9
 go_wp2_with fail
 rw [HW9.out]
 clear y0 y1 y2 y3 y4 y5 y6 y7 y8 y9 y10 y11 y12 y13 y14 d0 d1 d2 d3 d4 d5 d6 d7 d8 d9 d10 d11 d12 d13 d14
 obtain ⟨c0,c1,c2,c3,c4,c5,c6,c7,c8,c9,c10,c11,c12,c13,c14⟩:=zero_cells HG9.out
 exact bodyPost_ret (v:=.tuple #[.agg #[.int .i64 0,.int .i64 0,.int .i64 0,.int .i64 0,.int .i64 0,.int .i64 0,.int .i64 0,.int .i64 0,.int .i64 0,.int .i64 0,.int .i64 0,.int .i64 0,.bool false,.bool false,.int .i64 0],.int .i64 z]) (by simp [results,Tryz.results10,go_sem,c0,c1,c2,c3,c4,c5,c6,c7,c8,c9,c10,c11,c12,c13,c14]) rfl ⟨rfl,HB9.out⟩
set_option maxRecDepth 100000 in
set_option maxHeartbeats 32000000 in
theorem lo_none (b:Nat) (t:Tb) (va:Value) (k:Ky) (s:Sg) (a:Option Addr) (l c:Nat) (now:Int) (w:World) (h:LIn w b t va) (hlen:t.fs.length≤1000) (hvb:va.ownBlock≠some b) (hb:Bytes w (.slice a l c) s.body) (hz:timE t now=0) (hhs:hasK (leftL now t.fs) k=false) :
  Calls Tryz.prog 10 #[.pointer (some ⟨b,0,none⟩),keyV k,segV s (.slice a l c),.int .i64 now] w fun e w'=>e = .returned (.tuple #[flV zeroF,.int .i64 5])∧Below w.heap.size w w':=by
 rw [show flV zeroF = .agg #[.int .i64 0,.int .i64 0,.int .i64 0,.int .i64 0,.int .i64 0,.int .i64 0,.int .i64 0,.int .i64 0,.int .i64 0,.int .i64 0,.int .i64 0,.int .i64 0,.bool false,.bool false,.int .i64 0] from rfl]
 have h1:=LgS.start w b t va k s (.slice a l c) h
 obtain ⟨W1,hW1⟩:∃ W1,((w.alloc (.cells #[.int .i64 k.kind,.int .i64 k.src,.int .i64 k.frm,.int .i64 k.dst,.int .i64 k.too] 37)).alloc (.cells #[.int .i64 s.frm,.int .i64 s.too,.int .i64 s.seq,.int .i64 s.ack,.int .i64 s.win,.int .i64 s.flg,.slice a l c] 41)).alloc (.cells #[.int .i64 0,.int .i64 0,.int .i64 0,.int .i64 0,.int .i64 0,.int .i64 0,.int .i64 0,.int .i64 0,.int .i64 0,.int .i64 0,.int .i64 0,.int .i64 0,.bool false,.bool false,.int .i64 0] 45)=W1:=⟨_,rfl⟩
 rw [hW1] at h1
 have HB:=hidE (fun W (hB:Below w.heap.size w W)=>hb.below (Nat.le_refl _) hB)
 have hc:=ltime_any b t va now W1 h1.tb
 rw [hz] at hc
 have HZ:=hidE hz
 have HHS:=hidE hhs
 clear hhs
 clear hb hz
 unfold keyV segV
 go_enter Tryz.func10,Tryz.ntmps10
 go_upto_region 1 with fail
 try rw [hW1]
 clear hW1
 go_upto_region 4 with (go_at_call 25;go_must (refine hc.mono ?_;rintro e W2 ⟨rfl,hw⟩;rw [hw];clear hw W2))
 clear hc
 have hlt:=later_any b t va now W1 h1.tb HZ.out hlen
 go_upto_region 5 with (go_at_call 27;go_must (refine hlt.mono ?_;rintro e W6 ⟨⟨X,v6,rfl,hx6,hlx,hvx⟩,b6⟩))
 have h6:=h1.step b6
 clear hlt b6 h1
 obtain ⟨t',ht'⟩:∃ t',({ max:=t.max,now:=now,fs:=leftL now t.fs }:Tb)=t':=⟨_,rfl⟩
 rw [ht'] at hx6
 have HT':=hidE ht'
 clear ht'
 have hl6:t'.fs.length≤1000:=by
  rw [← HT'.out]
  exact Nat.le_trans (List.length_filter_le _ _) hlen
 have hat:=lat_any X t' v6 k W6 hx6 hl6
 unfold keyV at hat
 obtain ⟨k0,k1,k2,k3,k4⟩:=h6.ky.cells
 have HHB:Hid (hasK t'.fs k=false):=by rw [← HT'.out];exact HHS.out
 go_upto_region 6 with (go_at_call 28;go_must (refine hat.mono ?_;rintro e W7 ⟨⟨r,rfl,hr⟩,b7⟩))
 have h7:=h6.step b7
 have hx7:=hx6.below b7
 have HR:=hidE hr
 clear hat b7 h6 hx6 k0 k1 k2 k3 k4 hr
 have hr1:r = -1:=by
  rcases HR.out with ⟨_,hr⟩|⟨i,_,_,hh,_⟩
  ·exact hr
  ·rw [HHB.out] at hh;cases hh
 subst hr1
 clear HR hx7
 obtain ⟨y0,y1,y2,y3,y4,y5,y6,y7,y8,y9,y10,y11,y12,y13,y14⟩:=h7.rs.frees
 obtain ⟨d0,d1,d2,d3,d4,d5,d6,d7,d8,d9,d10,d11,d12,d13,d14⟩:=zero_cells h7.rs
 obtain ⟨W9,hW9,g9,o9⟩:=fl_wipe h7.rs
 have HW9:=hidE hW9
 have HG9:=hidE g9
 have HB9:=hidE (o9.below (by omega) h7.bel)
 clear hW9 g9 o9
 go_wp2_with fail
 rw [HW9.out]
 clear y0 y1 y2 y3 y4 y5 y6 y7 y8 y9 y10 y11 y12 y13 y14 d0 d1 d2 d3 d4 d5 d6 d7 d8 d9 d10 d11 d12 d13 d14
 obtain ⟨c0,c1,c2,c3,c4,c5,c6,c7,c8,c9,c10,c11,c12,c13,c14⟩:=zero_cells HG9.out
 exact bodyPost_ret (v:=.tuple #[.agg #[.int .i64 0,.int .i64 0,.int .i64 0,.int .i64 0,.int .i64 0,.int .i64 0,.int .i64 0,.int .i64 0,.int .i64 0,.int .i64 0,.int .i64 0,.int .i64 0,.bool false,.bool false,.int .i64 0],.int .i64 5]) (by simp [results,Tryz.results10,go_sem,c0,c1,c2,c3,c4,c5,c6,c7,c8,c9,c10,c11,c12,c13,c14]) rfl ⟨rfl,HB9.out⟩
end Go.Proofs.YtkhheooofcpfdaaGreatDoor
namespace Go.Proofs.YtkhheooofcpfdaaGreatDoor
open Go.RowKit Go.Maps
set_option linter.unusedVariables false
structure OfW (w:World) (b:Nat) (t:Tb) (va:Value) (k:Ky) (s:Sg) (bv:Value) (X:Nat) (t':Tb) (g LL cap:Nat) (W:World):Prop where
 st:LgS w b t va k s bv W
 tb:LIn W X t' (.slice (some ⟨g,0,none⟩) LL cap)
theorem OfW.step {w:World} {b:Nat} {t:Tb} {va:Value} {k:Ky} {s:Sg} {bv:Value} {X:Nat} {t':Tb} {g LL cap:Nat} {W W':World} (h:OfW w b t va k s bv X t' g LL cap W) (hb:Below W.heap.size W W'):OfW w b t va k s bv X t' g LL cap W':=⟨h.st.step hb,h.tb.below hb⟩
theorem OfW.alloc {w:World} {b:Nat} {t:Tb} {va:Value} {k:Ky} {s:Sg} {bv:Value} {X:Nat} {t':Tb} {g LL cap:Nat} {W:World} (h:OfW w b t va k s bv X t' g LL cap W) (o:Obj):OfW w b t va k s bv X t' g LL cap (W.alloc o):=h.step ((Below.refl _ _).alloc (Nat.le_refl _) _)
theorem OfW.only {w:World} {b:Nat} {t:Tb} {va:Value} {k:Ky} {s:Sg} {bv:Value} {X:Nat} {t':Tb} {g LL cap Y:Nat} {W W':World} (h:OfW w b t va k s bv X t' g LL cap W) (o:Only Y W W') (hn:w.heap.size+2 < Y) (hX:X≠Y) (hg:g≠Y) (hv:∀ j,va.ownBlock=some j→j≠Y):OfW w b t va k s bv X t' g LL cap W' :=
 ⟨⟨h.st.ky.only (by omega) o,h.st.sg.only (by omega) o,h.st.rs.only (by omega) o,h.st.tb.blk (o.block b (by have:=h.st.lb;omega)) (fun j hj=>o.block j (hv j hj)),h.st.lb,o.below (by omega) h.st.bel⟩,h.tb.blk (o.block X hX) (fun j hj=>o.block j (fun e=>hg ((show g=j by simpa [Value.ownBlock] using hj).trans e)))⟩
theorem OfW.drew {w:World} {b:Nat} {t:Tb} {va:Value} {k:Ky} {s:Sg} {bv:Value} {X:Nat} {t':Tb} {g LL cap:Nat} {W:World} (h:OfW w b t va k s bv X t' g LL cap W):OfW w b t va k s bv X t' g LL cap W.drew:=h.step (below_drewN (Below.refl _ _) 1)
theorem ofw_of {w:World} {b:Nat} {t:Tb} {va:Value} {k:Ky} {s:Sg} {a:Option Addr} {l c:Nat} {X:Nat} {t':Tb} {g LL cap:Nat} {W:World} (h:OfW w b t va k s (.slice a l c) X t' g LL cap W) {i:Nat} {gg:Fl} (hi:∃ hi:i < t'.fs.length,t'.fs[i]=gg):(W.cell? ⟨g,i * 15,none⟩=some (.int .i64 gg.key.kind)∧W.cell? ⟨g,i * 15+1,none⟩=some (.int .i64 gg.key.src)∧W.cell? ⟨g,i * 15+2,none⟩=some (.int .i64 gg.key.frm)∧W.cell? ⟨g,i * 15+3,none⟩=some (.int .i64 gg.key.dst)∧W.cell? ⟨g,i * 15+4,none⟩=some (.int .i64 gg.key.too)∧W.cell? ⟨g,i * 15+5,none⟩=some (.int .i64 gg.st)∧W.cell? ⟨g,i * 15+6,none⟩=some (.int .i64 gg.unt)∧W.cell? ⟨g,i * 15+7,none⟩=some (.int .i64 gg.stp)∧W.cell? ⟨g,i * 15+8,none⟩=some (.int .i64 gg.h0)∧W.cell? ⟨g,i * 15+9,none⟩=some (.int .i64 gg.h1)∧W.cell? ⟨g,i * 15+10,none⟩=some (.int .i64 gg.w0)∧W.cell? ⟨g,i * 15+11,none⟩=some (.int .i64 gg.w1)∧W.cell? ⟨g,i * 15+12,none⟩=some (.bool gg.d0)∧W.cell? ⟨g,i * 15+13,none⟩=some (.bool gg.d1)∧W.cell? ⟨g,i * 15+14,none⟩=some (.int .i64 gg.num))∧(W.cell? ⟨w.heap.size+1,0,none⟩=some (.int .i64 s.frm)∧W.cell? ⟨w.heap.size+1,1,none⟩=some (.int .i64 s.too)∧W.cell? ⟨w.heap.size+1,2,none⟩=some (.int .i64 s.seq)∧W.cell? ⟨w.heap.size+1,3,none⟩=some (.int .i64 s.ack)∧W.cell? ⟨w.heap.size+1,4,none⟩=some (.int .i64 s.win)∧W.cell? ⟨w.heap.size+1,5,none⟩=some (.int .i64 s.flg)∧W.cell? ⟨w.heap.size+1,6,none⟩=some (.slice a l c))∧W.cell? ⟨X,2,none⟩=some (.slice (some ⟨g,0,none⟩) LL cap)∧OfW w b t va k s (.slice a l c) X t' g LL cap W:=by
 obtain ⟨hi,rfl⟩:=hi
 exact ⟨own_fl h.tb.own i hi,h.st.sg.cells,(l_cells h.tb.tab).2.2,h⟩
set_option maxRecDepth 100000 in
set_option maxHeartbeats 32000000 in
theorem lo_err (b:Nat) (t:Tb) (va:Value) (k:Ky) (s:Sg) (a:Option Addr) (l c:Nat) (now:Int) (w:World) (h:LIn w b t va) (hlen:t.fs.length≤1000) (hvb:va.ownBlock≠some b) (hb:Bytes w (.slice a l c) s.body) (z:Int) (hz:timE t now=0) (hhs:hasK (leftL now t.fs) k=true) (hst:stpE (getK (leftL now t.fs) k) s (sdK (getK (leftL now t.fs) k) k s) now=z) (h0:¬ z=0) :
  Calls Tryz.prog 10 #[.pointer (some ⟨b,0,none⟩),keyV k,segV s (.slice a l c),.int .i64 now] w fun e w'=>e = .returned (.tuple #[flV zeroF,.int .i64 z])∧Below w.heap.size w w':=by
 rw [show flV zeroF = .agg #[.int .i64 0,.int .i64 0,.int .i64 0,.int .i64 0,.int .i64 0,.int .i64 0,.int .i64 0,.int .i64 0,.int .i64 0,.int .i64 0,.int .i64 0,.int .i64 0,.bool false,.bool false,.int .i64 0] from rfl]
 have h1:=LgS.start w b t va k s (.slice a l c) h
 obtain ⟨W1,hW1⟩:∃ W1,((w.alloc (.cells #[.int .i64 k.kind,.int .i64 k.src,.int .i64 k.frm,.int .i64 k.dst,.int .i64 k.too] 37)).alloc (.cells #[.int .i64 s.frm,.int .i64 s.too,.int .i64 s.seq,.int .i64 s.ack,.int .i64 s.win,.int .i64 s.flg,.slice a l c] 41)).alloc (.cells #[.int .i64 0,.int .i64 0,.int .i64 0,.int .i64 0,.int .i64 0,.int .i64 0,.int .i64 0,.int .i64 0,.int .i64 0,.int .i64 0,.int .i64 0,.int .i64 0,.bool false,.bool false,.int .i64 0] 45)=W1:=⟨_,rfl⟩
 rw [hW1] at h1
 have HB:=hidE (fun W (hB:Below w.heap.size w W)=>hb.below (Nat.le_refl _) hB)
 have hc:=ltime_any b t va now W1 h1.tb
 rw [hz] at hc
 have HST:=hidE hst
 clear hst
 have HZ:=hidE hz
 have HHS:=hidE hhs
 clear hhs
 clear hb hz
 unfold keyV segV
 go_enter Tryz.func10,Tryz.ntmps10
 go_upto_region 1 with fail
 try rw [hW1]
 clear hW1
 go_upto_region 4 with (go_at_call 25;go_must (refine hc.mono ?_;rintro e W2 ⟨rfl,hw⟩;rw [hw];clear hw W2))
 clear hc
 have hlt:=later_any b t va now W1 h1.tb HZ.out hlen
 go_upto_region 5 with (go_at_call 27;go_must (refine hlt.mono ?_;rintro e W6 ⟨⟨X,v6,rfl,hx6,hlx,hvx⟩,b6⟩))
 have h6:=h1.step b6
 clear hlt b6 h1
 obtain ⟨t',ht'⟩:∃ t',({ max:=t.max,now:=now,fs:=leftL now t.fs }:Tb)=t':=⟨_,rfl⟩
 rw [ht'] at hx6
 have HT':=hidE ht'
 clear ht'
 have hl6:t'.fs.length≤1000:=by
  rw [← HT'.out]
  exact Nat.le_trans (List.length_filter_le _ _) hlen
 have hat:=lat_any X t' v6 k W6 hx6 hl6
 unfold keyV at hat
 obtain ⟨k0,k1,k2,k3,k4⟩:=h6.ky.cells
 have HHB:Hid (hasK t'.fs k=true):=by rw [← HT'.out];exact HHS.out
 go_upto_region 6 with (go_at_call 28;go_must (refine hat.mono ?_;rintro e W7 ⟨⟨r,rfl,hr⟩,b7⟩))
 have h7:=h6.step b7
 have hx7:=hx6.below b7
 have HR:=hidE hr
 clear hat b7 h6 hx6 k0 k1 k2 k3 k4 hr
 have HHB:Hid (hasK t'.fs k=true):=by rw [← HT'.out];exact HHS.out
 obtain ⟨i,hil,hir,hgi⟩:∃ i,∃ hi:i < t'.fs.length,r=(i:Int)∧getK t'.fs k=t'.fs[i]:=by
  rcases HR.out with ⟨hh,_⟩|⟨i,hi,hr,_,hg⟩
  ·rw [HHB.out] at hh;cases hh
  ·exact ⟨i,hi,hr,hg⟩
 subst hir
 clear HR
 have ow:=hx7.own
 obtain ⟨LL,hLL⟩:∃ LL,t'.fs.length=LL:=⟨_,rfl⟩
 obtain ⟨g,cap,he,_,hglt,hlc,hcm⟩:=OwnN.shape ow (by omega)
 rw [hLL] at he hlc
 subst he
 unfold maxLen at hcm
 have cc:=own_fl ow i hil
 have dec2:decide ((i:Int) ≥ 0)=true:=decide_eq_true (by omega)
 have dec4:decide ((i:Int) < 0)=false:=decide_eq_false (by omega)
 have i7:¬ (i:Int) < 0:=by omega
 have i8:(0:Int)≤(i:Int):=by omega
 have i9:(i:Int) < (LL:Int):=by omega
 have HGI:Hid (getK (leftL now t.fs) k=t'.fs[i]):=by show _=_;rw [← hgi,← HT'.out]
 obtain ⟨gg,hgg⟩:∃ gg,t'.fs[i]=gg:=⟨_,rfl⟩
 rw [hgg] at cc
 have HGG:Hid (getK (leftL now t.fs) k=gg):=by show _=_;rw [HGI.out,hgg]
 have HGE:=hidE hgg
 clear HGI hgi hgg
 go_upto_region 9 with fail
 have HCC:=hidE cc
 obtain ⟨q0,q1,q2,q3,q4,_⟩:=cc
 obtain ⟨k0,k1,k2,k3,k4⟩:=h7.ky.cells
 have q0:=Ext.cell q0
 have q1:=Ext.cell q1
 have q2:=Ext.cell q2
 have q3:=Ext.cell q3
 have q4:=Ext.cell q4
 have k0:=Ext.cell k0
 have k1:=Ext.cell k1
 have k2:=Ext.cell k2
 have k3:=Ext.cell k3
 have k4:=Ext.cell k4
 have c2:=Ext.cell ((l_cells hx7.tab).2.2)
 have heq:=Tryz.keyEqlG gg.key k
 obtain ⟨d,hd⟩:∃ d,decide (gg.key=k)=d:=⟨_,rfl⟩
 rw [hd] at heq
 have HD:=hidE hd
 clear hd
 refine wp_region_ext (by kernel_rfl) (by kernel_rfl) ?_
 repeat (go_big_quiet_step (fail))
 refine wpQuiet_nil ?_
 rintro _ ⟨u,rfl⟩
 have h8:=h7.step u.h
 have hx8:=hx7.below u.h
 obtain ⟨W8,hW8⟩:∃ W8,u.W=W8:=⟨_,rfl⟩
 rw [hW8] at h8 hx8 ⊢
 clear hW8 h7 hx7 q0 q1 q2 q3 q4 k0 k1 k2 k3 k4 c2 heq
 first|go_cut [13] (fun v wr=>v = .int .i64 (if d=true then 0 else 1)∧wr=W8)|(go_step;go_cut [13] (fun v wr=>v = .int .i64 (if d=true then 0 else 1)∧wr=W8))|(go_step;go_step;go_cut [13] (fun v wr=>v = .int .i64 (if d=true then 0 else 1)∧wr=W8))|(go_step;go_step;go_step;go_cut [13] (fun v wr=>v = .int .i64 (if d=true then 0 else 1)∧wr=W8))|(go_step;go_step;go_step;go_step;go_cut [13] (fun v wr=>v = .int .i64 (if d=true then 0 else 1)∧wr=W8))
 case first =>
  cases d
  ·go_wp2_with fail
   go_meet
   case rel=>exact ⟨rfl,rfl⟩
  ·go_wp2_with fail
   go_meet
   case rel=>exact ⟨rfl,rfl⟩
 case rest =>
 obtain ⟨rfl,hw⟩:=hcut
 subst hw
 obtain ⟨W9,hW9⟩:∃ X9,wc=X9:=⟨_,rfl⟩
 rw [hW9] at h8 hx8 ⊢
 clear hW9
 have h9:=h8
 have hx9:=hx8
 clear h8 hx8
 obtain ⟨k0,k1,k2,k3,k4⟩:=h9.ky.cells
 obtain ⟨s0,s1,s2,s3,s4,s5,s6⟩:=h9.sg.cells
 obtain ⟨sd,hsd⟩:∃ sd,sdK gg k s=sd:=⟨_,rfl⟩
 have HSD:=hidE hsd
 have HC:Hid (sd=if d=false∨((k.kind == 3)=true∧(k.src == k.dst)=true∧(s.frm == 1)=true) then 1 else 0):=by
  show sd=_
  have hk:(¬ k=gg.key) ↔ d=false:=by rw [← HD.out];simp [eq_comm]
  rw [← hsd]
  unfold sdK
  simp only [hk,beq_iff_eq]
 clear hsd
 first|go_cut [13] (fun v wr=>v = .int .i64 sd∧wr=W9)|(go_step;go_cut [13] (fun v wr=>v = .int .i64 sd∧wr=W9))|(go_step;go_step;go_cut [13] (fun v wr=>v = .int .i64 sd∧wr=W9))|(go_step;go_step;go_step;go_cut [13] (fun v wr=>v = .int .i64 sd∧wr=W9))
 case first =>
  cases e0:(k.kind == 3) <;> cases e1:(k.src == k.dst) <;> cases e2:(s.frm == 1) <;> cases d
  all_goals (go_wp2_with fail;go_meet;case rel=>exact ⟨by rw [HC.out];simp [e0,e1,e2],rfl⟩)
 case rest =>
 obtain ⟨rfl,hw⟩:=hcut
 subst hw
 clear k0 k1 k2 k3 k4 s0 s1 s2 s3 s4 s5 s6 HC
 try go_step
 have HIG:Hid (∃ hi:i < t'.fs.length,t'.fs[i]=gg):=⟨hil,HGE.out⟩
 obtain ⟨W10,hW10⟩:∃ X9,wc=X9:=⟨_,rfl⟩
 rw [hW10] at h9 hx9 ⊢
 clear hW10
 have hS0:OfW w b t va k s (.slice a l c) X t' g LL cap W10:=⟨h9,hx9⟩
 have hS:=ofw_of hS0 HIG.out
 have hst:=hidE (fun W (hB:OfW w b t va k s (.slice a l c) X t' g LL cap W)=>refStep_any gg s (.slice a l c) sd now W (HB.out W hB.st.bel))
 have HST2:Hid (stpE gg s sd now=z):=by show _=z;rw [← HST.out,HGG.out,HSD.out]
 rw [HST2.out] at hst
 obtain ⟨f,hf⟩:∃ f,stpF gg s sd now=f:=⟨_,rfl⟩
 rw [hf] at hst
 clear hf
 unfold flV segV at hst
 have HYN:Hid (w.heap.size+2 < W10.heap.size∧X≠W10.heap.size∧g≠W10.heap.size∧∀ j,va.ownBlock=some j→j≠W10.heap.size):=by
  have a1:=h9.rs.lt
  have a2:=hx9.lt
  have a3:=(OwnN.block hx9.own g (by simp [Value.ownBlock])).2
  exact ⟨a1,by omega,by omega,fun j hj=>by have:=(OwnN.block h9.tb.own j hj).2;omega⟩
 have HSTO:Hid (∀ W,OfW w b t va k s (.slice a l c) X t' g LL cap W→FlAt W W10.heap.size zeroF→OfW w b t va k s (.slice a l c) X t' g LL cap (((((((((((((((W.setCell ⟨W10.heap.size,0,none⟩ (.int .i64 f.key.kind)).setCell ⟨W10.heap.size,1,none⟩ (.int .i64 f.key.src)).setCell ⟨W10.heap.size,2,none⟩ (.int .i64 f.key.frm)).setCell ⟨W10.heap.size,3,none⟩ (.int .i64 f.key.dst)).setCell ⟨W10.heap.size,4,none⟩ (.int .i64 f.key.too)).setCell ⟨W10.heap.size,5,none⟩ (.int .i64 f.st)).setCell ⟨W10.heap.size,6,none⟩ (.int .i64 f.unt)).setCell ⟨W10.heap.size,7,none⟩ (.int .i64 f.stp)).setCell ⟨W10.heap.size,8,none⟩ (.int .i64 f.h0)).setCell ⟨W10.heap.size,9,none⟩ (.int .i64 f.h1)).setCell ⟨W10.heap.size,10,none⟩ (.int .i64 f.w0)).setCell ⟨W10.heap.size,11,none⟩ (.int .i64 f.w1)).setCell ⟨W10.heap.size,12,none⟩ (.bool f.d0)).setCell ⟨W10.heap.size,13,none⟩ (.bool f.d1)).setCell ⟨W10.heap.size,14,none⟩ (.int .i64 f.num))):=fun W hW hY=>by
  obtain ⟨W',e,_,o⟩:=hY.store f
  rw [e]
  exact hW.only o HYN.out.1 HYN.out.2.1 HYN.out.2.2.1 HYN.out.2.2.2
 have HREL:Hid (∀ W,OfW w b t va k s (.slice a l c) X t' g LL cap W→FlAt W W10.heap.size zeroF→Hid (LgS w b t va k s (.slice a l c) ((((((((((((((((W.setCell ⟨W10.heap.size,0,none⟩ (.int .i64 f.key.kind)).setCell ⟨W10.heap.size,1,none⟩ (.int .i64 f.key.src)).setCell ⟨W10.heap.size,2,none⟩ (.int .i64 f.key.frm)).setCell ⟨W10.heap.size,3,none⟩ (.int .i64 f.key.dst)).setCell ⟨W10.heap.size,4,none⟩ (.int .i64 f.key.too)).setCell ⟨W10.heap.size,5,none⟩ (.int .i64 f.st)).setCell ⟨W10.heap.size,6,none⟩ (.int .i64 f.unt)).setCell ⟨W10.heap.size,7,none⟩ (.int .i64 f.stp)).setCell ⟨W10.heap.size,8,none⟩ (.int .i64 f.h0)).setCell ⟨W10.heap.size,9,none⟩ (.int .i64 f.h1)).setCell ⟨W10.heap.size,10,none⟩ (.int .i64 f.w0)).setCell ⟨W10.heap.size,11,none⟩ (.int .i64 f.w1)).setCell ⟨W10.heap.size,12,none⟩ (.bool f.d0)).setCell ⟨W10.heap.size,13,none⟩ (.bool f.d1)).setCell ⟨W10.heap.size,14,none⟩ (.int .i64 f.num)))∧FlAt ((((((((((((((((W.setCell ⟨W10.heap.size,0,none⟩ (.int .i64 f.key.kind)).setCell ⟨W10.heap.size,1,none⟩ (.int .i64 f.key.src)).setCell ⟨W10.heap.size,2,none⟩ (.int .i64 f.key.frm)).setCell ⟨W10.heap.size,3,none⟩ (.int .i64 f.key.dst)).setCell ⟨W10.heap.size,4,none⟩ (.int .i64 f.key.too)).setCell ⟨W10.heap.size,5,none⟩ (.int .i64 f.st)).setCell ⟨W10.heap.size,6,none⟩ (.int .i64 f.unt)).setCell ⟨W10.heap.size,7,none⟩ (.int .i64 f.stp)).setCell ⟨W10.heap.size,8,none⟩ (.int .i64 f.h0)).setCell ⟨W10.heap.size,9,none⟩ (.int .i64 f.h1)).setCell ⟨W10.heap.size,10,none⟩ (.int .i64 f.w0)).setCell ⟨W10.heap.size,11,none⟩ (.int .i64 f.w1)).setCell ⟨W10.heap.size,12,none⟩ (.bool f.d0)).setCell ⟨W10.heap.size,13,none⟩ (.bool f.d1)).setCell ⟨W10.heap.size,14,none⟩ (.int .i64 f.num))) W10.heap.size f)):=fun W hW hY=>by
  show LgS _ _ _ _ _ _ _ _∧_
  obtain ⟨W',e,p,o⟩:=hY.store f
  rw [e]
  exact ⟨(hW.only o HYN.out.1 HYN.out.2.1 HYN.out.2.2.1 HYN.out.2.2.2).st,p⟩
 first|go_cut [14,10] (fun p e wr=>∃ Y,p = .pointer (some ⟨Y,0,none⟩)∧e = .int .i64 z∧w.heap.size+2 < Y∧Hid (LgS w b t va k s (.slice a l c) wr∧FlAt wr Y f))|(go_step;go_cut [14,10] (fun p e wr=>∃ Y,p = .pointer (some ⟨Y,0,none⟩)∧e = .int .i64 z∧w.heap.size+2 < Y∧Hid (LgS w b t va k s (.slice a l c) wr∧FlAt wr Y f)))|(go_step;go_step;go_cut [14,10] (fun p e wr=>∃ Y,p = .pointer (some ⟨Y,0,none⟩)∧e = .int .i64 z∧w.heap.size+2 < Y∧Hid (LgS w b t va k s (.slice a l c) wr∧FlAt wr Y f)))
 case first =>
  go_region_held3 (fun W=>(W.cell? ⟨g,i * 15,none⟩=some (.int .i64 gg.key.kind)∧W.cell? ⟨g,i * 15+1,none⟩=some (.int .i64 gg.key.src)∧W.cell? ⟨g,i * 15+2,none⟩=some (.int .i64 gg.key.frm)∧W.cell? ⟨g,i * 15+3,none⟩=some (.int .i64 gg.key.dst)∧W.cell? ⟨g,i * 15+4,none⟩=some (.int .i64 gg.key.too)∧W.cell? ⟨g,i * 15+5,none⟩=some (.int .i64 gg.st)∧W.cell? ⟨g,i * 15+6,none⟩=some (.int .i64 gg.unt)∧W.cell? ⟨g,i * 15+7,none⟩=some (.int .i64 gg.stp)∧W.cell? ⟨g,i * 15+8,none⟩=some (.int .i64 gg.h0)∧W.cell? ⟨g,i * 15+9,none⟩=some (.int .i64 gg.h1)∧W.cell? ⟨g,i * 15+10,none⟩=some (.int .i64 gg.w0)∧W.cell? ⟨g,i * 15+11,none⟩=some (.int .i64 gg.w1)∧W.cell? ⟨g,i * 15+12,none⟩=some (.bool gg.d0)∧W.cell? ⟨g,i * 15+13,none⟩=some (.bool gg.d1)∧W.cell? ⟨g,i * 15+14,none⟩=some (.int .i64 gg.num))∧(W.cell? ⟨w.heap.size+1,0,none⟩=some (.int .i64 s.frm)∧W.cell? ⟨w.heap.size+1,1,none⟩=some (.int .i64 s.too)∧W.cell? ⟨w.heap.size+1,2,none⟩=some (.int .i64 s.seq)∧W.cell? ⟨w.heap.size+1,3,none⟩=some (.int .i64 s.ack)∧W.cell? ⟨w.heap.size+1,4,none⟩=some (.int .i64 s.win)∧W.cell? ⟨w.heap.size+1,5,none⟩=some (.int .i64 s.flg)∧W.cell? ⟨w.heap.size+1,6,none⟩=some (.slice a l c))∧W.cell? ⟨X,2,none⟩=some (.slice (some ⟨g,0,none⟩) LL cap)∧OfW w b t va k s (.slice a l c) X t' g LL cap W) (with_reducible first|assumption|exact ofw_of (HSTO.out _ (by assumption) (by assumption)) HIG.out|exact ofw_of (by assumption) HIG.out|exact ofw_of (OfW.drew (And.right (And.right (And.right (by assumption))))) HIG.out|exact ofw_of (OfW.drew (by assumption)) HIG.out|exact ofw_of (OfW.alloc (And.right (And.right (And.right (by assumption)))) _) HIG.out|exact ofw_of (OfW.drew (OfW.alloc (And.right (And.right (And.right (by assumption)))) _)) HIG.out|exact ofw_of (OfW.alloc (by assumption) _) HIG.out|exact ofw_of (OfW.drew (OfW.alloc (by assumption) _)) HIG.out|go_keep) (first
   | (go_at_call 34;refine (hst.out _ (And.right (And.right (And.right (by assumption))))).mono ?_;rintro e w19 ⟨rfl,b19⟩;have hS19:=OfW.step (And.right (And.right (And.right (by assumption))):OfW w b t va k s _ X t' g LL cap _) b19;try (have hY19:FlAt w19 W10.heap.size zeroF:=FlAt.below (FlAt.zero W10.drew) (FlAt.zero W10.drew).lt b19;obtain ⟨y0,y1,y2,y3,y4,y5,y6,y7,y8,y9,y10,y11,y12,y13,y14⟩:=FlAt.frees hY19;obtain ⟨d0,d1,d2,d3,d4,d5,d6,d7,d8,d9,d10,d11,d12,d13,d14⟩:=zero_cells hY19)))
  ·go_wp2_with fail
   go_meet
   case rel=>exact ⟨_,rfl,rfl,hS19.st.rs.lt,⟨(hS19.alloc _).st,FlAt.new w19 f⟩⟩
  ·go_wp2_with fail
   go_meet
   case rel=>exact ⟨_,rfl,rfl,HYN.out.1,HREL.out _ hS19 hY19⟩
 case rest =>
 obtain ⟨Y,rfl,rfl,hYlt,HF⟩:=hcut
 have h13:=HF.out.1
 have p13:=HF.out.2
 obtain ⟨W13,hW13⟩:∃ X9,wc=X9:=⟨_,rfl⟩
 rw [hW13] at h13 p13 ⊢
 clear hW13 HF hS hS0 hst h9 hx9 HSTO HREL HYN HIG
 have i1:(z != 0)=true:=by simpa using h0
 clear h0 p13
 obtain ⟨y0,y1,y2,y3,y4,y5,y6,y7,y8,y9,y10,y11,y12,y13,y14⟩:=h13.rs.frees
 obtain ⟨d0,d1,d2,d3,d4,d5,d6,d7,d8,d9,d10,d11,d12,d13,d14⟩:=zero_cells h13.rs
 obtain ⟨W9,hW9,g9,o9⟩:=fl_wipe h13.rs
 have HW9:=hidE hW9
 have HG9:=hidE g9
 have HB9:=hidE (o9.below (by omega) h13.bel)
 clear hW9 g9 o9
 go_wp2_with fail
 rw [HW9.out]
 clear y0 y1 y2 y3 y4 y5 y6 y7 y8 y9 y10 y11 y12 y13 y14 d0 d1 d2 d3 d4 d5 d6 d7 d8 d9 d10 d11 d12 d13 d14
 obtain ⟨c0,c1,c2,c3,c4,c5,c6,c7,c8,c9,c10,c11,c12,c13,c14⟩:=zero_cells HG9.out
 exact bodyPost_ret (v:=.tuple #[.agg #[.int .i64 0,.int .i64 0,.int .i64 0,.int .i64 0,.int .i64 0,.int .i64 0,.int .i64 0,.int .i64 0,.int .i64 0,.int .i64 0,.int .i64 0,.int .i64 0,.bool false,.bool false,.int .i64 0],.int .i64 z]) (by simp [results,Tryz.results10,go_sem,c0,c1,c2,c3,c4,c5,c6,c7,c8,c9,c10,c11,c12,c13,c14]) rfl ⟨rfl,HB9.out⟩
end Go.Proofs.YtkhheooofcpfdaaGreatDoor
namespace Go.Proofs.YtkhheooofcpfdaaGreatDoor
open Go.RowKit Go.Maps
set_option linter.unusedVariables false
set_option maxRecDepth 100000 in
set_option maxHeartbeats 32000000 in
theorem lo_ok (b:Nat) (t:Tb) (va:Value) (k:Ky) (s:Sg) (a:Option Addr) (l c:Nat) (now:Int) (w:World) (h:LIn w b t va) (hlen:t.fs.length≤1000) (hvb:va.ownBlock≠some b) (hb:Bytes w (.slice a l c) s.body) (z:Int) (hz:timE t now=0) (hhs:hasK (leftL now t.fs) k=true) (hst:stpE (getK (leftL now t.fs) k) s (sdK (getK (leftL now t.fs) k) k s) now=z) (h0:z=0) :
  Calls Tryz.prog 10 #[.pointer (some ⟨b,0,none⟩),keyV k,segV s (.slice a l c),.int .i64 now] w fun e w'=>e = .returned (.tuple #[flV (stpF (getK (leftL now t.fs) k) s (sdK (getK (leftL now t.fs) k) k s) now),.int .i64 0])∧(∃ v',LIn w' b { max:=t.max,now:=now,fs:=insL (stpF (getK (leftL now t.fs) k) s (sdK (getK (leftL now t.fs) k) k s) now) (leftL now t.fs) } v'∧v'.ownBlock≠some b)∧w.grownBy w' (some b):=by
 obtain ⟨Q,hQ⟩:∃ Q:Ending→World→Prop,Q=fun e w'=>e = .returned (.tuple #[flV (stpF (getK (leftL now t.fs) k) s (sdK (getK (leftL now t.fs) k) k s) now),.int .i64 0])∧(∃ v',LIn w' b { max:=t.max,now:=now,fs:=insL (stpF (getK (leftL now t.fs) k) s (sdK (getK (leftL now t.fs) k) k s) now) (leftL now t.fs) } v'∧v'.ownBlock≠some b)∧w.grownBy w' (some b):=⟨_,rfl⟩
 have HQ:=hidE hQ
 rw [← hQ]
 clear hQ
 have HVB:=hidE hvb
 have H0:=hidE h0
 clear h0
 have h1:=LgS.start w b t va k s (.slice a l c) h
 obtain ⟨W1,hW1⟩:∃ W1,((w.alloc (.cells #[.int .i64 k.kind,.int .i64 k.src,.int .i64 k.frm,.int .i64 k.dst,.int .i64 k.too] 37)).alloc (.cells #[.int .i64 s.frm,.int .i64 s.too,.int .i64 s.seq,.int .i64 s.ack,.int .i64 s.win,.int .i64 s.flg,.slice a l c] 41)).alloc (.cells #[.int .i64 0,.int .i64 0,.int .i64 0,.int .i64 0,.int .i64 0,.int .i64 0,.int .i64 0,.int .i64 0,.int .i64 0,.int .i64 0,.int .i64 0,.int .i64 0,.bool false,.bool false,.int .i64 0] 45)=W1:=⟨_,rfl⟩
 rw [hW1] at h1
 have HB:=hidE (fun W (hB:Below w.heap.size w W)=>hb.below (Nat.le_refl _) hB)
 have hc:=ltime_any b t va now W1 h1.tb
 rw [hz] at hc
 have HST:=hidE hst
 clear hst
 have HZ:=hidE hz
 have HHS:=hidE hhs
 clear hhs
 clear hb hz
 unfold keyV segV
 go_enter Tryz.func10,Tryz.ntmps10
 go_upto_region 1 with fail
 try rw [hW1]
 clear hW1
 go_upto_region 4 with (go_at_call 25;go_must (refine hc.mono ?_;rintro e W2 ⟨rfl,hw⟩;rw [hw];clear hw W2))
 clear hc
 have hlt:=later_any b t va now W1 h1.tb HZ.out hlen
 go_upto_region 5 with (go_at_call 27;go_must (refine hlt.mono ?_;rintro e W6 ⟨⟨X,v6,rfl,hx6,hlx,hvx⟩,b6⟩))
 have h6:=h1.step b6
 clear hlt b6 h1
 obtain ⟨t',ht'⟩:∃ t',({ max:=t.max,now:=now,fs:=leftL now t.fs }:Tb)=t':=⟨_,rfl⟩
 rw [ht'] at hx6
 have HT':=hidE ht'
 clear ht'
 have hl6:t'.fs.length≤1000:=by
  rw [← HT'.out]
  exact Nat.le_trans (List.length_filter_le _ _) hlen
 have hat:=lat_any X t' v6 k W6 hx6 hl6
 unfold keyV at hat
 obtain ⟨k0,k1,k2,k3,k4⟩:=h6.ky.cells
 have HHB:Hid (hasK t'.fs k=true):=by rw [← HT'.out];exact HHS.out
 go_upto_region 6 with (go_at_call 28;go_must (refine hat.mono ?_;rintro e W7 ⟨⟨r,rfl,hr⟩,b7⟩))
 have h7:=h6.step b7
 have hx7:=hx6.below b7
 have HR:=hidE hr
 clear hat b7 h6 hx6 k0 k1 k2 k3 k4 hr
 have HHB:Hid (hasK t'.fs k=true):=by rw [← HT'.out];exact HHS.out
 obtain ⟨i,hil,hir,hgi⟩:∃ i,∃ hi:i < t'.fs.length,r=(i:Int)∧getK t'.fs k=t'.fs[i]:=by
  rcases HR.out with ⟨hh,_⟩|⟨i,hi,hr,_,hg⟩
  ·rw [HHB.out] at hh;cases hh
  ·exact ⟨i,hi,hr,hg⟩
 subst hir
 clear HR
 have ow:=hx7.own
 obtain ⟨LL,hLL⟩:∃ LL,t'.fs.length=LL:=⟨_,rfl⟩
 obtain ⟨g,cap,he,_,hglt,hlc,hcm⟩:=OwnN.shape ow (by omega)
 rw [hLL] at he hlc
 subst he
 unfold maxLen at hcm
 have cc:=own_fl ow i hil
 have dec2:decide ((i:Int) ≥ 0)=true:=decide_eq_true (by omega)
 have dec4:decide ((i:Int) < 0)=false:=decide_eq_false (by omega)
 have i7:¬ (i:Int) < 0:=by omega
 have i8:(0:Int)≤(i:Int):=by omega
 have i9:(i:Int) < (LL:Int):=by omega
 have HGI:Hid (getK (leftL now t.fs) k=t'.fs[i]):=by show _=_;rw [← hgi,← HT'.out]
 obtain ⟨gg,hgg⟩:∃ gg,t'.fs[i]=gg:=⟨_,rfl⟩
 rw [hgg] at cc
 have HGG:Hid (getK (leftL now t.fs) k=gg):=by show _=_;rw [HGI.out,hgg]
 have HGE:=hidE hgg
 clear HGI hgi hgg
 go_upto_region 9 with fail
 have HCC:=hidE cc
 obtain ⟨q0,q1,q2,q3,q4,_⟩:=cc
 obtain ⟨k0,k1,k2,k3,k4⟩:=h7.ky.cells
 have q0:=Ext.cell q0
 have q1:=Ext.cell q1
 have q2:=Ext.cell q2
 have q3:=Ext.cell q3
 have q4:=Ext.cell q4
 have k0:=Ext.cell k0
 have k1:=Ext.cell k1
 have k2:=Ext.cell k2
 have k3:=Ext.cell k3
 have k4:=Ext.cell k4
 have c2:=Ext.cell ((l_cells hx7.tab).2.2)
 have heq:=Tryz.keyEqlG gg.key k
 obtain ⟨d,hd⟩:∃ d,decide (gg.key=k)=d:=⟨_,rfl⟩
 rw [hd] at heq
 have HD:=hidE hd
 clear hd
 refine wp_region_ext (by kernel_rfl) (by kernel_rfl) ?_
 repeat (go_big_quiet_step (fail))
 refine wpQuiet_nil ?_
 rintro _ ⟨u,rfl⟩
 have h8:=h7.step u.h
 have hx8:=hx7.below u.h
 obtain ⟨W8,hW8⟩:∃ W8,u.W=W8:=⟨_,rfl⟩
 rw [hW8] at h8 hx8 ⊢
 clear hW8 h7 hx7 q0 q1 q2 q3 q4 k0 k1 k2 k3 k4 c2 heq
 first|go_cut [13] (fun v wr=>v = .int .i64 (if d=true then 0 else 1)∧wr=W8)|(go_step;go_cut [13] (fun v wr=>v = .int .i64 (if d=true then 0 else 1)∧wr=W8))|(go_step;go_step;go_cut [13] (fun v wr=>v = .int .i64 (if d=true then 0 else 1)∧wr=W8))|(go_step;go_step;go_step;go_cut [13] (fun v wr=>v = .int .i64 (if d=true then 0 else 1)∧wr=W8))|(go_step;go_step;go_step;go_step;go_cut [13] (fun v wr=>v = .int .i64 (if d=true then 0 else 1)∧wr=W8))
 case first =>
  cases d
  ·go_wp2_with fail
   go_meet
   case rel=>exact ⟨rfl,rfl⟩
  ·go_wp2_with fail
   go_meet
   case rel=>exact ⟨rfl,rfl⟩
 case rest =>
 obtain ⟨rfl,hw⟩:=hcut
 subst hw
 obtain ⟨W9,hW9⟩:∃ X9,wc=X9:=⟨_,rfl⟩
 rw [hW9] at h8 hx8 ⊢
 clear hW9
 have h9:=h8
 have hx9:=hx8
 clear h8 hx8
 obtain ⟨k0,k1,k2,k3,k4⟩:=h9.ky.cells
 obtain ⟨s0,s1,s2,s3,s4,s5,s6⟩:=h9.sg.cells
 obtain ⟨sd,hsd⟩:∃ sd,sdK gg k s=sd:=⟨_,rfl⟩
 have HSD:=hidE hsd
 have HC:Hid (sd=if d=false∨((k.kind == 3)=true∧(k.src == k.dst)=true∧(s.frm == 1)=true) then 1 else 0):=by
  show sd=_
  have hk:(¬ k=gg.key) ↔ d=false:=by rw [← HD.out];simp [eq_comm]
  rw [← hsd]
  unfold sdK
  simp only [hk,beq_iff_eq]
 clear hsd
 first|go_cut [13] (fun v wr=>v = .int .i64 sd∧wr=W9)|(go_step;go_cut [13] (fun v wr=>v = .int .i64 sd∧wr=W9))|(go_step;go_step;go_cut [13] (fun v wr=>v = .int .i64 sd∧wr=W9))|(go_step;go_step;go_step;go_cut [13] (fun v wr=>v = .int .i64 sd∧wr=W9))
 case first =>
  cases e0:(k.kind == 3) <;> cases e1:(k.src == k.dst) <;> cases e2:(s.frm == 1) <;> cases d
  all_goals (go_wp2_with fail;go_meet;case rel=>exact ⟨by rw [HC.out];simp [e0,e1,e2],rfl⟩)
 case rest =>
 obtain ⟨rfl,hw⟩:=hcut
 subst hw
 clear k0 k1 k2 k3 k4 s0 s1 s2 s3 s4 s5 s6 HC
 try go_step
 have HIG:Hid (∃ hi:i < t'.fs.length,t'.fs[i]=gg):=⟨hil,HGE.out⟩
 obtain ⟨W10,hW10⟩:∃ X9,wc=X9:=⟨_,rfl⟩
 rw [hW10] at h9 hx9 ⊢
 clear hW10
 have hS0:OfW w b t va k s (.slice a l c) X t' g LL cap W10:=⟨h9,hx9⟩
 have hS:=ofw_of hS0 HIG.out
 have hst:=hidE (fun W (hB:OfW w b t va k s (.slice a l c) X t' g LL cap W)=>refStep_any gg s (.slice a l c) sd now W (HB.out W hB.st.bel))
 have HST2:Hid (stpE gg s sd now=z):=by show _=z;rw [← HST.out,HGG.out,HSD.out]
 rw [HST2.out] at hst
 obtain ⟨f,hf⟩:∃ f,stpF gg s sd now=f:=⟨_,rfl⟩
 rw [hf] at hst
 have HFF:Hid ((stpF (getK (leftL now t.fs) k) s (sdK (getK (leftL now t.fs) k) k s) now)=f):=by show _=_;rw [HGG.out,HSD.out];exact hf
 clear hf
 unfold flV segV at hst
 have HYN:Hid (w.heap.size+2 < W10.heap.size∧X≠W10.heap.size∧g≠W10.heap.size∧∀ j,va.ownBlock=some j→j≠W10.heap.size):=by
  have a1:=h9.rs.lt
  have a2:=hx9.lt
  have a3:=(OwnN.block hx9.own g (by simp [Value.ownBlock])).2
  exact ⟨a1,by omega,by omega,fun j hj=>by have:=(OwnN.block h9.tb.own j hj).2;omega⟩
 have HSTO:Hid (∀ W,OfW w b t va k s (.slice a l c) X t' g LL cap W→FlAt W W10.heap.size zeroF→OfW w b t va k s (.slice a l c) X t' g LL cap (((((((((((((((W.setCell ⟨W10.heap.size,0,none⟩ (.int .i64 f.key.kind)).setCell ⟨W10.heap.size,1,none⟩ (.int .i64 f.key.src)).setCell ⟨W10.heap.size,2,none⟩ (.int .i64 f.key.frm)).setCell ⟨W10.heap.size,3,none⟩ (.int .i64 f.key.dst)).setCell ⟨W10.heap.size,4,none⟩ (.int .i64 f.key.too)).setCell ⟨W10.heap.size,5,none⟩ (.int .i64 f.st)).setCell ⟨W10.heap.size,6,none⟩ (.int .i64 f.unt)).setCell ⟨W10.heap.size,7,none⟩ (.int .i64 f.stp)).setCell ⟨W10.heap.size,8,none⟩ (.int .i64 f.h0)).setCell ⟨W10.heap.size,9,none⟩ (.int .i64 f.h1)).setCell ⟨W10.heap.size,10,none⟩ (.int .i64 f.w0)).setCell ⟨W10.heap.size,11,none⟩ (.int .i64 f.w1)).setCell ⟨W10.heap.size,12,none⟩ (.bool f.d0)).setCell ⟨W10.heap.size,13,none⟩ (.bool f.d1)).setCell ⟨W10.heap.size,14,none⟩ (.int .i64 f.num))):=fun W hW hY=>by
  obtain ⟨W',e,_,o⟩:=hY.store f
  rw [e]
  exact hW.only o HYN.out.1 HYN.out.2.1 HYN.out.2.2.1 HYN.out.2.2.2
 have HREL:Hid (∀ W,OfW w b t va k s (.slice a l c) X t' g LL cap W→FlAt W W10.heap.size zeroF→Hid (LgS w b t va k s (.slice a l c) ((((((((((((((((W.setCell ⟨W10.heap.size,0,none⟩ (.int .i64 f.key.kind)).setCell ⟨W10.heap.size,1,none⟩ (.int .i64 f.key.src)).setCell ⟨W10.heap.size,2,none⟩ (.int .i64 f.key.frm)).setCell ⟨W10.heap.size,3,none⟩ (.int .i64 f.key.dst)).setCell ⟨W10.heap.size,4,none⟩ (.int .i64 f.key.too)).setCell ⟨W10.heap.size,5,none⟩ (.int .i64 f.st)).setCell ⟨W10.heap.size,6,none⟩ (.int .i64 f.unt)).setCell ⟨W10.heap.size,7,none⟩ (.int .i64 f.stp)).setCell ⟨W10.heap.size,8,none⟩ (.int .i64 f.h0)).setCell ⟨W10.heap.size,9,none⟩ (.int .i64 f.h1)).setCell ⟨W10.heap.size,10,none⟩ (.int .i64 f.w0)).setCell ⟨W10.heap.size,11,none⟩ (.int .i64 f.w1)).setCell ⟨W10.heap.size,12,none⟩ (.bool f.d0)).setCell ⟨W10.heap.size,13,none⟩ (.bool f.d1)).setCell ⟨W10.heap.size,14,none⟩ (.int .i64 f.num)))∧FlAt ((((((((((((((((W.setCell ⟨W10.heap.size,0,none⟩ (.int .i64 f.key.kind)).setCell ⟨W10.heap.size,1,none⟩ (.int .i64 f.key.src)).setCell ⟨W10.heap.size,2,none⟩ (.int .i64 f.key.frm)).setCell ⟨W10.heap.size,3,none⟩ (.int .i64 f.key.dst)).setCell ⟨W10.heap.size,4,none⟩ (.int .i64 f.key.too)).setCell ⟨W10.heap.size,5,none⟩ (.int .i64 f.st)).setCell ⟨W10.heap.size,6,none⟩ (.int .i64 f.unt)).setCell ⟨W10.heap.size,7,none⟩ (.int .i64 f.stp)).setCell ⟨W10.heap.size,8,none⟩ (.int .i64 f.h0)).setCell ⟨W10.heap.size,9,none⟩ (.int .i64 f.h1)).setCell ⟨W10.heap.size,10,none⟩ (.int .i64 f.w0)).setCell ⟨W10.heap.size,11,none⟩ (.int .i64 f.w1)).setCell ⟨W10.heap.size,12,none⟩ (.bool f.d0)).setCell ⟨W10.heap.size,13,none⟩ (.bool f.d1)).setCell ⟨W10.heap.size,14,none⟩ (.int .i64 f.num))) W10.heap.size f)):=fun W hW hY=>by
  show LgS _ _ _ _ _ _ _ _∧_
  obtain ⟨W',e,p,o⟩:=hY.store f
  rw [e]
  exact ⟨(hW.only o HYN.out.1 HYN.out.2.1 HYN.out.2.2.1 HYN.out.2.2.2).st,p⟩
 first|go_cut [14,10] (fun p e wr=>∃ Y,p = .pointer (some ⟨Y,0,none⟩)∧e = .int .i64 z∧w.heap.size+2 < Y∧Hid (LgS w b t va k s (.slice a l c) wr∧FlAt wr Y f))|(go_step;go_cut [14,10] (fun p e wr=>∃ Y,p = .pointer (some ⟨Y,0,none⟩)∧e = .int .i64 z∧w.heap.size+2 < Y∧Hid (LgS w b t va k s (.slice a l c) wr∧FlAt wr Y f)))|(go_step;go_step;go_cut [14,10] (fun p e wr=>∃ Y,p = .pointer (some ⟨Y,0,none⟩)∧e = .int .i64 z∧w.heap.size+2 < Y∧Hid (LgS w b t va k s (.slice a l c) wr∧FlAt wr Y f)))
 case first =>
  go_region_held3 (fun W=>(W.cell? ⟨g,i * 15,none⟩=some (.int .i64 gg.key.kind)∧W.cell? ⟨g,i * 15+1,none⟩=some (.int .i64 gg.key.src)∧W.cell? ⟨g,i * 15+2,none⟩=some (.int .i64 gg.key.frm)∧W.cell? ⟨g,i * 15+3,none⟩=some (.int .i64 gg.key.dst)∧W.cell? ⟨g,i * 15+4,none⟩=some (.int .i64 gg.key.too)∧W.cell? ⟨g,i * 15+5,none⟩=some (.int .i64 gg.st)∧W.cell? ⟨g,i * 15+6,none⟩=some (.int .i64 gg.unt)∧W.cell? ⟨g,i * 15+7,none⟩=some (.int .i64 gg.stp)∧W.cell? ⟨g,i * 15+8,none⟩=some (.int .i64 gg.h0)∧W.cell? ⟨g,i * 15+9,none⟩=some (.int .i64 gg.h1)∧W.cell? ⟨g,i * 15+10,none⟩=some (.int .i64 gg.w0)∧W.cell? ⟨g,i * 15+11,none⟩=some (.int .i64 gg.w1)∧W.cell? ⟨g,i * 15+12,none⟩=some (.bool gg.d0)∧W.cell? ⟨g,i * 15+13,none⟩=some (.bool gg.d1)∧W.cell? ⟨g,i * 15+14,none⟩=some (.int .i64 gg.num))∧(W.cell? ⟨w.heap.size+1,0,none⟩=some (.int .i64 s.frm)∧W.cell? ⟨w.heap.size+1,1,none⟩=some (.int .i64 s.too)∧W.cell? ⟨w.heap.size+1,2,none⟩=some (.int .i64 s.seq)∧W.cell? ⟨w.heap.size+1,3,none⟩=some (.int .i64 s.ack)∧W.cell? ⟨w.heap.size+1,4,none⟩=some (.int .i64 s.win)∧W.cell? ⟨w.heap.size+1,5,none⟩=some (.int .i64 s.flg)∧W.cell? ⟨w.heap.size+1,6,none⟩=some (.slice a l c))∧W.cell? ⟨X,2,none⟩=some (.slice (some ⟨g,0,none⟩) LL cap)∧OfW w b t va k s (.slice a l c) X t' g LL cap W) (with_reducible first|assumption|exact ofw_of (HSTO.out _ (by assumption) (by assumption)) HIG.out|exact ofw_of (by assumption) HIG.out|exact ofw_of (OfW.drew (And.right (And.right (And.right (by assumption))))) HIG.out|exact ofw_of (OfW.drew (by assumption)) HIG.out|exact ofw_of (OfW.alloc (And.right (And.right (And.right (by assumption)))) _) HIG.out|exact ofw_of (OfW.drew (OfW.alloc (And.right (And.right (And.right (by assumption)))) _)) HIG.out|exact ofw_of (OfW.alloc (by assumption) _) HIG.out|exact ofw_of (OfW.drew (OfW.alloc (by assumption) _)) HIG.out|go_keep) (first
   | (go_at_call 34;refine (hst.out _ (And.right (And.right (And.right (by assumption))))).mono ?_;rintro e w19 ⟨rfl,b19⟩;have hS19:=OfW.step (And.right (And.right (And.right (by assumption))):OfW w b t va k s _ X t' g LL cap _) b19;try (have hY19:FlAt w19 W10.heap.size zeroF:=FlAt.below (FlAt.zero W10.drew) (FlAt.zero W10.drew).lt b19;obtain ⟨y0,y1,y2,y3,y4,y5,y6,y7,y8,y9,y10,y11,y12,y13,y14⟩:=FlAt.frees hY19;obtain ⟨d0,d1,d2,d3,d4,d5,d6,d7,d8,d9,d10,d11,d12,d13,d14⟩:=zero_cells hY19)))
  ·go_wp2_with fail
   go_meet
   case rel=>exact ⟨_,rfl,rfl,hS19.st.rs.lt,⟨(hS19.alloc _).st,FlAt.new w19 f⟩⟩
  ·go_wp2_with fail
   go_meet
   case rel=>exact ⟨_,rfl,rfl,HYN.out.1,HREL.out _ hS19 hY19⟩
 case rest =>
 obtain ⟨Y,rfl,rfl,hYlt,HF⟩:=hcut
 have h13:=HF.out.1
 have p13:=HF.out.2
 obtain ⟨W13,hW13⟩:∃ X9,wc=X9:=⟨_,rfl⟩
 rw [hW13] at h13 p13 ⊢
 clear hW13 HF hS hS0 hst h9 hx9 HSTO HREL HYN HIG
 have h0:=H0.out
 subst h0
 have htk:=ltick_ok b t va now W13 h13.tb HZ.out hlen HVB.out
 go_upto_region 17 with (go_at_call 16;go_must (refine htk.mono ?_;rintro e W9 ⟨⟨vk,ks,rfl,ok9,ek9⟩,⟨v9,t9,n9⟩,g9⟩))
 have hbs:=h13.lb
 have bel8:=h13.bel
 have p9:FlAt W9 Y f:=by
  show W9.heap[Y]? = _
  rw [g9.block Y p13.lt (by simp;omega)];exact p13
 have r9:FlAt W9 (w.heap.size+2) zeroF:=by
  show W9.heap[w.heap.size+2]? = _
  rw [g9.block _ h13.rs.lt (by simp;omega)];exact h13.rs
 rw [HT'.out] at t9
 have BW9:Hid (w.grownBy W9 (some b)):=⟨g9.os.trans bel8.os,g9.tape.trans bel8.tape,g9.output.trans bel8.output,Nat.le_trans bel8.size g9.size,fun i hi hne=>(g9.block i (Nat.lt_of_lt_of_le hi bel8.size) hne).trans (bel8.block i hi)⟩
 have hly9:=p9.lt
 clear htk h13 p13 g9 n9 ok9 ek9 bel8
 have hp:=lput_any b t' v9 f W9 t9 hl6
 unfold flV at hp
 obtain ⟨e0,e1,e2,e3,e4,e5,e6,e7,e8,e9,e10,e11,e12,e13,e14⟩:=p9.cells
 go_upto_region 18 with (go_at_call 29;go_must (refine hp.mono ?_;rintro e W10 ⟨rfl,⟨v10,t10,n10⟩,g10⟩))
 have p10:FlAt W10 Y f:=by
  show W10.heap[Y]? = _
  rw [g10.block Y p9.lt (by simp;omega)];exact p9
 have r10:FlAt W10 (w.heap.size+2) zeroF:=by
  show W10.heap[w.heap.size+2]? = _
  rw [g10.block _ r9.lt (by simp;omega)];exact r9
 have BW10:Hid (w.grownBy W10 (some b)):=⟨g10.os.trans BW9.out.os,g10.tape.trans BW9.out.tape,g10.output.trans BW9.out.output,Nat.le_trans BW9.out.size g10.size,fun i hi hne=>(g10.block i (Nat.lt_of_lt_of_le hi BW9.out.size) hne).trans (BW9.out.block i hi hne)⟩
 have HN10:=hidE n10
 have HT10:=hidE t10
 have hs9:=r9.lt
 clear hp g10 n10 t10 p9 r9 BW9 t9 e0 e1 e2 e3 e4 e5 e6 e7 e8 e9 e10 e11 e12 e13 e14
 obtain ⟨e0,e1,e2,e3,e4,e5,e6,e7,e8,e9,e10,e11,e12,e13,e14⟩:=p10.cells
 obtain ⟨y0,y1,y2,y3,y4,y5,y6,y7,y8,y9,y10,y11,y12,y13,y14⟩:=r10.frees
 obtain ⟨d0,d1,d2,d3,d4,d5,d6,d7,d8,d9,d10,d11,d12,d13,d14⟩:=zero_cells r10
 obtain ⟨W11,hW11,g11,o11⟩:=r10.store f
 have HFIN:Hid (Q (.returned (.tuple #[.agg #[.int .i64 f.key.kind,.int .i64 f.key.src,.int .i64 f.key.frm,.int .i64 f.key.dst,.int .i64 f.key.too,.int .i64 f.st,.int .i64 f.unt,.int .i64 f.stp,.int .i64 f.h0,.int .i64 f.h1,.int .i64 f.w0,.int .i64 f.w1,.bool f.d0,.bool f.d1,.int .i64 f.num],.int .i64 0])) W11):=by
  have hfe:=HFF.out
  show Q _ _
  rw [HQ.out,hfe]
  have gw:=BW10.out
  refine ⟨rfl,⟨v10,?_,fun hc=>?_⟩,⟨o11.os.trans gw.os,o11.tape.trans gw.tape,o11.output.trans gw.output,by rw [o11.size];exact gw.size,fun i hi hne=>(o11.block i (by omega)).trans (gw.block i hi hne)⟩⟩
  ·have:=HT10.out
   rw [← HT'.out] at this
   exact this.blk (o11.block b (by omega)) (fun j hj=>o11.block j (by have:=HN10.out j hj;omega))
  ·have:=HN10.out b hc
   omega
 have HW11:=hidE hW11
 have HG11:=hidE g11
 clear hW11 g11 o11 p10 r10
 go_wp2_with fail
 rw [HW11.out]
 clear y0 y1 y2 y3 y4 y5 y6 y7 y8 y9 y10 y11 y12 y13 y14 d0 d1 d2 d3 d4 d5 d6 d7 d8 d9 d10 d11 d12 d13 d14 e0 e1 e2 e3 e4 e5 e6 e7 e8 e9 e10 e11 e12 e13 e14
 obtain ⟨c0,c1,c2,c3,c4,c5,c6,c7,c8,c9,c10,c11,c12,c13,c14⟩:=HG11.out.cells
 exact bodyPost_ret (v:=.tuple #[.agg #[.int .i64 f.key.kind,.int .i64 f.key.src,.int .i64 f.key.frm,.int .i64 f.key.dst,.int .i64 f.key.too,.int .i64 f.st,.int .i64 f.unt,.int .i64 f.stp,.int .i64 f.h0,.int .i64 f.h1,.int .i64 f.w0,.int .i64 f.w1,.bool f.d0,.bool f.d1,.int .i64 f.num],.int .i64 0]) (by simp [results,Tryz.results10,go_sem,c0,c1,c2,c3,c4,c5,c6,c7,c8,c9,c10,c11,c12,c13,c14]) rfl HFIN.out
end Go.Proofs.YtkhheooofcpfdaaGreatDoor
namespace Go.Proofs.YtkhheooofcpfdaaGreatDoor
open Go.RowKit Go.Maps
set_option linter.unusedVariables false
def loS (t:Tb) (k:Ky) (s:Sg) (now:Int):Tb:=if ofE t k s now=0 then { max:=t.max,now:=now,fs:=insL (ofG t k s now) (leftL now t.fs) } else t
theorem loffer_any (b:Nat) (t:Tb) (va:Value) (k:Ky) (s:Sg) (bv:Value) (now:Int) (w:World) (h:LIn w b t va) (hlen:t.fs.length≤1000) (hvb:va.ownBlock≠some b) (hb:Bytes w bv s.body) :
  Calls Tryz.prog 10 #[.pointer (some ⟨b,0,none⟩),keyV k,segV s bv,.int .i64 now] w fun e w'=>e = .returned (.tuple #[flV (ofF t k s now),.int .i64 (ofE t k s now)])∧(∃ v',LIn w' b (loS t k s now) v'∧v'.ownBlock≠some b)∧w.grownBy w' (some b):=by
 obtain ⟨a,c,rfl⟩:=len_body hb
 have no:∀ z:Int,¬ z=0→ofE t k s now=z→Calls Tryz.prog 10 #[.pointer (some ⟨b,0,none⟩),keyV k,segV s (.slice a s.body.length c),.int .i64 now] w (fun e w'=>e = .returned (.tuple #[flV zeroF,.int .i64 z])∧Below w.heap.size w w')→Calls Tryz.prog 10 #[.pointer (some ⟨b,0,none⟩),keyV k,segV s (.slice a s.body.length c),.int .i64 now] w (fun e w'=>e = .returned (.tuple #[flV (ofF t k s now),.int .i64 (ofE t k s now)])∧(∃ v',LIn w' b (loS t k s now) v'∧v'.ownBlock≠some b)∧w.grownBy w' (some b)):=by
  intro z h0 he hc
  have e0:¬ ofE t k s now=0:=by rw [he];exact h0
  refine hc.mono fun e w' ⟨h1,h2⟩=>?_
  refine ⟨?_,?_⟩
  ·rw [h1,he];unfold ofF;rw [if_neg e0]
  ·unfold loS;rw [if_neg e0];exact lin_no h hvb h2
 by_cases hz:timE t now=0
 case neg =>
  exact no _ hz (by unfold ofE;rw [if_pos hz]) (lo_time b t va k s a _ c now w h hlen hvb hb _ rfl hz)
 cases hhs:hasK (leftL now t.fs) k
 case false =>
  exact no 5 (by decide) (by unfold ofE;rw [if_neg (fun x=>x hz),if_pos hhs]) (lo_none b t va k s a _ c now w h hlen hvb hb hz hhs)
 have eE:ofE t k s now=stpE (getK (leftL now t.fs) k) s (sdK (getK (leftL now t.fs) k) k s) now:=by unfold ofE;rw [if_neg (fun x=>x hz),if_neg (by rw [hhs];decide)]
 by_cases hst:stpE (getK (leftL now t.fs) k) s (sdK (getK (leftL now t.fs) k) k s) now=0
 case neg =>
  exact no _ hst eE (lo_err b t va k s a _ c now w h hlen hvb hb _ hz hhs rfl hst)
 have e0:ofE t k s now=0:=by rw [eE,hst]
 refine (lo_ok b t va k s a _ c now w h hlen hvb hb _ hz hhs rfl hst).mono fun e w' ⟨h1,h2⟩=>?_
 refine ⟨?_,?_⟩
 ·rw [h1,e0];unfold ofF;rw [if_pos e0];rfl
 ·unfold loS;rw [if_pos e0];exact h2
end Go.Proofs.YtkhheooofcpfdaaGreatDoor
