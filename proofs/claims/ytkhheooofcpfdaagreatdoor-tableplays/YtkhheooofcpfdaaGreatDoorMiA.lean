/- The reference's Adopt of a table: the states that its walk goes through; where it refuses. -/
import Derived.Test.YtkhheooofcpfdaaGreatDoorMhA
import Derived.Test.YtkhheooofcpfdaaGreatDoorMgS
import Derived.Test.YtkhheooofcpfdaaGreatDoorMgY
import Derived.Test.YtkhheooofcpfdaaGreatDoorMgQ
import Derived.Test.YtkhheooofcpfdaaGreatDoorMgR
import Derived.Test.YtkhheooofcpfdaaGreatDoorMhB
import Derived.Test.YtkhheooofcpfdaaGreatDoorMhV
import Derived.Test.YtkhheooofcpfdaaGreatDoorMhW
import Derived.Test.YtkhheooofcpfdaaGreatDoorMhU
import Derived.Test.YtkhheooofcpfdaaGreatDoorMhS
import Derived.Test.YtkhheooofcpfdaaGreatDoorMgZ
import Derived.Test.YtkhheooofcpfdaaGreatDoorMgU
import Derived.Test.YtkhheooofcpfdaaGreatDoorMgE
import Derived.Deep.LoopGhost
import Derived.Deep.CutBlock
import Derived.Deep.CutRange
namespace Go.Proofs.YtkhheooofcpfdaaGreatDoor
open Go.RowKit Go.Maps
set_option linter.unusedVariables false
structure LaS (w:World) (b:Nat) (t:Tb) (va:Value) (f:Fl) (W:World):Prop where
 fl:FlAt W w.heap.size f
 tb:LIn W b t va
 lb:b < w.heap.size
 bel:Below w.heap.size w W
theorem LaS.start (w:World) (b:Nat) (t:Tb) (va:Value) (f:Fl) (h:LIn w b t va):LaS w b t va f (w.alloc (.cells #[.int .i64 f.key.kind,.int .i64 f.key.src,.int .i64 f.key.frm,.int .i64 f.key.dst,.int .i64 f.key.too,.int .i64 f.st,.int .i64 f.unt,.int .i64 f.stp,.int .i64 f.h0,.int .i64 f.h1,.int .i64 f.w0,.int .i64 f.w1,.bool f.d0,.bool f.d1,.int .i64 f.num] 45)):=⟨FlAt.new w f,h.alloc _,h.lt,(Below.refl _ _).alloc (Nat.le_refl _) _⟩
theorem LaS.step {w W W':World} {b:Nat} {t:Tb} {va:Value} {f:Fl} (h:LaS w b t va f W) (hb:Below W.heap.size W W'):LaS w b t va f W':=⟨h.fl.below h.fl.lt hb,h.tb.below hb,h.lb,h.bel.trans (hb.mono h.bel.size)⟩
set_option maxRecDepth 100000 in
set_option maxHeartbeats 32000000 in
theorem la_time (b:Nat) (t:Tb) (va:Value) (f:Fl) (now:Int) (w:World) (h:LIn w b t va) (hlen:t.fs.length≤1000) (hvb:va.ownBlock≠some b) (z:Int) (hz:timE t now=z) (h0:¬ z=0) :
  Calls Tryz.prog 12 #[.pointer (some ⟨b,0,none⟩),flV f,.int .i64 now] w fun e w'=>e = .returned (.tuple #[.bool false,.int .i64 z])∧Below w.heap.size w w':=by
 have h1:=LaS.start w b t va f h
 obtain ⟨W1,hW1⟩:∃ W1,w.alloc (.cells #[.int .i64 f.key.kind,.int .i64 f.key.src,.int .i64 f.key.frm,.int .i64 f.key.dst,.int .i64 f.key.too,.int .i64 f.st,.int .i64 f.unt,.int .i64 f.stp,.int .i64 f.h0,.int .i64 f.h1,.int .i64 f.w0,.int .i64 f.w1,.bool f.d0,.bool f.d1,.int .i64 f.num] 45)=W1:=⟨_,rfl⟩
 rw [hW1] at h1
 have hc:=ltime_any b t va now W1 h1.tb
 rw [hz] at hc
 have i1:(z != 0)=true:=by simpa using h0
 have i2:(z == 0)=false:=by simpa using h0
 have i3:decide (z=0)=false:=by simpa using h0
 clear hz
 unfold flV
 go_enter Tryz.func12,Tryz.ntmps12
 go_upto_region 1 with fail
 try rw [hW1]
 clear hW1
 have HB:=hidE h1.bel
 go_wp2_with (go_at_call 25;go_must (refine hc.mono ?_;rintro e W2 ⟨rfl,hw⟩;rw [hw];clear hw W2))
 go_ret2
 exact ⟨rfl,HB.out⟩
set_option maxRecDepth 100000 in
set_option maxHeartbeats 32000000 in
theorem la_chk (b:Nat) (t:Tb) (va:Value) (f:Fl) (now:Int) (w:World) (h:LIn w b t va) (hlen:t.fs.length≤1000) (hvb:va.ownBlock≠some b) (z:Int) (hz:timE t now=0) (hch:chkE f=z) (h0:¬ z=0) :
  Calls Tryz.prog 12 #[.pointer (some ⟨b,0,none⟩),flV f,.int .i64 now] w fun e w'=>e = .returned (.tuple #[.bool false,.int .i64 z])∧Below w.heap.size w w':=by
 have h1:=LaS.start w b t va f h
 obtain ⟨W1,hW1⟩:∃ W1,w.alloc (.cells #[.int .i64 f.key.kind,.int .i64 f.key.src,.int .i64 f.key.frm,.int .i64 f.key.dst,.int .i64 f.key.too,.int .i64 f.st,.int .i64 f.unt,.int .i64 f.stp,.int .i64 f.h0,.int .i64 f.h1,.int .i64 f.w0,.int .i64 f.w1,.bool f.d0,.bool f.d1,.int .i64 f.num] 45)=W1:=⟨_,rfl⟩
 rw [hW1] at h1
 have hc:=ltime_any b t va now W1 h1.tb
 rw [hz] at hc
 have i1:(z != 0)=true:=by simpa using h0
 have i2:(z == 0)=false:=by simpa using h0
 have i3:decide (z=0)=false:=by simpa using h0
 have hck:=refCheck_any f W1
 rw [hch] at hck
 unfold flV at hck
 obtain ⟨e0,e1,e2,e3,e4,e5,e6,e7,e8,e9,e10,e11,e12,e13,e14⟩:=h1.fl.cells
 clear hz hch
 unfold flV
 go_enter Tryz.func12,Tryz.ntmps12
 go_upto_region 1 with fail
 try rw [hW1]
 clear hW1
 go_upto_region 3 with (go_at_call 25;go_must (refine hc.mono ?_;rintro e W2 ⟨rfl,hw⟩;rw [hw];clear hw W2))
 go_upto_region 5 with (go_at_call 38;go_must (refine hck.mono ?_;rintro e W3 ⟨rfl,b3⟩))
 have HB:=hidE (h1.step b3).bel
 clear b3
 go_wp2_with fail
 go_ret2
 exact ⟨rfl,HB.out⟩
end Go.Proofs.YtkhheooofcpfdaaGreatDoor
namespace Go.Proofs.YtkhheooofcpfdaaGreatDoor
open Go.RowKit Go.Maps
set_option linter.unusedVariables false
set_option maxRecDepth 100000 in
set_option maxHeartbeats 32000000 in
theorem la_gone (b:Nat) (t:Tb) (va:Value) (f:Fl) (now:Int) (w:World) (h:LIn w b t va) (hlen:t.fs.length≤1000) (hvb:va.ownBlock≠some b) (hz:timE t now=0) (hch:chkE f=0) (dec1:decide (f.unt≤now)=true) :
  Calls Tryz.prog 12 #[.pointer (some ⟨b,0,none⟩),flV f,.int .i64 now] w fun e w'=>e = .returned (.tuple #[.bool false,.int .i64 0])∧(∃ v',LIn w' b { max:=t.max,now:=now,fs:=leftL now t.fs } v'∧v'.ownBlock≠some b)∧w.grownBy w' (some b):=by
 obtain ⟨Q,hQ⟩:∃ Q:Ending→World→Prop,Q=fun e w'=>e = .returned (.tuple #[.bool false,.int .i64 0])∧(∃ v',LIn w' b { max:=t.max,now:=now,fs:=leftL now t.fs } v'∧v'.ownBlock≠some b)∧w.grownBy w' (some b):=⟨_,rfl⟩
 have HQ:=hidE hQ
 rw [← hQ]
 clear hQ
 have HVB:=hidE hvb
 have h1:=LaS.start w b t va f h
 obtain ⟨W1,hW1⟩:∃ W1,w.alloc (.cells #[.int .i64 f.key.kind,.int .i64 f.key.src,.int .i64 f.key.frm,.int .i64 f.key.dst,.int .i64 f.key.too,.int .i64 f.st,.int .i64 f.unt,.int .i64 f.stp,.int .i64 f.h0,.int .i64 f.h1,.int .i64 f.w0,.int .i64 f.w1,.bool f.d0,.bool f.d1,.int .i64 f.num] 45)=W1:=⟨_,rfl⟩
 rw [hW1] at h1
 have hc:=ltime_any b t va now W1 h1.tb
 rw [hz] at hc
 have hck:=refCheck_any f W1
 rw [hch] at hck
 unfold flV at hck
 obtain ⟨e0,e1,e2,e3,e4,e5,e6,e7,e8,e9,e10,e11,e12,e13,e14⟩:=h1.fl.cells
 unfold flV
 go_enter Tryz.func12,Tryz.ntmps12
 go_upto_region 1 with fail
 try rw [hW1]
 clear hW1
 have HZ:=hidE hz
 clear hz
 go_upto_region 3 with (go_at_call 25;go_must (refine hc.mono ?_;rintro e W2 ⟨rfl,hw⟩;rw [hw];clear hw W2))
 clear hc
 go_upto_region 6 with (go_at_call 38;go_must (refine hck.mono ?_;rintro e W3 ⟨rfl,b3⟩))
 have h3:=h1.step b3
 clear h1 b3 hck e0 e1 e2 e3 e4 e5 e6 e7 e8 e9 e10 e11 e12 e13 e14
 have hlt:=later_any b t va now W3 h3.tb HZ.out hlen
 go_upto_region 7 with (go_at_call 27;go_must (refine hlt.mono ?_;rintro e W6 ⟨⟨X,v6,rfl,hx6,hlx,hvx⟩,b6⟩))
 have h6:=h3.step b6
 clear hlt b6 h3
 obtain ⟨t',ht'⟩:∃ t',({ max:=t.max,now:=now,fs:=leftL now t.fs }:Tb)=t':=⟨_,rfl⟩
 rw [ht'] at hx6
 have HT':=hidE ht'
 clear ht'
 have hl6:t'.fs.length≤1000:=by
  rw [← HT'.out]
  exact Nat.le_trans (List.length_filter_le _ _) hlen
 have hat:=lat_any X t' v6 f.key W6 hx6 hl6
 unfold keyV at hat
 obtain ⟨e0,e1,e2,e3,e4,e5,e6,e7,e8,e9,e10,e11,e12,e13,e14⟩:=h6.fl.cells
 go_upto_region 8 with (go_at_call 28;go_must (refine hat.mono ?_;rintro e W7 ⟨⟨r,rfl,hr⟩,b7⟩))
 have h7:=h6.step b7
 have hx7:=hx6.below b7
 have HR:=hidE hr
 clear hat b7 h6 hx6 e0 e1 e2 e3 e4 e5 e6 e7 e8 e9 e10 e11 e12 e13 e14 hr hlx hvx
 obtain ⟨e0,e1,e2,e3,e4,e5,e6,e7,e8,e9,e10,e11,e12,e13,e14⟩:=h7.fl.cells
 clear e0 e1 e2 e3 e4 e5 e8 e9 e10 e11 e12 e13 e14
 have e6:=Ext.cell e6
 have e7:=Ext.cell e7
 refine wp_region_ext (by kernel_rfl) (by kernel_rfl) ?_
 repeat (go_big_quiet_step (fail))
 try rw [dec1]
 repeat (go_big_quiet_step (fail))
 try rw [dec2]
 repeat (go_big_quiet_step (fail))
 try rw [dec3]
 refine wpQuiet_nil ?_
 rintro _ ⟨u,rfl⟩
 have h8:=h7.step u.h
 have hx8:=hx7.below u.h
 obtain ⟨W8,hW8⟩:∃ W8,u.W=W8:=⟨_,rfl⟩
 rw [hW8] at h8 hx8 ⊢
 clear hW8 e6 e7 h7 hx7
 have htk:=ltick_ok b t va now W8 h8.tb HZ.out hlen HVB.out
 go_upto_region 10 with (go_at_call 16;go_must (refine htk.mono ?_;rintro e W9 ⟨⟨vk,ks,rfl,ok9,ek9⟩,⟨v9,t9,n9⟩,g9⟩))
 have hbs:=h8.lb
 have bel8:=h8.bel
 have BW9:Hid (w.grownBy W9 (some b)):=⟨g9.os.trans bel8.os,g9.tape.trans bel8.tape,g9.output.trans bel8.output,Nat.le_trans bel8.size g9.size,fun i hi hne=>(g9.block i (Nat.lt_of_lt_of_le hi bel8.size) hne).trans (bel8.block i hi)⟩
 have hs8:=bel8.size
 have HFIN:Hid (Q (.returned (.tuple #[.bool false,.int .i64 0])) W9):=by
  show Q _ _
  rw [HQ.out]
  exact ⟨rfl,⟨v9,t9,fun hc=>by have:=n9 b hc;omega⟩,BW9.out⟩
 clear htk h8 g9 n9 ok9 ek9 bel8 t9
 go_wp2_with fail
 exact HFIN.out
set_option maxRecDepth 100000 in
set_option maxHeartbeats 32000000 in
theorem la_old (b:Nat) (t:Tb) (va:Value) (f:Fl) (now:Int) (w:World) (h:LIn w b t va) (hlen:t.fs.length≤1000) (hvb:va.ownBlock≠some b) (hz:timE t now=0) (hch:chkE f=0) (dec1:decide (f.unt≤now)=false) (hhs:hasK (leftL now t.fs) f.key=true) (hst:f.stp≤(getK (leftL now t.fs) f.key).stp) :
  Calls Tryz.prog 12 #[.pointer (some ⟨b,0,none⟩),flV f,.int .i64 now] w fun e w'=>e = .returned (.tuple #[.bool false,.int .i64 0])∧(∃ v',LIn w' b { max:=t.max,now:=now,fs:=leftL now t.fs } v'∧v'.ownBlock≠some b)∧w.grownBy w' (some b):=by
 obtain ⟨Q,hQ⟩:∃ Q:Ending→World→Prop,Q=fun e w'=>e = .returned (.tuple #[.bool false,.int .i64 0])∧(∃ v',LIn w' b { max:=t.max,now:=now,fs:=leftL now t.fs } v'∧v'.ownBlock≠some b)∧w.grownBy w' (some b):=⟨_,rfl⟩
 have HQ:=hidE hQ
 rw [← hQ]
 clear hQ
 have HVB:=hidE hvb
 have h1:=LaS.start w b t va f h
 obtain ⟨W1,hW1⟩:∃ W1,w.alloc (.cells #[.int .i64 f.key.kind,.int .i64 f.key.src,.int .i64 f.key.frm,.int .i64 f.key.dst,.int .i64 f.key.too,.int .i64 f.st,.int .i64 f.unt,.int .i64 f.stp,.int .i64 f.h0,.int .i64 f.h1,.int .i64 f.w0,.int .i64 f.w1,.bool f.d0,.bool f.d1,.int .i64 f.num] 45)=W1:=⟨_,rfl⟩
 rw [hW1] at h1
 have hc:=ltime_any b t va now W1 h1.tb
 rw [hz] at hc
 have hck:=refCheck_any f W1
 rw [hch] at hck
 unfold flV at hck
 obtain ⟨e0,e1,e2,e3,e4,e5,e6,e7,e8,e9,e10,e11,e12,e13,e14⟩:=h1.fl.cells
 have HHS:=hidE hhs
 have HST:=hidE hst
 clear hhs hst
 unfold flV
 go_enter Tryz.func12,Tryz.ntmps12
 go_upto_region 1 with fail
 try rw [hW1]
 clear hW1
 have HZ:=hidE hz
 clear hz
 go_upto_region 3 with (go_at_call 25;go_must (refine hc.mono ?_;rintro e W2 ⟨rfl,hw⟩;rw [hw];clear hw W2))
 clear hc
 go_upto_region 6 with (go_at_call 38;go_must (refine hck.mono ?_;rintro e W3 ⟨rfl,b3⟩))
 have h3:=h1.step b3
 clear h1 b3 hck e0 e1 e2 e3 e4 e5 e6 e7 e8 e9 e10 e11 e12 e13 e14
 have hlt:=later_any b t va now W3 h3.tb HZ.out hlen
 go_upto_region 7 with (go_at_call 27;go_must (refine hlt.mono ?_;rintro e W6 ⟨⟨X,v6,rfl,hx6,hlx,hvx⟩,b6⟩))
 have h6:=h3.step b6
 clear hlt b6 h3
 obtain ⟨t',ht'⟩:∃ t',({ max:=t.max,now:=now,fs:=leftL now t.fs }:Tb)=t':=⟨_,rfl⟩
 rw [ht'] at hx6
 have HT':=hidE ht'
 clear ht'
 have hl6:t'.fs.length≤1000:=by
  rw [← HT'.out]
  exact Nat.le_trans (List.length_filter_le _ _) hlen
 have hat:=lat_any X t' v6 f.key W6 hx6 hl6
 unfold keyV at hat
 obtain ⟨e0,e1,e2,e3,e4,e5,e6,e7,e8,e9,e10,e11,e12,e13,e14⟩:=h6.fl.cells
 go_upto_region 8 with (go_at_call 28;go_must (refine hat.mono ?_;rintro e W7 ⟨⟨r,rfl,hr⟩,b7⟩))
 have h7:=h6.step b7
 have hx7:=hx6.below b7
 have HR:=hidE hr
 clear hat b7 h6 hx6 e0 e1 e2 e3 e4 e5 e6 e7 e8 e9 e10 e11 e12 e13 e14 hr hlx hvx
 obtain ⟨e0,e1,e2,e3,e4,e5,e6,e7,e8,e9,e10,e11,e12,e13,e14⟩:=h7.fl.cells
 clear e0 e1 e2 e3 e4 e5 e8 e9 e10 e11 e12 e13 e14
 have e6:=Ext.cell e6
 have e7:=Ext.cell e7
 have HHB:Hid (hasK t'.fs f.key=true):=by rw [← HT'.out];exact HHS.out
 obtain ⟨i,hil,hir,hgi⟩:∃ i,∃ hi:i < t'.fs.length,r=(i:Int)∧getK t'.fs f.key=t'.fs[i]:=by
  rcases HR.out with ⟨hh,_⟩|⟨i,hi,hr,_,hg⟩
  ·rw [HHB.out] at hh;cases hh
  ·exact ⟨i,hi,hr,hg⟩
 subst hir
 clear HR
 have ow:=hx7.own
 obtain ⟨LL,hLL⟩:∃ LL,t'.fs.length=LL:=⟨_,rfl⟩
 obtain ⟨g,cap,he,_,hglt,hlc,hcm⟩:=OwnN.shape ow (by omega)
 rw [hLL] at he hlc
 subst he
 unfold maxLen at hcm
 have cc:=own_fl ow i hil
 have dec2:decide ((i:Int) ≥ 0)=true:=decide_eq_true (by omega)
 have dec4:decide ((i:Int) < 0)=false:=decide_eq_false (by omega)
 have i7:¬ (i:Int) < 0:=by omega
 have i8:(0:Int)≤(i:Int):=by omega
 have i9:(i:Int) < (LL:Int):=by omega
 have HGI:Hid (getK (leftL now t.fs) f.key=t'.fs[i]):=by show _=_;rw [← hgi,← HT'.out]
 obtain ⟨gg,hgg⟩:∃ gg,t'.fs[i]=gg:=⟨_,rfl⟩
 rw [hgg] at cc
 have HGG:Hid (getK (leftL now t.fs) f.key=gg):=by show _=_;rw [HGI.out,hgg]
 clear HGI hgi hgg
 obtain ⟨_,_,_,_,_,_,_,q7,_⟩:=cc
 have q7:=Ext.cell q7
 have c2:=Ext.cell ((l_cells hx7.tab).2.2)
 have dec3:decide (gg.stp ≥ f.stp)=true:=decide_eq_true (by have:=HST.out;rw [HGG.out] at this;exact this)
 refine wp_region_ext (by kernel_rfl) (by kernel_rfl) ?_
 repeat (go_big_quiet_step (fail))
 try rw [dec1]
 repeat (go_big_quiet_step (fail))
 try rw [dec2]
 repeat (go_big_quiet_step (fail))
 try rw [dec3]
 refine wpQuiet_nil ?_
 rintro _ ⟨u,rfl⟩
 have h8:=h7.step u.h
 have hx8:=hx7.below u.h
 obtain ⟨W8,hW8⟩:∃ W8,u.W=W8:=⟨_,rfl⟩
 rw [hW8] at h8 hx8 ⊢
 clear hW8 e6 e7 h7 hx7
 clear q7 c2 ow
 have htk:=ltick_ok b t va now W8 h8.tb HZ.out hlen HVB.out
 go_upto_region 10 with (go_at_call 16;go_must (refine htk.mono ?_;rintro e W9 ⟨⟨vk,ks,rfl,ok9,ek9⟩,⟨v9,t9,n9⟩,g9⟩))
 have hbs:=h8.lb
 have bel8:=h8.bel
 have BW9:Hid (w.grownBy W9 (some b)):=⟨g9.os.trans bel8.os,g9.tape.trans bel8.tape,g9.output.trans bel8.output,Nat.le_trans bel8.size g9.size,fun i hi hne=>(g9.block i (Nat.lt_of_lt_of_le hi bel8.size) hne).trans (bel8.block i hi)⟩
 have hs8:=bel8.size
 have HFIN:Hid (Q (.returned (.tuple #[.bool false,.int .i64 0])) W9):=by
  show Q _ _
  rw [HQ.out]
  exact ⟨rfl,⟨v9,t9,fun hc=>by have:=n9 b hc;omega⟩,BW9.out⟩
 clear htk h8 g9 n9 ok9 ek9 bel8 t9
 go_wp2_with fail
 exact HFIN.out
end Go.Proofs.YtkhheooofcpfdaaGreatDoor
namespace Go.Proofs.YtkhheooofcpfdaaGreatDoor
open Go.RowKit Go.Maps
set_option linter.unusedVariables false
set_option maxRecDepth 100000 in
set_option maxHeartbeats 32000000 in
theorem la_full (b:Nat) (t:Tb) (va:Value) (f:Fl) (now:Int) (w:World) (h:LIn w b t va) (hlen:t.fs.length≤1000) (hvb:va.ownBlock≠some b) (hz:timE t now=0) (hch:chkE f=0) (dec1:decide (f.unt≤now)=false) (hhs:hasK (leftL now t.fs) f.key=false) (hfu:t.max≤((leftL now t.fs).length:Int)) :
  Calls Tryz.prog 12 #[.pointer (some ⟨b,0,none⟩),flV f,.int .i64 now] w fun e w'=>e = .returned (.tuple #[.bool false,.int .i64 4])∧Below w.heap.size w w':=by
 have h1:=LaS.start w b t va f h
 obtain ⟨W1,hW1⟩:∃ W1,w.alloc (.cells #[.int .i64 f.key.kind,.int .i64 f.key.src,.int .i64 f.key.frm,.int .i64 f.key.dst,.int .i64 f.key.too,.int .i64 f.st,.int .i64 f.unt,.int .i64 f.stp,.int .i64 f.h0,.int .i64 f.h1,.int .i64 f.w0,.int .i64 f.w1,.bool f.d0,.bool f.d1,.int .i64 f.num] 45)=W1:=⟨_,rfl⟩
 rw [hW1] at h1
 have hc:=ltime_any b t va now W1 h1.tb
 rw [hz] at hc
 have hck:=refCheck_any f W1
 rw [hch] at hck
 unfold flV at hck
 obtain ⟨e0,e1,e2,e3,e4,e5,e6,e7,e8,e9,e10,e11,e12,e13,e14⟩:=h1.fl.cells
 have HHS:=hidE hhs
 have HFU:=hidE hfu
 clear hhs hfu
 unfold flV
 go_enter Tryz.func12,Tryz.ntmps12
 go_upto_region 1 with fail
 try rw [hW1]
 clear hW1
 have HZ:=hidE hz
 clear hz
 go_upto_region 3 with (go_at_call 25;go_must (refine hc.mono ?_;rintro e W2 ⟨rfl,hw⟩;rw [hw];clear hw W2))
 clear hc
 go_upto_region 6 with (go_at_call 38;go_must (refine hck.mono ?_;rintro e W3 ⟨rfl,b3⟩))
 have h3:=h1.step b3
 clear h1 b3 hck e0 e1 e2 e3 e4 e5 e6 e7 e8 e9 e10 e11 e12 e13 e14
 have hlt:=later_any b t va now W3 h3.tb HZ.out hlen
 go_upto_region 7 with (go_at_call 27;go_must (refine hlt.mono ?_;rintro e W6 ⟨⟨X,v6,rfl,hx6,hlx,hvx⟩,b6⟩))
 have h6:=h3.step b6
 clear hlt b6 h3
 obtain ⟨t',ht'⟩:∃ t',({ max:=t.max,now:=now,fs:=leftL now t.fs }:Tb)=t':=⟨_,rfl⟩
 rw [ht'] at hx6
 have HT':=hidE ht'
 clear ht'
 have hl6:t'.fs.length≤1000:=by
  rw [← HT'.out]
  exact Nat.le_trans (List.length_filter_le _ _) hlen
 have hat:=lat_any X t' v6 f.key W6 hx6 hl6
 unfold keyV at hat
 obtain ⟨e0,e1,e2,e3,e4,e5,e6,e7,e8,e9,e10,e11,e12,e13,e14⟩:=h6.fl.cells
 go_upto_region 8 with (go_at_call 28;go_must (refine hat.mono ?_;rintro e W7 ⟨⟨r,rfl,hr⟩,b7⟩))
 have h7:=h6.step b7
 have hx7:=hx6.below b7
 have HR:=hidE hr
 clear hat b7 h6 hx6 e0 e1 e2 e3 e4 e5 e6 e7 e8 e9 e10 e11 e12 e13 e14 hr hlx hvx
 obtain ⟨e0,e1,e2,e3,e4,e5,e6,e7,e8,e9,e10,e11,e12,e13,e14⟩:=h7.fl.cells
 clear e0 e1 e2 e3 e4 e5 e8 e9 e10 e11 e12 e13 e14
 have e6:=Ext.cell e6
 have e7:=Ext.cell e7
 have HHB:Hid (hasK t'.fs f.key=false):=by rw [← HT'.out];exact HHS.out
 have hr1:r = -1:=by
  rcases HR.out with ⟨_,hr⟩|⟨i,_,_,hh,_⟩
  ·exact hr
  ·rw [HHB.out] at hh;cases hh
 subst hr1
 clear HR
 refine wp_region_ext (by kernel_rfl) (by kernel_rfl) ?_
 repeat (go_big_quiet_step (fail))
 try rw [dec1]
 repeat (go_big_quiet_step (fail))
 try rw [dec2]
 repeat (go_big_quiet_step (fail))
 try rw [dec3]
 refine wpQuiet_nil ?_
 rintro _ ⟨u,rfl⟩
 have h8:=h7.step u.h
 have hx8:=hx7.below u.h
 obtain ⟨W8,hW8⟩:∃ W8,u.W=W8:=⟨_,rfl⟩
 rw [hW8] at h8 hx8 ⊢
 clear hW8 e6 e7 h7 hx7
 go_upto_region 11 with fail
 obtain ⟨ax,cx,hvx6⟩:=OwnN.len hx8.own
 obtain ⟨LL,hLL⟩:∃ LL,t'.fs.length=LL:=⟨_,rfl⟩
 rw [hLL] at hvx6
 subst hvx6
 have HLL:Hid ((leftL now t.fs).length=LL):=by show _=_;rw [← hLL,← HT'.out]
 have c0:=Ext.cell ((l_cells h8.tb.tab).1)
 have c2:=Ext.cell ((l_cells hx8.tab).2.2)
 have i5:(LL:Int) ≥ t.max:=by have:=HFU.out;rw [HLL.out] at this;exact this
 refine wp_region_ext (by kernel_rfl) (by kernel_rfl) ?_
 repeat (go_big_quiet_step (fail))
 try rw [dec4]
 repeat (go_big_quiet_step (fail))
 refine wpQuiet_nil ?_
 rintro _ ⟨u,rfl⟩
 have h9:=h8.step u.h
 obtain ⟨W10,hW10⟩:∃ W10,u.W=W10:=⟨_,rfl⟩
 rw [hW10] at h9 ⊢
 clear hW10 c0 c2 h8 hx8
 have HB:=hidE h9.bel
 clear h9
 go_wp2_with fail
 go_ret2
 exact ⟨rfl,HB.out⟩
set_option maxRecDepth 100000 in
set_option maxHeartbeats 32000000 in
theorem la_new (b:Nat) (t:Tb) (va:Value) (f:Fl) (now:Int) (w:World) (h:LIn w b t va) (hlen:t.fs.length≤1000) (hvb:va.ownBlock≠some b) (hz:timE t now=0) (hch:chkE f=0) (dec1:decide (f.unt≤now)=false) (hhs:hasK (leftL now t.fs) f.key=false) (hfu:¬ t.max≤((leftL now t.fs).length:Int)) :
  Calls Tryz.prog 12 #[.pointer (some ⟨b,0,none⟩),flV f,.int .i64 now] w fun e w'=>e = .returned (.tuple #[.bool true,.int .i64 0])∧(∃ v',LIn w' b { max:=t.max,now:=now,fs:=insL f (leftL now t.fs) } v'∧v'.ownBlock≠some b)∧w.grownBy w' (some b):=by
 obtain ⟨Q,hQ⟩:∃ Q:Ending→World→Prop,Q=fun e w'=>e = .returned (.tuple #[.bool true,.int .i64 0])∧(∃ v',LIn w' b { max:=t.max,now:=now,fs:=insL f (leftL now t.fs) } v'∧v'.ownBlock≠some b)∧w.grownBy w' (some b):=⟨_,rfl⟩
 have HQ:=hidE hQ
 rw [← hQ]
 clear hQ
 have HVB:=hidE hvb
 have h1:=LaS.start w b t va f h
 obtain ⟨W1,hW1⟩:∃ W1,w.alloc (.cells #[.int .i64 f.key.kind,.int .i64 f.key.src,.int .i64 f.key.frm,.int .i64 f.key.dst,.int .i64 f.key.too,.int .i64 f.st,.int .i64 f.unt,.int .i64 f.stp,.int .i64 f.h0,.int .i64 f.h1,.int .i64 f.w0,.int .i64 f.w1,.bool f.d0,.bool f.d1,.int .i64 f.num] 45)=W1:=⟨_,rfl⟩
 rw [hW1] at h1
 have hc:=ltime_any b t va now W1 h1.tb
 rw [hz] at hc
 have hck:=refCheck_any f W1
 rw [hch] at hck
 unfold flV at hck
 obtain ⟨e0,e1,e2,e3,e4,e5,e6,e7,e8,e9,e10,e11,e12,e13,e14⟩:=h1.fl.cells
 have HHS:=hidE hhs
 have HFU:=hidE hfu
 clear hhs hfu
 unfold flV
 go_enter Tryz.func12,Tryz.ntmps12
 go_upto_region 1 with fail
 try rw [hW1]
 clear hW1
 have HZ:=hidE hz
 clear hz
 go_upto_region 3 with (go_at_call 25;go_must (refine hc.mono ?_;rintro e W2 ⟨rfl,hw⟩;rw [hw];clear hw W2))
 clear hc
 go_upto_region 6 with (go_at_call 38;go_must (refine hck.mono ?_;rintro e W3 ⟨rfl,b3⟩))
 have h3:=h1.step b3
 clear h1 b3 hck e0 e1 e2 e3 e4 e5 e6 e7 e8 e9 e10 e11 e12 e13 e14
 have hlt:=later_any b t va now W3 h3.tb HZ.out hlen
 go_upto_region 7 with (go_at_call 27;go_must (refine hlt.mono ?_;rintro e W6 ⟨⟨X,v6,rfl,hx6,hlx,hvx⟩,b6⟩))
 have h6:=h3.step b6
 clear hlt b6 h3
 obtain ⟨t',ht'⟩:∃ t',({ max:=t.max,now:=now,fs:=leftL now t.fs }:Tb)=t':=⟨_,rfl⟩
 rw [ht'] at hx6
 have HT':=hidE ht'
 clear ht'
 have hl6:t'.fs.length≤1000:=by
  rw [← HT'.out]
  exact Nat.le_trans (List.length_filter_le _ _) hlen
 have hat:=lat_any X t' v6 f.key W6 hx6 hl6
 unfold keyV at hat
 obtain ⟨e0,e1,e2,e3,e4,e5,e6,e7,e8,e9,e10,e11,e12,e13,e14⟩:=h6.fl.cells
 go_upto_region 8 with (go_at_call 28;go_must (refine hat.mono ?_;rintro e W7 ⟨⟨r,rfl,hr⟩,b7⟩))
 have h7:=h6.step b7
 have hx7:=hx6.below b7
 have HR:=hidE hr
 clear hat b7 h6 hx6 e0 e1 e2 e3 e4 e5 e6 e7 e8 e9 e10 e11 e12 e13 e14 hr hlx hvx
 obtain ⟨e0,e1,e2,e3,e4,e5,e6,e7,e8,e9,e10,e11,e12,e13,e14⟩:=h7.fl.cells
 clear e0 e1 e2 e3 e4 e5 e8 e9 e10 e11 e12 e13 e14
 have e6:=Ext.cell e6
 have e7:=Ext.cell e7
 have HHB:Hid (hasK t'.fs f.key=false):=by rw [← HT'.out];exact HHS.out
 have hr1:r = -1:=by
  rcases HR.out with ⟨_,hr⟩|⟨i,_,_,hh,_⟩
  ·exact hr
  ·rw [HHB.out] at hh;cases hh
 subst hr1
 clear HR
 refine wp_region_ext (by kernel_rfl) (by kernel_rfl) ?_
 repeat (go_big_quiet_step (fail))
 try rw [dec1]
 repeat (go_big_quiet_step (fail))
 try rw [dec2]
 repeat (go_big_quiet_step (fail))
 try rw [dec3]
 refine wpQuiet_nil ?_
 rintro _ ⟨u,rfl⟩
 have h8:=h7.step u.h
 have hx8:=hx7.below u.h
 obtain ⟨W8,hW8⟩:∃ W8,u.W=W8:=⟨_,rfl⟩
 rw [hW8] at h8 hx8 ⊢
 clear hW8 e6 e7 h7 hx7
 go_upto_region 11 with fail
 obtain ⟨ax,cx,hvx6⟩:=OwnN.len hx8.own
 obtain ⟨LL,hLL⟩:∃ LL,t'.fs.length=LL:=⟨_,rfl⟩
 rw [hLL] at hvx6
 subst hvx6
 have HLL:Hid ((leftL now t.fs).length=LL):=by show _=_;rw [← hLL,← HT'.out]
 have c0:=Ext.cell ((l_cells h8.tb.tab).1)
 have c2:=Ext.cell ((l_cells hx8.tab).2.2)
 have i5:¬ (LL:Int) ≥ t.max:=by have:=HFU.out;rw [HLL.out] at this;omega
 refine wp_region_ext (by kernel_rfl) (by kernel_rfl) ?_
 repeat (go_big_quiet_step (fail))
 try rw [dec4]
 repeat (go_big_quiet_step (fail))
 refine wpQuiet_nil ?_
 rintro _ ⟨u,rfl⟩
 have h9:=h8.step u.h
 obtain ⟨W10,hW10⟩:∃ W10,u.W=W10:=⟨_,rfl⟩
 rw [hW10] at h9 ⊢
 clear hW10 c0 c2 h8 hx8
 have htk:=ltick_ok b t va now W10 h9.tb HZ.out hlen HVB.out
 go_upto_region 14 with (go_at_call 16;go_must (refine htk.mono ?_;rintro e W9 ⟨⟨vk,ks,rfl,ok9,ek9⟩,⟨v9,t9,n9⟩,g9⟩))
 have hbs:=h9.lb
 have bel8:=h9.bel
 have BW9:Hid (w.grownBy W9 (some b)):=⟨g9.os.trans bel8.os,g9.tape.trans bel8.tape,g9.output.trans bel8.output,Nat.le_trans bel8.size g9.size,fun i hi hne=>(g9.block i (Nat.lt_of_lt_of_le hi bel8.size) hne).trans (bel8.block i hi)⟩
 have hs8:=bel8.size
 have p9:FlAt W9 w.heap.size f:=by
  show W9.heap[w.heap.size]? = _
  rw [g9.block _ h9.fl.lt (by simp;omega)];exact h9.fl
 rw [HT'.out] at t9
 clear htk h9 g9 n9 ok9 ek9 bel8
 have hp:=lput_any b t' v9 f W9 t9 hl6
 unfold flV at hp
 obtain ⟨e0,e1,e2,e3,e4,e5,e6,e7,e8,e9,e10,e11,e12,e13,e14⟩:=p9.cells
 go_upto_region 15 with (go_at_call 29;go_must (refine hp.mono ?_;rintro e W11 ⟨rfl,⟨v10,t10,n10⟩,g10⟩))
 have HFIN:Hid (Q (.returned (.tuple #[.bool true,.int .i64 0])) W11):=by
  show Q _ _
  rw [HQ.out]
  have hs9:=p9.lt
  refine ⟨rfl,⟨v10,?_,fun hc=>by have:=n10 b hc;omega⟩,⟨g10.os.trans BW9.out.os,g10.tape.trans BW9.out.tape,g10.output.trans BW9.out.output,Nat.le_trans BW9.out.size g10.size,fun i hi hne=>(g10.block i (Nat.lt_of_lt_of_le hi BW9.out.size) hne).trans (BW9.out.block i hi hne)⟩⟩
  have:=t10
  rw [← HT'.out] at this
  exact this
 clear hp g10 n10 t10 p9 t9 e0 e1 e2 e3 e4 e5 e6 e7 e8 e9 e10 e11 e12 e13 e14
 go_wp2_with fail
 exact HFIN.out
end Go.Proofs.YtkhheooofcpfdaaGreatDoor
namespace Go.Proofs.YtkhheooofcpfdaaGreatDoor
open Go.RowKit Go.Maps
set_option linter.unusedVariables false
set_option maxRecDepth 100000 in
set_option maxHeartbeats 32000000 in
theorem la_over (b:Nat) (t:Tb) (va:Value) (f:Fl) (now:Int) (w:World) (h:LIn w b t va) (hlen:t.fs.length≤1000) (hvb:va.ownBlock≠some b) (hz:timE t now=0) (hch:chkE f=0) (dec1:decide (f.unt≤now)=false) (hhs:hasK (leftL now t.fs) f.key=true) (hst:¬ f.stp≤(getK (leftL now t.fs) f.key).stp) :
  Calls Tryz.prog 12 #[.pointer (some ⟨b,0,none⟩),flV f,.int .i64 now] w fun e w'=>e = .returned (.tuple #[.bool true,.int .i64 0])∧(∃ v',LIn w' b { max:=t.max,now:=now,fs:=insL f (leftL now t.fs) } v'∧v'.ownBlock≠some b)∧w.grownBy w' (some b):=by
 obtain ⟨Q,hQ⟩:∃ Q:Ending→World→Prop,Q=fun e w'=>e = .returned (.tuple #[.bool true,.int .i64 0])∧(∃ v',LIn w' b { max:=t.max,now:=now,fs:=insL f (leftL now t.fs) } v'∧v'.ownBlock≠some b)∧w.grownBy w' (some b):=⟨_,rfl⟩
 have HQ:=hidE hQ
 rw [← hQ]
 clear hQ
 have HVB:=hidE hvb
 have h1:=LaS.start w b t va f h
 obtain ⟨W1,hW1⟩:∃ W1,w.alloc (.cells #[.int .i64 f.key.kind,.int .i64 f.key.src,.int .i64 f.key.frm,.int .i64 f.key.dst,.int .i64 f.key.too,.int .i64 f.st,.int .i64 f.unt,.int .i64 f.stp,.int .i64 f.h0,.int .i64 f.h1,.int .i64 f.w0,.int .i64 f.w1,.bool f.d0,.bool f.d1,.int .i64 f.num] 45)=W1:=⟨_,rfl⟩
 rw [hW1] at h1
 have hc:=ltime_any b t va now W1 h1.tb
 rw [hz] at hc
 have hck:=refCheck_any f W1
 rw [hch] at hck
 unfold flV at hck
 obtain ⟨e0,e1,e2,e3,e4,e5,e6,e7,e8,e9,e10,e11,e12,e13,e14⟩:=h1.fl.cells
 have HHS:=hidE hhs
 have HST:=hidE hst
 clear hhs hst
 unfold flV
 go_enter Tryz.func12,Tryz.ntmps12
 go_upto_region 1 with fail
 try rw [hW1]
 clear hW1
 have HZ:=hidE hz
 clear hz
 go_upto_region 3 with (go_at_call 25;go_must (refine hc.mono ?_;rintro e W2 ⟨rfl,hw⟩;rw [hw];clear hw W2))
 clear hc
 go_upto_region 6 with (go_at_call 38;go_must (refine hck.mono ?_;rintro e W3 ⟨rfl,b3⟩))
 have h3:=h1.step b3
 clear h1 b3 hck e0 e1 e2 e3 e4 e5 e6 e7 e8 e9 e10 e11 e12 e13 e14
 have hlt:=later_any b t va now W3 h3.tb HZ.out hlen
 go_upto_region 7 with (go_at_call 27;go_must (refine hlt.mono ?_;rintro e W6 ⟨⟨X,v6,rfl,hx6,hlx,hvx⟩,b6⟩))
 have h6:=h3.step b6
 clear hlt b6 h3
 obtain ⟨t',ht'⟩:∃ t',({ max:=t.max,now:=now,fs:=leftL now t.fs }:Tb)=t':=⟨_,rfl⟩
 rw [ht'] at hx6
 have HT':=hidE ht'
 clear ht'
 have hl6:t'.fs.length≤1000:=by
  rw [← HT'.out]
  exact Nat.le_trans (List.length_filter_le _ _) hlen
 have hat:=lat_any X t' v6 f.key W6 hx6 hl6
 unfold keyV at hat
 obtain ⟨e0,e1,e2,e3,e4,e5,e6,e7,e8,e9,e10,e11,e12,e13,e14⟩:=h6.fl.cells
 go_upto_region 8 with (go_at_call 28;go_must (refine hat.mono ?_;rintro e W7 ⟨⟨r,rfl,hr⟩,b7⟩))
 have h7:=h6.step b7
 have hx7:=hx6.below b7
 have HR:=hidE hr
 clear hat b7 h6 hx6 e0 e1 e2 e3 e4 e5 e6 e7 e8 e9 e10 e11 e12 e13 e14 hr hlx hvx
 obtain ⟨e0,e1,e2,e3,e4,e5,e6,e7,e8,e9,e10,e11,e12,e13,e14⟩:=h7.fl.cells
 clear e0 e1 e2 e3 e4 e5 e8 e9 e10 e11 e12 e13 e14
 have e6:=Ext.cell e6
 have e7:=Ext.cell e7
 have HHB:Hid (hasK t'.fs f.key=true):=by rw [← HT'.out];exact HHS.out
 obtain ⟨i,hil,hir,hgi⟩:∃ i,∃ hi:i < t'.fs.length,r=(i:Int)∧getK t'.fs f.key=t'.fs[i]:=by
  rcases HR.out with ⟨hh,_⟩|⟨i,hi,hr,_,hg⟩
  ·rw [HHB.out] at hh;cases hh
  ·exact ⟨i,hi,hr,hg⟩
 subst hir
 clear HR
 have ow:=hx7.own
 obtain ⟨LL,hLL⟩:∃ LL,t'.fs.length=LL:=⟨_,rfl⟩
 obtain ⟨g,cap,he,_,hglt,hlc,hcm⟩:=OwnN.shape ow (by omega)
 rw [hLL] at he hlc
 subst he
 unfold maxLen at hcm
 have cc:=own_fl ow i hil
 have dec2:decide ((i:Int) ≥ 0)=true:=decide_eq_true (by omega)
 have dec4:decide ((i:Int) < 0)=false:=decide_eq_false (by omega)
 have i7:¬ (i:Int) < 0:=by omega
 have i8:(0:Int)≤(i:Int):=by omega
 have i9:(i:Int) < (LL:Int):=by omega
 have HGI:Hid (getK (leftL now t.fs) f.key=t'.fs[i]):=by show _=_;rw [← hgi,← HT'.out]
 obtain ⟨gg,hgg⟩:∃ gg,t'.fs[i]=gg:=⟨_,rfl⟩
 rw [hgg] at cc
 have HGG:Hid (getK (leftL now t.fs) f.key=gg):=by show _=_;rw [HGI.out,hgg]
 clear HGI hgi hgg
 obtain ⟨_,_,_,_,_,_,_,q7,_⟩:=cc
 have q7:=Ext.cell q7
 have c2:=Ext.cell ((l_cells hx7.tab).2.2)
 have dec3:decide (gg.stp ≥ f.stp)=false:=decide_eq_false (by have:=HST.out;rw [HGG.out] at this;omega)
 refine wp_region_ext (by kernel_rfl) (by kernel_rfl) ?_
 repeat (go_big_quiet_step (fail))
 try rw [dec1]
 repeat (go_big_quiet_step (fail))
 try rw [dec2]
 repeat (go_big_quiet_step (fail))
 try rw [dec3]
 refine wpQuiet_nil ?_
 rintro _ ⟨u,rfl⟩
 have h8:=h7.step u.h
 have hx8:=hx7.below u.h
 obtain ⟨W8,hW8⟩:∃ W8,u.W=W8:=⟨_,rfl⟩
 rw [hW8] at h8 hx8 ⊢
 clear hW8 e6 e7 h7 hx7
 clear q7 c2 ow
 go_upto_region 11 with fail
 have c0:=Ext.cell ((l_cells h8.tb.tab).1)
 have c2:=Ext.cell ((l_cells hx8.tab).2.2)
 refine wp_region_ext (by kernel_rfl) (by kernel_rfl) ?_
 repeat (go_big_quiet_step (fail))
 try rw [dec4]
 repeat (go_big_quiet_step (fail))
 refine wpQuiet_nil ?_
 rintro _ ⟨u,rfl⟩
 have h9:=h8.step u.h
 obtain ⟨W10,hW10⟩:∃ W10,u.W=W10:=⟨_,rfl⟩
 rw [hW10] at h9 ⊢
 clear hW10 c0 c2 h8 hx8
 have htk:=ltick_ok b t va now W10 h9.tb HZ.out hlen HVB.out
 go_upto_region 14 with (go_at_call 16;go_must (refine htk.mono ?_;rintro e W9 ⟨⟨vk,ks,rfl,ok9,ek9⟩,⟨v9,t9,n9⟩,g9⟩))
 have hbs:=h9.lb
 have bel8:=h9.bel
 have BW9:Hid (w.grownBy W9 (some b)):=⟨g9.os.trans bel8.os,g9.tape.trans bel8.tape,g9.output.trans bel8.output,Nat.le_trans bel8.size g9.size,fun i hi hne=>(g9.block i (Nat.lt_of_lt_of_le hi bel8.size) hne).trans (bel8.block i hi)⟩
 have hs8:=bel8.size
 have p9:FlAt W9 w.heap.size f:=by
  show W9.heap[w.heap.size]? = _
  rw [g9.block _ h9.fl.lt (by simp;omega)];exact h9.fl
 rw [HT'.out] at t9
 clear htk h9 g9 n9 ok9 ek9 bel8
 have hp:=lput_any b t' v9 f W9 t9 hl6
 unfold flV at hp
 obtain ⟨e0,e1,e2,e3,e4,e5,e6,e7,e8,e9,e10,e11,e12,e13,e14⟩:=p9.cells
 go_upto_region 15 with (go_at_call 29;go_must (refine hp.mono ?_;rintro e W11 ⟨rfl,⟨v10,t10,n10⟩,g10⟩))
 have HFIN:Hid (Q (.returned (.tuple #[.bool true,.int .i64 0])) W11):=by
  show Q _ _
  rw [HQ.out]
  have hs9:=p9.lt
  refine ⟨rfl,⟨v10,?_,fun hc=>by have:=n10 b hc;omega⟩,⟨g10.os.trans BW9.out.os,g10.tape.trans BW9.out.tape,g10.output.trans BW9.out.output,Nat.le_trans BW9.out.size g10.size,fun i hi hne=>(g10.block i (Nat.lt_of_lt_of_le hi BW9.out.size) hne).trans (BW9.out.block i hi hne)⟩⟩
  have:=t10
  rw [← HT'.out] at this
  exact this
 clear hp g10 n10 t10 p9 t9 e0 e1 e2 e3 e4 e5 e6 e7 e8 e9 e10 e11 e12 e13 e14
 go_wp2_with fail
 exact HFIN.out
end Go.Proofs.YtkhheooofcpfdaaGreatDoor
namespace Go.Proofs.YtkhheooofcpfdaaGreatDoor
open Go.RowKit Go.Maps
set_option linter.unusedVariables false
def laS (t:Tb) (f:Fl) (now:Int):Tb :=
 if ¬ adE t f now=0 then t else { max:=t.max,now:=now,fs:=if adB t f now=true then insL f (leftL now t.fs) else leftL now t.fs }
theorem chk_stp {f:Fl} (h:chkE f=0):1≤f.stp:=by
 have h1:=(chkE_ok h).2.1
 unfold fiB at h1
 simp only [Bool.and_eq_true] at h1
 have h2:=h1.1.2
 unfold inR at h2
 simp at h2
 omega
theorem ladopt_any (b:Nat) (t:Tb) (va:Value) (f:Fl) (now:Int) (w:World) (h:LIn w b t va) (hlen:t.fs.length≤1000) (hvb:va.ownBlock≠some b) :
  Calls Tryz.prog 12 #[.pointer (some ⟨b,0,none⟩),flV f,.int .i64 now] w fun e w'=>e = .returned (.tuple #[.bool (if adE t f now=0 then adB t f now else false),.int .i64 (adE t f now)])∧(∃ v',LIn w' b (laS t f now) v'∧v'.ownBlock≠some b)∧w.grownBy w' (some b):=by
 have no:∀ z:Int,¬ z=0→adE t f now=z→Calls Tryz.prog 12 #[.pointer (some ⟨b,0,none⟩),flV f,.int .i64 now] w (fun e w'=>e = .returned (.tuple #[.bool false,.int .i64 z])∧Below w.heap.size w w')→Calls Tryz.prog 12 #[.pointer (some ⟨b,0,none⟩),flV f,.int .i64 now] w (fun e w'=>e = .returned (.tuple #[.bool (if adE t f now=0 then adB t f now else false),.int .i64 (adE t f now)])∧(∃ v',LIn w' b (laS t f now) v'∧v'.ownBlock≠some b)∧w.grownBy w' (some b)):=by
  intro z h0 he hc
  have e0:¬ adE t f now=0:=by rw [he];exact h0
  refine hc.mono fun e w' ⟨h1,h2⟩=>?_
  refine ⟨?_,?_⟩
  ·rw [h1,if_neg e0,he]
  ·unfold laS;rw [if_pos e0];exact lin_no h hvb h2
 by_cases hz:timE t now=0
 case neg =>
  exact no _ hz (by unfold adE;rw [if_pos hz]) (la_time b t va f now w h hlen hvb _ rfl hz)
 by_cases hch:chkE f=0
 case neg =>
  exact no _ hch (by unfold adE;rw [if_neg (fun x=>x hz),if_pos hch]) (la_chk b t va f now w h hlen hvb _ hz rfl hch)
 have old:adB t f now=false→Calls Tryz.prog 12 #[.pointer (some ⟨b,0,none⟩),flV f,.int .i64 now] w (fun e w'=>e = .returned (.tuple #[.bool false,.int .i64 0])∧(∃ v',LIn w' b { max:=t.max,now:=now,fs:=leftL now t.fs } v'∧v'.ownBlock≠some b)∧w.grownBy w' (some b))→Calls Tryz.prog 12 #[.pointer (some ⟨b,0,none⟩),flV f,.int .i64 now] w (fun e w'=>e = .returned (.tuple #[.bool (if adE t f now=0 then adB t f now else false),.int .i64 (adE t f now)])∧(∃ v',LIn w' b (laS t f now) v'∧v'.ownBlock≠some b)∧w.grownBy w' (some b)):=by
  intro hB hc
  have e0:adE t f now=0:=by unfold adE;rw [if_neg (fun x=>x hz),if_neg (fun x=>x hch),if_neg (by rw [hB];simp)]
  refine hc.mono fun e w' ⟨h1,h2⟩=>?_
  refine ⟨?_,?_⟩
  ·rw [h1,if_pos e0,e0,hB]
  ·unfold laS;rw [if_neg (fun x=>x e0),hB,if_neg (by decide)];exact h2
 have new:adB t f now=true→¬ (hasK (leftL now t.fs) f.key=false∧t.max≤((leftL now t.fs).length:Int))→Calls Tryz.prog 12 #[.pointer (some ⟨b,0,none⟩),flV f,.int .i64 now] w (fun e w'=>e = .returned (.tuple #[.bool true,.int .i64 0])∧(∃ v',LIn w' b { max:=t.max,now:=now,fs:=insL f (leftL now t.fs) } v'∧v'.ownBlock≠some b)∧w.grownBy w' (some b))→Calls Tryz.prog 12 #[.pointer (some ⟨b,0,none⟩),flV f,.int .i64 now] w (fun e w'=>e = .returned (.tuple #[.bool (if adE t f now=0 then adB t f now else false),.int .i64 (adE t f now)])∧(∃ v',LIn w' b (laS t f now) v'∧v'.ownBlock≠some b)∧w.grownBy w' (some b)):=by
  intro hB hn hc
  have e0:adE t f now=0:=by unfold adE;rw [if_neg (fun x=>x hz),if_neg (fun x=>x hch),if_neg (fun x=>hn x.2)]
  refine hc.mono fun e w' ⟨h1,h2⟩=>?_
  refine ⟨?_,?_⟩
  ·rw [h1,if_pos e0,e0,hB]
  ·unfold laS;rw [if_neg (fun x=>x e0),hB,if_pos rfl];exact h2
 cases hd:decide (f.unt≤now)
 case true=>exact old (by unfold adB goneB;rw [hd];rfl) (la_gone b t va f now w h hlen hvb hz hch hd)
 have hBe:adB t f now=decide ((getK (leftL now t.fs) f.key).stp < f.stp):=by unfold adB goneB;rw [hd];rfl
 cases hhs:hasK (leftL now t.fs) f.key
 case true =>
  by_cases hst:f.stp≤(getK (leftL now t.fs) f.key).stp
  ·exact old (by rw [hBe];exact decide_eq_false (by omega)) (la_old b t va f now w h hlen hvb hz hch hd hhs hst)
  ·exact new (by rw [hBe];exact decide_eq_true (by omega)) (by rw [hhs];simp) (la_over b t va f now w h hlen hvb hz hch hd hhs hst)
 have hB:adB t f now=true:=by
  rw [hBe,getK_no hhs]
  have:=chk_stp hch
  exact decide_eq_true (by show (0:Int) < _;omega)
 by_cases hfu:t.max≤((leftL now t.fs).length:Int)
 case pos =>
  exact no 4 (by decide) (by unfold adE;rw [if_neg (fun x=>x hz),if_neg (fun x=>x hch),if_pos ⟨hB,hhs,hfu⟩]) (la_full b t va f now w h hlen hvb hz hch hd hhs hfu)
 exact new hB (fun x=>hfu x.2) (la_new b t va f now w h hlen hvb hz hch hd hhs hfu)
end Go.Proofs.YtkhheooofcpfdaaGreatDoor
namespace Go.Proofs.YtkhheooofcpfdaaGreatDoor
open Go.RowKit Go.Maps
set_option linter.unusedVariables false
theorem eq_of_perm {α:Type} {R:α→α→Prop} (hir:∀ a,¬ R a a) (htr:∀ a b c,R a b→R b c→R a c):∀ {p q:List α},p.Perm q→p.Pairwise R→q.Pairwise R→p=q
 | [],q,h,_,_=>h.nil_eq
 | a :: p,[],h,_,_=>absurd h.length_eq (by simp)
 | a :: p,b :: q,h,hp,hq=>by
  obtain ⟨hp1,hp2⟩:=List.pairwise_cons.1 hp
  obtain ⟨hq1,hq2⟩:=List.pairwise_cons.1 hq
  have hab:a=b:=by
   rcases List.mem_cons.1 (h.mem_iff.1 (List.mem_cons_self (a:=a) (l:=p))) with h1|h1
   ·exact h1
   ·rcases List.mem_cons.1 (h.mem_iff.2 (List.mem_cons_self (a:=b) (l:=q))) with h2|h2
    ·exact h2.symm
    ·exact absurd (htr _ _ _ (hp1 b h2) (hq1 a h1)) (hir a)
  subst hab
  rw [eq_of_perm hir htr h.cons_inv hp2 hq2]
theorem ltK_ne {p q:Ky} (h:LtK p q) (e:p=q):False:=by subst e;exact LtK_irr _ h
def SrtL (fs:List Fl):Prop:=fs.Pairwise fun f g=>LtK (firstK f.key) (firstK g.key)
theorem SrtL.apart {p:List Fl} (h:SrtL p):p.Pairwise fun f g=>firstK f.key≠firstK g.key:=List.Pairwise.imp (S:=fun f g:Fl=>firstK f.key≠firstK g.key) (fun {a b} h e=>ltK_ne h e) h
theorem SrtL.filter {p:List Fl} (h:SrtL p) (c:Fl→Bool):SrtL (p.filter c):=List.Pairwise.filter c h
theorem SrtL.left {p:List Fl} (h:SrtL p) (now:Int):SrtL (leftL now p):=h.filter _
theorem SrtL.drop {p:List Fl} (h:SrtL p) (k:Ky):SrtL (dropK p k):=h.filter _
theorem left_perm {p q:List Fl} (h:p.Perm q) (now:Int):(leftL now p).Perm (leftL now q):=h.filter _
theorem drop_perm {p q:List Fl} (h:p.Perm q) (k:Ky):(dropK p k).Perm (dropK q k):=h.filter _
theorem tput_perm {p q:List Fl} (h:p.Perm q) (f:Fl):(tputL f p).Perm (tputL f q):=(h.filter _).cons _
theorem has_perm {p q:List Fl} (h:p.Perm q) (k:Ky):hasK p k=hasK q k:=by
 cases hq:hasK q k with
 | true =>
  obtain ⟨f,hf,e⟩:=hasK_of hq
  unfold hasK
  exact List.any_eq_true.2 ⟨f,h.mem_iff.2 hf,by simpa using e⟩
 | false =>
  cases hp:hasK p k with
  | false=>rfl
  | true =>
   obtain ⟨f,hf,e⟩:=hasK_of hp
   exact absurd e (hasK_not hq f (h.mem_iff.1 hf))
theorem apart_one {p:List Fl} (h:p.Pairwise fun f g=>firstK f.key≠firstK g.key) {f g:Fl} (hf:f ∈ p) (hg:g ∈ p) (e:firstK f.key=firstK g.key):f=g:=by
 induction p with
 | nil=>cases hf
 | cons a r ih =>
  obtain ⟨h1,h2⟩:=List.pairwise_cons.1 h
  rcases List.mem_cons.1 hf with hf|hf <;> rcases List.mem_cons.1 hg with hg|hg
  ·rw [hf,hg]
  ·exact absurd (by rw [← hf];exact e) (h1 g hg)
  ·exact absurd (by rw [← hg];exact e.symm) (h1 f hf)
  ·exact ih h2 hf hg
theorem get_perm {p q:List Fl} (h:p.Perm q) (ap:q.Pairwise fun f g=>firstK f.key≠firstK g.key) (k:Ky) (hk:hasK q k=true):getK p k=getK q k:=by
 obtain ⟨h1,e1⟩:=getK_in hk
 obtain ⟨h2,e2⟩:=getK_in (fs:=p) (k:=k) (by rw [has_perm h];exact hk)
 exact apart_one ap (h.mem_iff.1 h2) h1 (e2.trans e1.symm)
theorem ins_srt {f:Fl} {fs:List Fl} (h:SrtL fs):(insL f fs).Perm (tputL f fs)∧SrtL (insL f fs):=by
 have key:∀ (rest:List Fl) (s:List Fl × Bool) (done:List Fl),SrtL (done++rest)→SrtL s.1 →
   ((s.2=true∧s.1.Perm (tputL f done)∧∀ g ∈ rest,LtK (firstK f.key) (firstK g.key))∨(s.2=false∧s.1=done.filter (fun g=>!decide (firstK g.key=firstK f.key))∧∀ g ∈ s.1,LtK (firstK g.key) (firstK f.key))) →
   SrtL (rest.foldl (insStep f) s).1∧(((rest.foldl (insStep f) s).2=true∧(rest.foldl (insStep f) s).1.Perm (tputL f (done++rest)))∨((rest.foldl (insStep f) s).2=false∧(rest.foldl (insStep f) s).1=(done++rest).filter (fun g=>!decide (firstK g.key=firstK f.key))∧∀ g ∈ (rest.foldl (insStep f) s).1,LtK (firstK g.key) (firstK f.key))):=by
  intro rest
  induction rest with
  | nil =>
   intro s done hs h1 h2
   rw [List.append_nil]
   refine ⟨h1,?_⟩
   rcases h2 with ⟨a,b,_⟩|⟨a,b,c⟩
   ·exact .inl ⟨a,b⟩
   ·exact .inr ⟨a,b,c⟩
  | cons a r ih =>
   intro s done hs h1 h2
   rw [List.foldl_cons]
   have hda:∀ g ∈ done,LtK (firstK g.key) (firstK a.key):=fun g hg=>(List.pairwise_append.1 hs).2.2 g hg a List.mem_cons_self
   have har:∀ g ∈ r,LtK (firstK a.key) (firstK g.key):=(List.pairwise_cons.1 (List.pairwise_append.1 hs).2.1).1
   have e:done++a :: r=(done++[a])++r:=by simp
   rw [e] at hs ⊢
   have hin:∀ g,g ∈ tputL f done→g=f∨g ∈ done:=fun g hg=>by
    rcases List.mem_cons.1 hg with h|h
    ·exact .inl h
    ·exact .inr (List.mem_filter.1 h).1
   by_cases h3:firstK a.key=firstK f.key
   ·have e1:insStep f s a=s:=if_pos h3
    have e2:(done++[a]).filter (fun g=>!decide (firstK g.key=firstK f.key))=done.filter (fun g=>!decide (firstK g.key=firstK f.key)):=by
     rw [List.filter_append];simp [h3]
    rw [e1]
    refine ih s _ hs h1 ?_
    rcases h2 with ⟨p,q,u⟩|⟨p,q,u⟩
    ·refine .inl ⟨p,?_,fun g hg=>u g (List.mem_cons_of_mem _ hg)⟩
     unfold tputL
     rw [e2]
     exact q
    ·exact .inr ⟨p,by rw [e2];exact q,u⟩
   have e2:(done++[a]).filter (fun g=>!decide (firstK g.key=firstK f.key))=done.filter (fun g=>!decide (firstK g.key=firstK f.key))++[a]:=by
    rw [List.filter_append];simp [h3]
   by_cases h4:s.2=false∧LtK (firstK f.key) (firstK a.key)
   ·have e1:insStep f s a=(s.1++[f]++[a],true):=by unfold insStep;rw [if_neg h3,if_pos h4]
    rw [e1]
    rcases h2 with ⟨p,_,_⟩|⟨p,q,u⟩
    ·rw [h4.1] at p;cases p
    refine ih _ _ hs ?_ (.inl ⟨rfl,?_,fun g hg=>LtK_trans h4.2 (har g hg)⟩)
    ·show List.Pairwise _ (s.1++[f]++[a])
     rw [List.append_assoc]
     refine List.pairwise_append.2 ⟨h1,?_,?_⟩
     ·exact List.pairwise_cons.2 ⟨fun g hg=>by rw [List.mem_singleton.1 hg];exact h4.2,List.pairwise_singleton _ _⟩
     ·intro x hx y hy
      rcases List.mem_cons.1 hy with hy|hy
      ·rw [hy];exact u x hx
      ·rw [List.mem_singleton.1 hy];exact LtK_trans (u x hx) h4.2
    ·show (s.1++[f]++[a]).Perm _
     unfold tputL
     rw [e2,q,List.append_assoc]
     exact List.perm_middle
   ·have e1:insStep f s a=(s.1++[a],s.2):=by unfold insStep;rw [if_neg h3,if_neg h4]
    rw [e1]
    have hsa:∀ g ∈ s.1,LtK (firstK g.key) (firstK a.key):=by
     intro g hg
     rcases h2 with ⟨p,q,u⟩|⟨p,q,u⟩
     ·rcases hin g (q.mem_iff.1 hg) with h|h
      ·rw [h];exact u a List.mem_cons_self
      ·exact hda g h
     ·rw [q] at hg
      exact hda g (List.mem_filter.1 hg).1
    refine ih _ _ hs ?_ ?_
    ·exact List.pairwise_append.2 ⟨h1,List.pairwise_singleton _ _,fun x hx y hy=>by rw [List.mem_singleton.1 hy];exact hsa x hx⟩
    ·rcases h2 with ⟨p,q,u⟩|⟨p,q,u⟩
     ·refine .inl ⟨p,?_,fun g hg=>u g (List.mem_cons_of_mem _ hg)⟩
      show (s.1++[a]).Perm _
      unfold tputL
      rw [e2]
      exact q.append_right [a]
     ·refine .inr ⟨p,by rw [e2];show s.1++[a]=_;rw [← q],?_⟩
      intro g hg
      rcases List.mem_append.1 hg with hg|hg
      ·exact u g hg
      ·rw [List.mem_singleton.1 hg]
       rcases LtK_total h3 with h|h
       ·exact h
       ·exact absurd ⟨p,h⟩ h4
 have hk:=key fs ([],false) [] (by simpa using h) List.Pairwise.nil (.inr ⟨rfl,rfl,fun g hg=>by cases hg⟩)
 rw [List.nil_append] at hk
 obtain ⟨hs,h2⟩:=hk
 unfold insL insF
 rcases h2 with ⟨p,q⟩|⟨p,q,u⟩
 ·rw [if_pos p]
  exact ⟨q,hs⟩
 ·rw [if_neg (by rw [p];decide)]
  refine ⟨?_,List.pairwise_append.2 ⟨hs,List.pairwise_singleton _ _,fun x hx y hy=>by rw [List.mem_singleton.1 hy];exact u x hx⟩⟩
  rw [q]
  exact List.perm_append_comm
theorem insK_cons (a:Ky) (r:List Ky) (x:Ky):insK (a :: r) x=if LtK a x then a :: insK r x else x :: a :: r:=by
 unfold insK posK
 split
 ·rename_i h
  rw [List.takeWhile_cons_of_pos (by simpa using h)]
  simp
 ·rename_i h
  rw [List.takeWhile_cons_of_neg (by simpa using h)]
  simp
theorem insK_perm (gs:List Ky) (x:Ky):(insK gs x).Perm (x :: gs):=by
 unfold insK
 rw [List.append_assoc]
 refine (List.perm_middle (a:=x) (l₁:=gs.take (posK gs x)) (l₂:=gs.drop (posK gs x))).trans ?_
 rw [List.take_append_drop]
theorem insK_srt {gs:List Ky} {x:Ky} (h:gs.Pairwise LtK) (hx:∀ y ∈ gs,y≠x):(insK gs x).Pairwise LtK:=by
 induction gs with
 | nil=>exact List.pairwise_singleton _ _
 | cons a r ih =>
  obtain ⟨h1,h2⟩:=List.pairwise_cons.1 h
  rw [insK_cons]
  split
  ·rename_i hl
   refine List.pairwise_cons.2 ⟨fun y hy=>?_,ih h2 (fun y hy=>hx y (List.mem_cons_of_mem _ hy))⟩
   rcases List.mem_cons.1 ((insK_perm r x).mem_iff.1 hy) with e|e
   ·rw [e];exact hl
   ·exact h1 y e
  ·rename_i hl
   have hxa:LtK x a:=by
    rcases LtK_total (hx a List.mem_cons_self) with e|e
    ·exact absurd e hl
    ·exact e
   refine List.pairwise_cons.2 ⟨fun y hy=>?_,h⟩
   rcases List.mem_cons.1 hy with e|e
   ·rw [e];exact hxa
   ·exact LtK_trans hxa (h1 y e)
theorem gon_srt (now:Int) {fs:List Fl} (ap:fs.Pairwise fun f g=>firstK f.key≠firstK g.key):(gonK now fs).Perm ((fs.filter fun f=>goneB now f).map Fl.key)∧(gonK now fs).Pairwise LtK:=by
 have key:∀ (rest done:List Fl) (gs:List Ky),(done++rest).Pairwise (fun f g=>firstK f.key≠firstK g.key)→gs.Perm ((done.filter fun f=>goneB now f).map Fl.key)→gs.Pairwise LtK→(rest.foldl (fun gs f=>if goneB now f=true then insK gs f.key else gs) gs).Perm (((done++rest).filter fun f=>goneB now f).map Fl.key)∧(rest.foldl (fun gs f=>if goneB now f=true then insK gs f.key else gs) gs).Pairwise LtK:=by
  intro rest
  induction rest with
  | nil=>intro done gs h1 h2 h3;rw [List.append_nil];exact ⟨h2,h3⟩
  | cons a r ih =>
   intro done gs h1 h2 h3
   rw [List.foldl_cons]
   have hda:∀ g ∈ done,firstK g.key≠firstK a.key:=fun g hg=>(List.pairwise_append.1 h1).2.2 g hg a List.mem_cons_self
   have e:done++a :: r=(done++[a])++r:=by simp
   rw [e] at h1 ⊢
   split
   ·rename_i hg
    refine ih _ _ h1 ?_ ?_
    ·rw [List.filter_append]
     simp only [hg,List.filter_cons,List.filter_nil,if_true,List.map_append,List.map_cons,List.map_nil]
     exact ((insK_perm gs a.key).trans (h2.cons _)).trans (List.perm_append_comm (l₁:=[a.key]))
    ·refine insK_srt h3 (fun y hy e=>?_)
     obtain ⟨g,hg1,hg2⟩:=List.mem_map.1 (h2.mem_iff.1 hy)
     exact hda g (List.mem_filter.1 hg1).1 (by rw [hg2,e])
   ·rename_i hg
    refine ih _ _ h1 ?_ h3
    rw [List.filter_append]
    simpa [List.filter_cons,hg] using h2
 have:=key fs [] [] (by simpa using ap) (by simp) List.Pairwise.nil
 simpa [gonK] using this
theorem gon_eq (now:Int) {p q:List Fl} {ks:List Ky} (h:p.Perm q) (ap:q.Pairwise fun f g=>firstK f.key≠firstK g.key) (hk:ks.Perm ((p.filter fun f=>goneB now f).map Fl.key)) (hs:ks.Pairwise fun x y=>¬ LtK y x):ks=gonK now q:=by
 obtain ⟨h1,h2⟩:=gon_srt now ap
 have hp:ks.Perm (gonK now q):=(hk.trans ((h.filter _).map _)).trans h1.symm
 have hne:(gonK now q).Pairwise fun x y=>x≠y:=List.Pairwise.imp (S:=fun x y:Ky=>x≠y) (fun {a b} h e=>ltK_ne h e) h2
 have hnk:ks.Pairwise fun x y=>x≠y:=(hp.pairwise_iff (fun {a b} h e=>h e.symm)).2 hne
 refine eq_of_perm (R:=LtK) LtK_irr (fun _ _ _=>LtK_trans) hp ?_ h2
 exact List.Pairwise.imp (fun {a b} (h:a≠b∧¬ LtK b a)=>(LtK_total h.1).resolve_right h.2) (List.Pairwise.and hnk hs)
end Go.Proofs.YtkhheooofcpfdaaGreatDoor
namespace Go.Proofs.YtkhheooofcpfdaaGreatDoor
open Go.RowKit Go.Maps
set_option linter.unusedVariables false
structure Twin (t u:Tb):Prop where
 mx:t.max=u.max
 nw:t.now=u.now
 pm:t.fs.Perm u.fs
 so:SrtL u.fs
theorem Twin.ap {t u:Tb} (h:Twin t u):t.fs.Pairwise fun f g=>firstK f.key≠firstK g.key:=(h.pm.pairwise_iff (fun {a b} h e=>h e.symm)).2 h.so.apart
theorem Twin.tim {t u:Tb} (h:Twin t u) (now:Int):timE t now=timE u now:=by unfold timE;rw [h.nw]
theorem Twin.left {t u:Tb} (h:Twin t u) (now:Int):(leftL now t.fs).Perm (leftL now u.fs):=left_perm h.pm now
theorem Twin.has {t u:Tb} (h:Twin t u) (now:Int) (k:Ky):hasK (leftL now t.fs) k=hasK (leftL now u.fs) k:=has_perm (h.left now) k
theorem Twin.len {t u:Tb} (h:Twin t u) (now:Int):(leftL now t.fs).length=(leftL now u.fs).length:=(h.left now).length_eq
theorem Twin.get {t u:Tb} (h:Twin t u) (now:Int) (k:Ky):getK (leftL now t.fs) k=getK (leftL now u.fs) k:=by
 cases hk:hasK (leftL now u.fs) k with
 | true=>exact get_perm (h.left now) (h.so.left now).apart k hk
 | false=>rw [getK_no hk,getK_no (by rw [h.has];exact hk)]
theorem Twin.tbE {t u:Tb} (h:Twin t u) (k:Ky) (s:Sg) (rule now:Int):tbE t k s rule now=tbE u k s rule now:=by
 unfold Go.Proofs.YtkhheooofcpfdaaGreatDoor.tbE
 rw [h.tim,h.has,h.len,h.mx]
theorem Twin.tbF {t u:Tb} (h:Twin t u) (k:Ky) (s:Sg) (rule now:Int):tbF t k s rule now=tbF u k s rule now:=by
 unfold Go.Proofs.YtkhheooofcpfdaaGreatDoor.tbF
 rw [h.tbE]
theorem Twin.put {t u:Tb} (h:Twin t u) (f:Fl) (now:Int):Twin { max:=t.max,now:=now,fs:=tputL f (leftL now t.fs) } { max:=u.max,now:=now,fs:=insL f (leftL now u.fs) } :=
 ⟨h.mx,rfl,(tput_perm (h.left now) f).trans (ins_srt (h.so.left now)).1.symm,(ins_srt (h.so.left now)).2⟩
theorem Twin.tick {t u:Tb} (h:Twin t u) (now:Int):Twin { max:=t.max,now:=now,fs:=leftL now t.fs } { max:=u.max,now:=now,fs:=leftL now u.fs }:=⟨h.mx,rfl,h.left now,h.so.left now⟩
theorem Twin.drop {t u:Tb} (h:Twin t u) (k:Ky):Twin { t with fs:=dropK t.fs k } { u with fs:=dropK u.fs k }:=⟨h.mx,h.nw,drop_perm h.pm k,h.so.drop k⟩
theorem Twin.gon {t u:Tb} (h:Twin t u) (now:Int) {ks:List Ky} (hk:ks.Perm ((t.fs.filter fun f=>goneB now f).map Fl.key)) (hs:ks.Pairwise fun x y=>¬ LtK y x):ks=gonK now u.fs:=gon_eq now h.pm h.so.apart hk hs
theorem Twin.begun {t u:Tb} (h:Twin t u) (k:Ky) (s:Sg) (rule now:Int):Twin (tbS t k s rule now) (lbS u k s rule now):=by
 unfold tbS lbS
 rw [h.tbE]
 split
 ·rename_i he
  have hk:hasK (leftL now t.fs) k=false:=by
   rw [← h.tbE] at he
   unfold Go.Proofs.YtkhheooofcpfdaaGreatDoor.tbE at he
   cases hh:hasK (leftL now t.fs) k with
   | false=>rfl
   | true =>
    rw [if_pos hh] at he
    split at he
    ·rename_i q;exact absurd he q
    ·split at he
     ·rename_i q;exact absurd he q
     ·exact absurd he (by decide)
  have:=h.put (begG k s rule now) now
  rw [tputL_new (show hasK (leftL now t.fs) (begG k s rule now).key=false from hk)] at this
  exact this
 ·exact h
theorem Twin.adB {t u:Tb} (h:Twin t u) (f:Fl) (now:Int):adB t f now=adB u f now:=by
 unfold Go.Proofs.YtkhheooofcpfdaaGreatDoor.adB
 rw [h.get]
theorem Twin.adE {t u:Tb} (h:Twin t u) (f:Fl) (now:Int):adE t f now=adE u f now:=by
 unfold Go.Proofs.YtkhheooofcpfdaaGreatDoor.adE
 rw [h.tim,h.adB,h.has,h.len,h.mx]
theorem Twin.adopted {t u:Tb} (h:Twin t u) (f:Fl) (now:Int):Twin (adS t f now) (laS u f now):=by
 unfold adS laS
 rw [h.adE,h.adB]
 split
 ·exact h
 ·split
  ·exact h.put f now
  ·exact h.tick now
theorem Twin.ofG {t u:Tb} (h:Twin t u) (k:Ky) (s:Sg) (now:Int):ofG t k s now=ofG u k s now:=by
 unfold Go.Proofs.YtkhheooofcpfdaaGreatDoor.ofG
 rw [h.get]
theorem Twin.ofE {t u:Tb} (h:Twin t u) (k:Ky) (s:Sg) (now:Int):ofE t k s now=ofE u k s now:=by
 unfold Go.Proofs.YtkhheooofcpfdaaGreatDoor.ofE
 rw [h.tim,h.has,h.get]
end Go.Proofs.YtkhheooofcpfdaaGreatDoor
namespace Go.Proofs.YtkhheooofcpfdaaGreatDoor
open Go.RowKit Go.Maps
set_option linter.unusedVariables false
theorem kys_row {w:World} {a:Option Addr} {N c:Nat} {ks:List Ky} (h:Kys w (.slice a N c) ks) (n:Nat) (hn:n < ks.length):∃ b,a=some ⟨b,0,none⟩∧N≤c∧c≤9223372036854775807∧w.cell? ⟨b,n * 5,none⟩=some (.int .i64 ks[n].kind)∧w.cell? ⟨b,n * 5+1,none⟩=some (.int .i64 ks[n].src)∧w.cell? ⟨b,n * 5+2,none⟩=some (.int .i64 ks[n].frm)∧w.cell? ⟨b,n * 5+3,none⟩=some (.int .i64 ks[n].dst)∧w.cell? ⟨b,n * 5+4,none⟩=some (.int .i64 ks[n].too):=by
 obtain ⟨b,h1,_,h3,h4,h5⟩:=kys_at h n hn
 exact ⟨b,h1,h3,h4,h5⟩
def FlR (w:World) (v:Value) (fs:List Fl):Prop:=∃ base,OwnFl w base v fs
theorem FlR.len {w:World} {v:Value} {fs:List Fl} (h:FlR w v fs):∃ a c,v = .slice a fs.length c:=by
 obtain ⟨_,h⟩:=h
 exact OwnN.len h
theorem FlR.below {w w':World} {v:Value} {fs:List Fl} (h:FlR w v fs) (hb:Below w.heap.size w w'):FlR w' v fs:=by
 obtain ⟨base,h⟩:=h
 exact ⟨base,OwnN.below h hb⟩
theorem fls_row {w:World} {a:Option Addr} {N c:Nat} {fs:List Fl} (h:FlR w (.slice a N c) fs) (n:Nat) (hn:n < fs.length):∃ b,a=some ⟨b,0,none⟩∧N≤c∧c≤9223372036854775807∧w.cell? ⟨b,n * 15,none⟩=some (.int .i64 fs[n].key.kind)∧w.cell? ⟨b,n * 15+1,none⟩=some (.int .i64 fs[n].key.src)∧w.cell? ⟨b,n * 15+2,none⟩=some (.int .i64 fs[n].key.frm)∧w.cell? ⟨b,n * 15+3,none⟩=some (.int .i64 fs[n].key.dst)∧w.cell? ⟨b,n * 15+4,none⟩=some (.int .i64 fs[n].key.too)∧w.cell? ⟨b,n * 15+5,none⟩=some (.int .i64 fs[n].st)∧w.cell? ⟨b,n * 15+6,none⟩=some (.int .i64 fs[n].unt)∧w.cell? ⟨b,n * 15+7,none⟩=some (.int .i64 fs[n].stp)∧w.cell? ⟨b,n * 15+8,none⟩=some (.int .i64 fs[n].h0)∧w.cell? ⟨b,n * 15+9,none⟩=some (.int .i64 fs[n].h1)∧w.cell? ⟨b,n * 15+10,none⟩=some (.int .i64 fs[n].w0)∧w.cell? ⟨b,n * 15+11,none⟩=some (.int .i64 fs[n].w1)∧w.cell? ⟨b,n * 15+12,none⟩=some (.bool fs[n].d0)∧w.cell? ⟨b,n * 15+13,none⟩=some (.bool fs[n].d1)∧w.cell? ⟨b,n * 15+14,none⟩=some (.int .i64 fs[n].num):=by
 obtain ⟨base,h⟩:=h
 obtain ⟨g,cap,he,_,_,hlc,hcm⟩:=OwnN.shape h (by omega)
 simp only [Value.slice.injEq] at he
 obtain ⟨rfl,rfl,rfl⟩:=he
 exact ⟨g,rfl,hlc,by unfold maxLen at hcm;omega,own_fl h n hn⟩
theorem kys_of_own {w:World} {base:Nat} {v:Value} {ks:List Ky} (h:OwnKy w base v ks):Kys w v ks:=by
 by_cases h0:0 < ks.length
 ·obtain ⟨g,cap,rfl,_,hg,hlc,hcm⟩:=OwnN.shape h h0
  refine .inr ⟨g,_,cap,rfl,hlc,hcm,rfl,hg,fun i hi=>?_⟩
  have c:=fun j u hj=>OwnN.cell h (fun _=>rfl) i hi j u hj
  exact ⟨c 0 _ rfl,c 1 _ rfl,c 2 _ rfl,c 3 _ rfl,c 4 _ rfl⟩
 ·obtain ⟨a,c,hv⟩:=OwnN.len h
  have e:ks=[]:=List.eq_nil_of_length_eq_zero (by omega)
  subst e
  exact .inl ⟨rfl,a,c,hv⟩
theorem kyNeqS (q:Ky) (w:World):(binOp .neq 37 (.agg #[.int .i64 q.kind,.int .i64 q.src,.int .i64 q.frm,.int .i64 q.dst,.int .i64 q.too]) (.agg #[.int .i64 q.kind,.int .i64 q.src,.int .i64 q.frm,.int .i64 q.dst,.int .i64 q.too])).run Tryz.prog w = .ok (.bool false) w:=by
 rw [Tryz.keyNeqG,decide_eq_true rfl];rfl
set_option maxRecDepth 100000 in
set_option maxHeartbeats 16000000 in
theorem sameKys (v1 v2:Value) (ps:List Ky) (w:World) (h1:Kys w v1 ps) (h2:Kys w v2 ps) :
  Calls Tryz.prog 18 #[v1,v2] w fun e w'=>e = .returned (.bool true)∧Below w.heap.size w w':=by
 obtain ⟨a1,c1,rfl⟩:=kys_len h1
 obtain ⟨a2,c2,rfl⟩:=kys_len h2
 obtain ⟨N,hN⟩:∃ N,ps.length=N:=⟨_,rfl⟩
 rw [hN] at h1 h2 ⊢
 have HN:=hidE hN
 have H1:=hidE h1
 have H2:=hidE h2
 clear h1 h2 hN
 go_enter Tryz.func18,Tryz.ntmps18
 go_wp2_with fail
 go_loopw [5] (fun i wr=>∃ k:Nat,k≤N∧i = .int .i64 (k:Int)∧Hid (Below w.heap.size w wr)) (fun i _=>((N:Int) - intOf i).toNat)
 case atStart=>exact ⟨0,by omega,rfl,Below.refl _ _⟩
 case round =>
  obtain ⟨k,hk,rfl,HB⟩:=hrel
  by_cases hkn:k < N
  ·have i1:(k:Int) < (N:Int):=by omega
   have i2:(0:Int)≤(k:Int):=by omega
   have hkp:k < ps.length:=by have:=HN.out;omega
   obtain ⟨b1,e1,hl1,hx1,x0,x1,x2,x3,x4⟩:=kys_row (H1.out.below HB.out) k hkp
   obtain ⟨b2,e2,hl2,hx2,y0,y1,y2,y3,y4⟩:=kys_row (H2.out.below HB.out) k hkp
   subst e1 e2
   have hne:=kyNeqS ps[k]
   generalize ps[k]=q at hne x0 y0 x1 y1 x2 y2 x3 y3 x4 y4
   clear hkp
   go_upto_region 6 with fail
   go_region
   all_goals
    go_wp2_with fail
    go_roundw
    case rel=>exact ⟨k+1,by omega,by go_num,HB.out.drew⟩
    case measure=>simp [intOf];omega
  ·have hkn':k=N:=by omega
   subst hkn'
   have i1:¬ (k:Int) < (k:Int):=by omega
   go_wp2_with fail
   first|exact ⟨rfl,HB.out⟩|(go_ret;exact ⟨rfl,HB.out⟩)|(simp;exact HB.out)
set_option maxRecDepth 100000 in
set_option maxHeartbeats 16000000 in
theorem sameFls (v1 v2:Value) (ps:List Fl) (w:World) (h1:FlR w v1 ps) (h2:FlR w v2 ps) :
  Calls Tryz.prog 21 #[v1,v2] w fun e w'=>e = .returned (.bool true)∧Below w.heap.size w w':=by
 obtain ⟨a1,c1,rfl⟩:=FlR.len h1
 obtain ⟨a2,c2,rfl⟩:=FlR.len h2
 obtain ⟨N,hN⟩:∃ N,ps.length=N:=⟨_,rfl⟩
 rw [hN] at h1 h2 ⊢
 have HN:=hidE hN
 have H1:=hidE h1
 have H2:=hidE h2
 clear h1 h2 hN
 go_enter Tryz.func21,Tryz.ntmps21
 go_wp2_with fail
 go_loopw [5] (fun i wr=>∃ k:Nat,k≤N∧i = .int .i64 (k:Int)∧Hid (Below w.heap.size w wr)) (fun i _=>((N:Int) - intOf i).toNat)
 case atStart=>exact ⟨0,by omega,rfl,Below.refl _ _⟩
 case round =>
  obtain ⟨k,hk,rfl,HB⟩:=hrel
  by_cases hkn:k < N
  ·have i1:(k:Int) < (N:Int):=by omega
   have i2:(0:Int)≤(k:Int):=by omega
   have hkp:k < ps.length:=by have:=HN.out;omega
   obtain ⟨b1,e1,hl1,hx1,x0,x1,x2,x3,x4,x5,x6,x7,x8,x9,x10,x11,x12,x13,x14⟩:=fls_row (H1.out.below HB.out) k hkp
   obtain ⟨b2,e2,hl2,hx2,y0,y1,y2,y3,y4,y5,y6,y7,y8,y9,y10,y11,y12,y13,y14⟩:=fls_row (H2.out.below HB.out) k hkp
   subst e1 e2
   have hne:=Tryz.flNeq ps[k]
   generalize ps[k]=q at hne x0 y0 x1 y1 x2 y2 x3 y3 x4 y4 x5 y5 x6 y6 x7 y7 x8 y8 x9 y9 x10 y10 x11 y11 x12 y12 x13 y13 x14 y14
   clear hkp
   go_upto_region 6 with fail
   go_region
   all_goals
    go_wp2_with fail
    go_roundw
    case rel=>exact ⟨k+1,by omega,by go_num,HB.out.drew⟩
    case measure=>simp [intOf];omega
  ·have hkn':k=N:=by omega
   subst hkn'
   have i1:¬ (k:Int) < (k:Int):=by omega
   go_wp2_with fail
   first|exact ⟨rfl,HB.out⟩|(go_ret;exact ⟨rfl,HB.out⟩)|(simp;exact HB.out)
theorem wf_i64 {z:Int} (h0 : -1000≤z) (h1:z≤1000):(Lit.int .i64 z).wf=true:=by
 simp only [Lit.wf,Bool.and_eq_true,decide_eq_true_eq]
 exact ⟨Int.le_trans (show IntKind.min .i64≤-1000 by decide) h0,Int.le_trans h1 (show (1000:Int)≤IntKind.max .i64 by decide)⟩
set_option maxRecDepth 100000 in
set_option maxHeartbeats 8000000 in
theorem lkeyOf_any (n:Int) (hn : -9223372036854775808≤n∧n≤9223372036854775807):∃ k,KyOk k∧∀ w,Calls Tryz.prog 6 #[.int .i64 n] w fun e w'=>e = .returned (keyV k)∧Below w.heap.size w w':=by
 obtain ⟨n0,n1⟩:=hn
 by_cases h:n < 0
 ·have hm0:0≤-(n+1):=by omega
  have hm1 : -(n+1)≤9223372036854775807:=by omega
  have ha0 : -9223372036854775808≤n+1:=by omega
  have ha1:n+1≤9223372036854775807:=by omega
  obtain ⟨q,hq⟩:∃ q,-(n+1)=q:=⟨_,rfl⟩
  rw [hq] at hm0 hm1
  refine ⟨⟨1+q % 3,10+q % 5,7,20 - q % 3,7⟩,⟨wf_i64 (by show -1000≤1+q % 3;omega) (by show 1+q % 3≤1000;omega),wf_i64 (by show -1000≤10+q % 5;omega) (by show 10+q % 5≤1000;omega),wf_i64 (by show (-1000:Int)≤7;decide) (by show (7:Int)≤1000;decide),wf_i64 (by show -1000≤20 - q % 3;omega) (by show 20 - q % 3≤1000;omega),wf_i64 (by show (-1000:Int)≤7;decide) (by show (7:Int)≤1000;decide)⟩,fun w=>?_⟩
  unfold keyV
  go_enter Tryz.func6,Tryz.ntmps6
  go_upto_region 3 with fail
  try rw [hq]
  clear hq ha0 ha1 n0 n1 h
  have i0:¬ q < 0:=by omega
  go_wp2_with fail
  exact bodyPost_ret (v:=.agg #[.int .i64 (1+q % 3),.int .i64 (10+q % 5),.int .i64 7,.int .i64 (20 - q % 3),.int .i64 7]) (by simp [results,Tryz.results6,go_sem]) rfl ⟨rfl,by repeat (first|exact Below.refl _ _|refine Below.setCell ?_ (by simp) _|refine Below.alloc ?_ (by simp) _)⟩
 ·have i0:¬ n < 0:=h
  have i1:0≤n:=by omega
  refine ⟨⟨1+n % 3,10+n % 5,7,20 - n % 3,7⟩,⟨wf_i64 (by show -1000≤1+n % 3;omega) (by show 1+n % 3≤1000;omega),wf_i64 (by show -1000≤10+n % 5;omega) (by show 10+n % 5≤1000;omega),wf_i64 (by show (-1000:Int)≤7;decide) (by show (7:Int)≤1000;decide),wf_i64 (by show -1000≤20 - n % 3;omega) (by show 20 - n % 3≤1000;omega),wf_i64 (by show (-1000:Int)≤7;decide) (by show (7:Int)≤1000;decide)⟩,fun w=>?_⟩
  unfold keyV
  go_enter Tryz.func6,Tryz.ntmps6
  go_wp2_with fail
  exact bodyPost_ret (v:=.agg #[.int .i64 (1+n % 3),.int .i64 (10+n % 5),.int .i64 7,.int .i64 (20 - n % 3),.int .i64 7]) (by simp [results,Tryz.results6,go_sem]) rfl ⟨rfl,by repeat (first|exact Below.refl _ _|refine Below.setCell ?_ (by simp) _|refine Below.alloc ?_ (by simp) _)⟩
end Go.Proofs.YtkhheooofcpfdaaGreatDoor
namespace Go.Proofs.YtkhheooofcpfdaaGreatDoor
open Go.RowKit Go.Maps
set_option linter.unusedVariables false
theorem tpErr (e:Int):ErrVal (errV e) e:=by
 unfold errV ErrVal
 split
 ·rename_i h;exact .inl ⟨rfl,h⟩
 ·exact .inr rfl
theorem tp_same (z:Int) (W:World) (hE:ErrLaid W):Calls Tryz.prog 5 #[errV z,.int .i64 z] W fun e w'=>e = .returned (.bool true)∧Below W.heap.size W w':=by
 refine (error_val (tpErr z) z W hE).mono ?_
 rintro e w' ⟨h1,h2⟩
 exact ⟨by rw [h1];simp,h2⟩
/-! ### pure -/
theorem tput_len {fs:List Fl} {f:Fl} (h:hasK fs f.key=true):(tputL f fs).length≤fs.length:=by
 obtain ⟨g,hg,e⟩:=hasK_of h
 have h1:(fs.filter fun g=>!decide (firstK g.key=firstK f.key)).length < fs.length:=by
  rcases Nat.lt_or_ge (fs.filter fun g=>!decide (firstK g.key=firstK f.key)).length fs.length with h2|h2
  ·exact h2
  ·have h3:=List.filter_sublist (p:=fun g=>!decide (firstK g.key=firstK f.key)) (l:=fs)
   have h4:=h3.eq_of_length (Nat.le_antisymm h3.length_le h2)
   have h5:=hg
   rw [← h4] at h5
   have:=(List.mem_filter.1 h5).2
   rw [decide_eq_true e] at this
   cases this
 show (fs.filter _).length+1≤fs.length
 omega
structure TpN (t u:Tb):Prop where
 ok:TbOk t
 tw:Twin t u
theorem TpN.len {t u:Tb} (h:TpN t u):t.fs.length≤1000∧u.fs.length≤1000:=by
 have h1:=h.ok.le
 have h2:=h.ok.mx
 have h3:=h.tw.pm.length_eq
 omega
theorem TpN.begun {t u:Tb} (h:TpN t u) (k:Ky) (s:Sg) (rule now:Int):TpN (tbS t k s rule now) (lbS u k s rule now):=⟨h.ok.begun k s rule now,h.tw.begun k s rule now⟩
theorem left_len (now:Int) (fs:List Fl):(leftL now fs).length≤fs.length:=List.length_filter_le _ _
theorem TpN.ticked {t u:Tb} (h:TpN t u) {now:Int} (hz:timE t now=0):TpN { max:=t.max,now:=now,fs:=leftL now t.fs } { max:=u.max,now:=now,fs:=leftL now u.fs }:=by
 have ht:=timE_ok hz
 have tw:=h.tw.tick now
 refine ⟨⟨h.ok.mx,⟨ht.1,ht.2.1⟩,tw.ap,?_⟩,tw⟩
 have:=h.ok.le
 have:=left_len now t.fs
 show ((leftL now t.fs).length:Int)≤t.max
 omega
theorem TpN.dropped {t u:Tb} (h:TpN t u) (k:Ky):TpN { t with fs:=dropK t.fs k } { u with fs:=dropK u.fs k }:=by
 have tw:=h.tw.drop k
 refine ⟨⟨h.ok.mx,h.ok.nw,tw.ap,?_⟩,tw⟩
 have:=h.ok.le
 have h2:(dropK t.fs k).length≤t.fs.length:=List.length_filter_le _ _
 show ((dropK t.fs k).length:Int)≤t.max
 omega
theorem Twin.offered {t u:Tb} (h:Twin t u) (k:Ky) (s:Sg) (now:Int):Twin (ofS t k s now) (loS u k s now):=by
 unfold ofS loS
 rw [h.ofE,h.ofG]
 split
 ·exact h.put _ now
 ·exact h
theorem ofG_has {t:Tb} {k:Ky} {s:Sg} {now:Int} (h:ofE t k s now=0):timE t now=0∧hasK (leftL now t.fs) (ofG t k s now).key=true:=by
 unfold ofE at h
 split at h
 ·rename_i q;exact absurd h q
 rename_i hz
 split at h
 ·cases h
 rename_i hh
 have hh':hasK (leftL now t.fs) k=true:=by simpa using hh
 have hk:=getK_in hh'
 refine ⟨Decidable.of_not_not hz,?_⟩
 unfold ofG
 rw [stpF_key h]
 unfold hasK
 exact List.any_eq_true.2 ⟨_,hk.1,by simp⟩
theorem TpN.offered {t u:Tb} (h:TpN t u) (k:Ky) (s:Sg) (now:Int):TpN (ofS t k s now) (loS u k s now):=by
 have tw:=h.tw.offered k s now
 refine ⟨?_,tw⟩
 by_cases he:ofE t k s now=0
 ·have h1:=ofG_has he
  have ht:=timE_ok h1.1
  have ap:=tw.ap
  unfold ofS at ap ⊢
  rw [if_pos he] at ap ⊢
  refine ⟨h.ok.mx,⟨ht.1,ht.2.1⟩,ap,?_⟩
  have:=h.ok.le
  have:=left_len now t.fs
  have:=tput_len h1.2
  show ((tputL (ofG t k s now) (leftL now t.fs)).length:Int)≤t.max
  omega
 ·unfold ofS
  rw [if_neg he]
  exact h.ok
theorem TpN.adopted {t u:Tb} (h:TpN t u) (f:Fl) (now:Int):TpN (adS t f now) (laS u f now):=by
 have tw:=h.tw.adopted f now
 refine ⟨?_,tw⟩
 by_cases he:adE t f now=0
 ·have ap:=tw.ap
  unfold adS at ap ⊢
  rw [if_neg (fun x=>x he)] at ap ⊢
  unfold adE at he
  split at he
  ·rename_i q;exact absurd he q
  rename_i hz
  split at he
  ·rename_i q;exact absurd he q
  split at he
  ·cases he
  rename_i hf
  have ht:=timE_ok (Decidable.of_not_not hz)
  refine ⟨h.ok.mx,⟨ht.1,ht.2.1⟩,ap,?_⟩
  have:=h.ok.le
  have:=left_len now t.fs
  show ((if adB t f now=true then tputL f (leftL now t.fs) else leftL now t.fs).length:Int)≤t.max
  split
  ·rename_i hB
   cases hh:hasK (leftL now t.fs) f.key with
   | true =>
    have:=tput_len hh
    omega
   | false =>
    rw [tputL_new hh,List.length_cons]
    have:¬ t.max≤((leftL now t.fs).length:Int):=fun x=>hf ⟨hB,hh,x⟩
    omega
  ·omega
 ·unfold adS
  rw [if_pos he]
  exact h.ok
theorem Twin.ofF {t u:Tb} (h:Twin t u) (k:Ky) (s:Sg) (now:Int):ofF t k s now=ofF u k s now:=by
 unfold Go.Proofs.YtkhheooofcpfdaaGreatDoor.ofF
 rw [h.ofE,h.ofG]
theorem Twin.hasN {t u:Tb} (h:Twin t u) (k:Ky):hasK t.fs k=hasK u.fs k:=has_perm h.pm k
theorem Twin.getN {t u:Tb} (h:Twin t u) (k:Ky):getK t.fs k=getK u.fs k:=by
 cases hk:hasK u.fs k with
 | true=>exact get_perm h.pm h.so.apart k hk
 | false=>rw [getK_no hk,getK_no (by rw [h.hasN];exact hk)]
theorem Twin.all {t u:Tb} (h:Twin t u) {qs:List Ky} (hp:qs.Perm (t.fs.map fun f=>firstK f.key)) (hs:qs.Pairwise fun p q=>¬ LtK q p):qs.map (getK t.fs)=u.fs:=by
 have hq:qs=u.fs.map fun f=>firstK f.key:=by
  have hp2:qs.Perm (u.fs.map fun f=>firstK f.key):=hp.trans (h.pm.map _)
  have hu:(u.fs.map fun f=>firstK f.key).Pairwise LtK:=List.pairwise_map.2 h.so
  have hn:qs.Pairwise fun p q=>p≠q:=(hp2.pairwise_iff (fun {a b} h e=>h e.symm)).2 (List.Pairwise.imp (fun {a b} h e=>ltK_ne h e) hu)
  have hl:qs.Pairwise LtK:=by
   have:=hs.and hn
   refine List.Pairwise.imp ?_ this
   intro a b ⟨h1,h2⟩
   rcases LtK_total h2 with h|h
   ·exact h
   ·exact absurd h h1
  exact eq_of_perm (fun _=>LtK_irr _) (fun _ _ _=>LtK_trans) hp2 hl hu
 rw [hq,List.map_map]
 have:∀ f ∈ u.fs,(getK t.fs ∘ fun f=>firstK f.key) f=f:=fun f hf=>by
  show getK t.fs (firstK f.key)=f
  have hk:hasK u.fs (firstK f.key)=true:=by
   unfold hasK
   exact List.any_eq_true.2 ⟨f,hf,by simp [first_idem]⟩
  rw [h.getN]
  obtain ⟨h1,h2⟩:=getK_in hk
  rw [first_idem] at h2
  exact apart_one h.so.apart h1 hf h2
 rw [List.map_congr_left this]
 simp
end Go.Proofs.YtkhheooofcpfdaaGreatDoor
namespace Go.Proofs.YtkhheooofcpfdaaGreatDoor
open Go.RowKit Go.Maps
set_option linter.unusedVariables false
structure Kp (W W':World):Prop where
 sz:W.heap.size≤W'.heap.size
 bl:∀ (i:Nat) (cs:Array Value) (T:TypeId) (z:Nat × Nat),W.heap[i]? = some (.cells cs T z)→T≠76→T≠33→W'.heap[i]? = some (.cells cs T z)
theorem Kp.refl (W:World):Kp W W:=⟨Nat.le_refl _,fun _ _ _ _ h _ _=>h⟩
theorem Kp.trans {a b c:World} (h:Kp a b) (k:Kp b c):Kp a c:=⟨Nat.le_trans h.sz k.sz,fun i cs T z h1 h2 h3=>k.bl i cs T z (h.bl i cs T z h1 h2 h3) h2 h3⟩
theorem Kp.below {W W':World} (h:Below W.heap.size W W'):Kp W W':=⟨h.size,fun i cs T z h1 _ _=>(h.block i (blk_lt h1)).trans h1⟩
theorem Kp.grown {W W':World} {j:Nat} (h:W.grownBy W' (some j)) (hj:∀ (cs:Array Value) (T:TypeId) (z:Nat × Nat),W.heap[j]? = some (.cells cs T z)→T=76∨T=33):Kp W W' :=
 ⟨h.size,fun i cs T z h1 h2 h3=>(h.block i (blk_lt h1) (fun e=>by cases e;rcases hj cs T z h1 with e|e;exact h2 e;exact h3 e)).trans h1⟩
theorem Kp.only {W W':World} {j:Nat} (h:Only j W W') {cs:Array Value} {T:TypeId} {z:Nat × Nat} {i:Nat} (h1:W.heap[i]? = some (.cells cs T z)) (hn:i≠j):W'.heap[i]? = some (.cells cs T z):=(h.block i hn).trans h1
theorem Kp.fl {W W':World} (h:Kp W W') {i:Nat} {f:Fl} (k:FlAt W i f):FlAt W' i f:=h.bl _ _ _ _ k (by decide) (by decide)
theorem Kp.ky {W W':World} (h:Kp W W') {i:Nat} {f:Ky} (k:KyAt W i f):KyAt W' i f:=h.bl _ _ _ _ k (by decide) (by decide)
theorem Kp.sg {W W':World} (h:Kp W W') {i:Nat} {s:Sg} {bv:Value} (k:SgAt W i s bv):SgAt W' i s bv:=h.bl _ _ _ _ k (by decide) (by decide)
def V4At (w:World) (b:Nat) (a0 a1 a2 a3:Int):Prop:=w.heap[b]? = some (.cells #[.int .i64 a0,.int .i64 a1,.int .i64 a2,.int .i64 a3] 34 (0,0))
theorem Kp.v4 {W W':World} (h:Kp W W') {i:Nat} {a b c d:Int} (k:V4At W i a b c d):V4At W' i a b c d:=h.bl _ _ _ _ k (by decide) (by decide)
theorem v4_cells {w:World} {b:Nat} {x y z u:Value} {T:TypeId} (h:w.heap[b]? = some (.cells #[x,y,z,u] T (0,0))):(w.cell? ⟨b,0,none⟩=some x∧w.cell? ⟨b,1,none⟩=some y∧w.cell? ⟨b,2,none⟩=some z∧w.cell? ⟨b,3,none⟩=some u)∧w.frozen? ⟨b,0,none⟩=false∧w.frozen? ⟨b,1,none⟩=false∧w.frozen? ⟨b,2,none⟩=false∧w.frozen? ⟨b,3,none⟩=false :=
 ⟨⟨by rw [cell_of_row w b _ _ _ _ h];rfl,by rw [cell_of_row w b _ _ _ _ h];rfl,by rw [cell_of_row w b _ _ _ _ h];rfl,by rw [cell_of_row w b _ _ _ _ h];rfl⟩,frozen_of_row w b 0 _ _ h,frozen_of_row w b 1 _ _ h,frozen_of_row w b 2 _ _ h,frozen_of_row w b 3 _ _ h⟩
theorem cells_ne {W:World} {i j:Nat} {cs cs':Array Value} {T T':TypeId} {z z':Nat × Nat} (h1:W.heap[i]? = some (.cells cs T z)) (h2:W.heap[j]? = some (.cells cs' T' z')) (hT:T≠T'):i≠j:=fun e=>by
 subst e
 rw [h1] at h2
 simp only [Option.some.injEq,Obj.cells.injEq] at h2
 exact hT h2.2.1
theorem own_flc {W:World} {base q:Nat} {v:Value} {fs:List Fl} (h:OwnFl W base v fs) (hq:v.ownBlock=some q):∃ cs,W.heap[q]? = some (.cells cs 45 (0,0)):=by
 obtain ⟨_,h1⟩:=h
 rcases h1 with ⟨rfl,_⟩|⟨g,cap,cur,rfl,_,hh,_⟩
 ·cases hq
 ·simp only [Value.ownBlock,Option.some.injEq] at hq
  subst hq
  exact ⟨_,hh⟩
structure TpO (w:World) (A M:Nat):Prop where
 o1:w.heap.size≤A
 o2:w.heap.size≤M
structure TpT (w:World) (A M:Nat) (t u:Tb) (W:World):Prop where
 tb:∃ m,w.heap.size≤m∧TbAt W A m t
 lr:∃ va,LIn W M u va∧va.ownBlock≠some M
 bel:Below w.heap.size w W
def TpS (w:World) (A M:Nat) (W:World):Prop:=∃ t u,TpT w A M t u W∧TpN t u
section
variable {w W W':World} {A M:Nat} {t u t' u':Tb}
theorem TpT.below (h:TpT w A M t u W) (b:Below W.heap.size W W'):TpT w A M t u W':=by
 obtain ⟨m,h1,h2⟩:=h.tb
 obtain ⟨va,h3,h4⟩:=h.lr
 exact ⟨⟨m,h1,h2.below b⟩,⟨va,h3.below b,h4⟩,h.bel.trans (b.mono h.bel.size)⟩
theorem TpT.only {j:Nat} {cs:Array Value} {T:TypeId} {z:Nat × Nat} (h:TpT w A M t u W) (ho:Only j W W') (hj:W.heap[j]? = some (.cells cs T z)) (h1:T≠76) (h2:T≠33) (h3:T≠45) (hl:w.heap.size≤j):TpT w A M t u W':=by
 obtain ⟨m,hm,hb⟩:=h.tb
 obtain ⟨va,hv,hn⟩:=h.lr
 refine ⟨⟨m,hm,hb.blk (ho.block A (cells_ne hb.tab hj (Ne.symm h1))) (ho.block m (fun e=>?_))⟩,⟨va,hv.blk (ho.block M (cells_ne hv.tab hj (Ne.symm h2))) (fun q hq=>ho.block q ?_),hn⟩,ho.below hl h.bel⟩
 ·rw [← e] at hj
  exact hb.map.not_cells hj
 ·obtain ⟨cs',hc⟩:=own_flc hv.own hq
  exact cells_ne hc hj (Ne.symm h3)
theorem TpT.setA {m:Nat} (h:TpT w A M t u W) (o:TpO w A M) (hm:w.heap.size≤m) (ht:TbAt W A m t) (hn:∃ m',(m'=m∨W.heap.size≤m')∧TbAt W' A m' t') (hg:W.grownBy W' (some A)):TpT w A M t' u W'∧Kp W W':=by
 obtain ⟨m',hmm,hb⟩:=hn
 obtain ⟨va,hv,hne⟩:=h.lr
 have hs:=h.bel.size
 refine ⟨⟨⟨m',by omega,hb⟩,⟨va,hv.blk (hg.block M hv.lt (fun e=>?_)) (fun q hq=>?_),hne⟩,h.bel.grown hg h.bel.size (fun k e=>by cases e;exact o.o1)⟩,Kp.grown hg (fun cs T z hc=>?_)⟩
 ·cases e
  exact cells_ne hv.tab ht.tab (by decide) rfl
 ·obtain ⟨cs',hc⟩:=own_flc hv.own hq
  exact hg.block q (blk_lt hc) (fun e=>by cases e;exact cells_ne hc ht.tab (by decide) rfl)
 ·rw [ht.tab] at hc
  cases hc
  exact .inl rfl
theorem TpT.setM {va:Value} (h:TpT w A M t u W) (o:TpO w A M) (hv:LIn W M u va) (hn:∃ v',LIn W' M u' v'∧v'.ownBlock≠some M) (hg:W.grownBy W' (some M)):TpT w A M t u' W'∧Kp W W':=by
 obtain ⟨m,hm,hb⟩:=h.tb
 refine ⟨⟨⟨m,hm,hb.blk (hg.block A hb.lt (fun e=>?_)) (hg.block m hb.map.lt (fun e=>?_))⟩,hn,h.bel.grown hg h.bel.size (fun k e=>by cases e;exact o.o2)⟩,Kp.grown hg (fun cs T z hc=>?_)⟩
 ·cases e
  exact cells_ne hb.tab hv.tab (by decide) rfl
 ·cases e
  exact hb.map.not_cells hv.tab
 ·rw [hv.tab] at hc
  cases hc
  exact .inr rfl
theorem TpT.drop {m:Nat} (h:TpT w A M t u W) (hm:w.heap.size≤m) (ht:TbAt W A m t) (hb:TbAt W' A m t') (hg:W.grownBy W' (some m)):TpT w A M t' u W'∧Kp W W':=by
 obtain ⟨va,hv,hne⟩:=h.lr
 refine ⟨⟨⟨m,hm,hb⟩,⟨va,hv.blk (hg.block M hv.lt (fun e=>?_)) (fun q hq=>?_),hne⟩,h.bel.grown hg h.bel.size (fun k e=>by cases e;exact hm)⟩,Kp.grown hg (fun cs T z hc=>?_)⟩
 ·cases e
  exact ht.map.not_cells hv.tab
 ·obtain ⟨cs',hc⟩:=own_flc hv.own hq
  exact hg.block q (blk_lt hc) (fun e=>by cases e;exact ht.map.not_cells hc)
 ·exact absurd hc (fun h=>ht.map.not_cells h)
end
theorem TpS.bel {w W:World} {A M:Nat} (h:TpS w A M W):Below w.heap.size w W:=by
 obtain ⟨t,u,h1,_⟩:=h
 exact h1.bel
structure TpV (w:World) (A M V:Nat) (W:World):Prop where
 st:TpS w A M W
 vr:∃ a b c d,V4At W V a b c d∧(Lit.int .i64 a).wf=true∧(Lit.int .i64 b).wf=true∧(Lit.int .i64 c).wf=true∧(Lit.int .i64 d).wf=true
 lv:w.heap.size≤V
theorem TpV.set {w W:World} {A M V:Nat} (h:TpV w A M V W) (j:Nat) (hj:j < 4) (z:Int) (hz:(Lit.int .i64 z).wf=true):TpV w A M V (W.setCell ⟨V,j,none⟩ (.int .i64 z)):=by
 obtain ⟨⟨t,u,h1,hN⟩,⟨a,b,c,d,h2,w0,w1,w2,w3⟩,h3⟩:=h
 refine ⟨⟨t,u,h1.only ((Only.refl V W).setCell j (.int .i64 z)) h2 (by decide) (by decide) (by decide) h3,hN⟩,?_,h3⟩
 have e:=heap_setCell_same W V j _ _ (.int .i64 z) h2
 rcases (by omega:j=0∨j=1∨j=2∨j=3) with rfl|rfl|rfl|rfl
 ·exact ⟨z,b,c,d,e,hz,w1,w2,w3⟩
 ·exact ⟨a,z,c,d,e,w0,hz,w2,w3⟩
 ·exact ⟨a,b,z,d,e,w0,w1,hz,w3⟩
 ·exact ⟨a,b,c,z,e,w0,w1,w2,hz⟩
def blkAt (n:Nat):Code→Option Code
 | .seq a b=>match blkAt n a with
  | some c=>some c
  | none=>blkAt n b
 | .loop a=>blkAt n a
 | .block m a=>match Nat.beq m n with
  | true=>some (.block m a)
  | false=>blkAt n a
 | .cond _ a b=>match blkAt n a with
  | some c=>some c
  | none=>blkAt n b
 | _=>none
noncomputable def tpBlk (n:Nat):Code:=(blkAt n (Tryz.f3.body.getD .skip)).getD .skip
noncomputable def tpReg (n:Nat):Code:=(regAt n (Tryz.f3.body.getD .skip)).getD .skip
set_option maxRecDepth 100000 in
set_option maxHeartbeats 32000000 in
theorem tp_row (w W0:World) (A M V g of N cv i:Nat) (an:Option Addr) (cn:Nat) (zs:List Int) (K:Act→World→Prop) (E:Exit→Act→World→Prop) (C:Code) (hC:C=tpBlk 2)
  (HSV:Hid (TpV w A M V W0)) (HN:Hid (Numz w (.slice an zs.length cn) zs)) (HC0:Hid (∀ X',Below w.heap.size w X'→X'.cell? ⟨g,of+i,none⟩=some (.slice an zs.length cn))) (hi1:(i:Int) < (N:Int)) (hgc:N≤cv) (hgm:cv≤maxLen)
  (v0 v2 v3 v4 v5 v6 v7 v8 v9 v10 v11 v12 v13 v17 v18 v19 v20 v21 v22 v23 v24 v25 v26 v27 v28 v29 v30 v31 v32 v33 v34 v35 v36 v37 v38 v39 v40 v41 v42 v43 v44 v45 v46 v47 v48 v49 v50 v51 v52 v53 v54 v55 v56 v57 v58 v59 v60 v61 v62 v63 v64 v65 v66 v67 v68 v69 v70 v71 v72 v73 v74 v75 v76 v77 v78 v79 v80 v81 v82 v83 v84 v85 v86 v87 v88 v89 v90 v91 v92 v93 v94 v95 v96 v97 v98 v99 v2s v2t v2u v2v v2w v2x v2y v2z v108 v109 v110 v111 v112 v113 v114 v115 v116 v117 v3a v3b v3c v3d v3e v3f v3g v3h v3i v3j v3k v3l v3m v3n v3o v3p v3q v3r v3s v3t v3u v3v v3w v3x v3y v3z v144 v145 v146 v147 v148 v149 v150 v151 v152 v153 v4a v4b v4c v4d v4e v4f v4g v4h v4i v4j v4k v4l v4m v4n v4o v4p v4q v4r v4s v4t v4u v4v v4w v4x v4y v4z v180 v181 v182 v183 v184 v185 v186 v187 v188 v189 v5a v5b v5c v5d v5e v5f v5g v5h v5i v5j v5k v5l v5m v5n v5o v5p v5q v5r v5s v5t v5u v5v v5w v5x v5y v5z v216 v217 v218 v219 v220 v221 v222 v223 v224 v225 v6a v6b v6c v6d v6e v6f v6g v6h v6i v6j v6k v6l v6m v6n v6o v6p v6q v6r v6s v6t v6u v6v v6w v6x v6y v6z v252 v253 v254 v255 v256 v257 v258 v259 v260 v261 v7a v7b v7c v7d v7e v7f v7g v7h v7i v7j v7k v7l v7m v7n v7o v7p v7q v7r v7s v7t v7u v7v v7w v7x v7y v7z v288 v289 v290 v291 v292 v293 v294 v295 v296 v297 v8a v8b v8c v8d v8e v8f v8g v8h v8i v8j v8k v8l v8m:Value)
  (hK:∀ (W9:World) (u16 u77 u78 u79 u80 u81 u82 u83 u84 u85 u86 u87 u88 u89 u90 u91 u92 u93 u94 u95 u96 u97 u98:Value),TpV w A M V W9→K { tmps:=#[v0,.slice (some ⟨g,of,none⟩) N cv,v2,v3,v4,v5,v6,v7,v8,v9,v10,v11,v12,v13,.int .i64 (i:Int),.pointer (some ⟨V,0,none⟩),u16,v17,v18,v19,v20,v21,v22,v23,v24,v25,v26,v27,v28,v29,v30,v31,v32,v33,v34,v35,v36,v37,v38,v39,v40,v41,v42,v43,v44,v45,v46,v47,v48,v49,v50,v51,v52,v53,v54,v55,v56,v57,v58,v59,v60,v61,v62,v63,v64,v65,v66,v67,v68,v69,v70,v71,v72,v73,v74,v75,v76,u77,u78,u79,u80,u81,u82,u83,u84,u85,u86,u87,u88,u89,u90,u91,u92,u93,u94,u95,u96,u97,u98,v99,v2s,v2t,v2u,v2v,v2w,v2x,v2y,v2z,v108,v109,v110,v111,v112,v113,v114,v115,v116,v117,v3a,v3b,v3c,v3d,v3e,v3f,v3g,v3h,v3i,v3j,v3k,v3l,v3m,v3n,v3o,v3p,v3q,v3r,v3s,v3t,v3u,v3v,v3w,v3x,v3y,v3z,v144,v145,v146,v147,v148,v149,v150,v151,v152,v153,v4a,v4b,v4c,v4d,v4e,v4f,v4g,v4h,v4i,v4j,v4k,v4l,v4m,v4n,v4o,v4p,v4q,v4r,v4s,v4t,v4u,v4v,v4w,v4x,v4y,v4z,v180,v181,v182,v183,v184,v185,v186,v187,v188,v189,v5a,v5b,v5c,v5d,v5e,v5f,v5g,v5h,v5i,v5j,v5k,v5l,v5m,v5n,v5o,v5p,v5q,v5r,v5s,v5t,v5u,v5v,v5w,v5x,v5y,v5z,v216,v217,v218,v219,v220,v221,v222,v223,v224,v225,v6a,v6b,v6c,v6d,v6e,v6f,v6g,v6h,v6i,v6j,v6k,v6l,v6m,v6n,v6o,v6p,v6q,v6r,v6s,v6t,v6u,v6v,v6w,v6x,v6y,v6z,v252,v253,v254,v255,v256,v257,v258,v259,v260,v261,v7a,v7b,v7c,v7d,v7e,v7f,v7g,v7h,v7i,v7j,v7k,v7l,v7m,v7n,v7o,v7p,v7q,v7r,v7s,v7t,v7u,v7v,v7w,v7x,v7y,v7z,v288,v289,v290,v291,v292,v293,v294,v295,v296,v297,v8a,v8b,v8c,v8d,v8e,v8f,v8g,v8h,v8i,v8j,v8k,v8l,v8m],defers:=[] } W9) :
  Code.wp Tryz.prog C (Exit.then K E) { tmps:=#[v0,.slice (some ⟨g,of,none⟩) N cv,v2,v3,v4,v5,v6,v7,v8,v9,v10,v11,v12,v13,.int .i64 (i:Int),.pointer (some ⟨V,0,none⟩),.int .i64 0,v17,v18,v19,v20,v21,v22,v23,v24,v25,v26,v27,v28,v29,v30,v31,v32,v33,v34,v35,v36,v37,v38,v39,v40,v41,v42,v43,v44,v45,v46,v47,v48,v49,v50,v51,v52,v53,v54,v55,v56,v57,v58,v59,v60,v61,v62,v63,v64,v65,v66,v67,v68,v69,v70,v71,v72,v73,v74,v75,v76,v77,v78,v79,v80,v81,v82,v83,v84,v85,v86,v87,v88,v89,v90,v91,v92,v93,v94,v95,v96,v97,v98,v99,v2s,v2t,v2u,v2v,v2w,v2x,v2y,v2z,v108,v109,v110,v111,v112,v113,v114,v115,v116,v117,v3a,v3b,v3c,v3d,v3e,v3f,v3g,v3h,v3i,v3j,v3k,v3l,v3m,v3n,v3o,v3p,v3q,v3r,v3s,v3t,v3u,v3v,v3w,v3x,v3y,v3z,v144,v145,v146,v147,v148,v149,v150,v151,v152,v153,v4a,v4b,v4c,v4d,v4e,v4f,v4g,v4h,v4i,v4j,v4k,v4l,v4m,v4n,v4o,v4p,v4q,v4r,v4s,v4t,v4u,v4v,v4w,v4x,v4y,v4z,v180,v181,v182,v183,v184,v185,v186,v187,v188,v189,v5a,v5b,v5c,v5d,v5e,v5f,v5g,v5h,v5i,v5j,v5k,v5l,v5m,v5n,v5o,v5p,v5q,v5r,v5s,v5t,v5u,v5v,v5w,v5x,v5y,v5z,v216,v217,v218,v219,v220,v221,v222,v223,v224,v225,v6a,v6b,v6c,v6d,v6e,v6f,v6g,v6h,v6i,v6j,v6k,v6l,v6m,v6n,v6o,v6p,v6q,v6r,v6s,v6t,v6u,v6v,v6w,v6x,v6y,v6z,v252,v253,v254,v255,v256,v257,v258,v259,v260,v261,v7a,v7b,v7c,v7d,v7e,v7f,v7g,v7h,v7i,v7j,v7k,v7l,v7m,v7n,v7o,v7p,v7q,v7r,v7s,v7t,v7u,v7v,v7w,v7x,v7y,v7z,v288,v289,v290,v291,v292,v293,v294,v295,v296,v297,v8a,v8b,v8c,v8d,v8e,v8f,v8g,v8h,v8i,v8j,v8k,v8l,v8m],defers:=[] } W0:=by
 subst hC
 conv =>
  arg 2
  unfold tpBlk
  unfold Tryz.f3
  simp only [Option.getD_some,blkAt]
 conv =>
  arg 4
  zeta
 try simp (maxSteps:=10000000) only at hK
 have HK:=hidE hK
 clear hK
 go_wp2_with fail
 go_loopw [16] (fun v29 wr=>∃ j:Nat,v29 = .int .i64 (j:Int)∧j≤4∧Hid (TpV w A M V wr)) (fun v29 _=>(100 - intOf v29).toNat)
 case atStart=>exact ⟨0,rfl,by omega,HSV⟩
 case round =>
  clear HSV
  obtain ⟨j,rfl,hj3,HJ⟩:=hrel
  have c0:=HC0.out _ HJ.out.st.bel
  by_cases hj:j < zs.length∧j < 4
  ·have HW:=hidE (HN.out.wf zs[j] (List.getElem_mem hj.1))
   obtain ⟨g2,of2,rfl,hg2,hc2,hm2,hcells⟩:=HN.out.at (by omega)
   have e0:=(HJ.out.st.bel.cell (p:=⟨g2,of2+j,none⟩) hg2).trans (hcells j hj.1)
   generalize (zs[j]'hj.1)=z at e0 HW
   obtain ⟨s0,s1,s2,s3,hvr,_⟩:=HJ.out.vr
   obtain ⟨_,f0,f1,f2,f3⟩:=v4_cells hvr
   have hj1:(j:Int) < (zs.length:Int):=by omega
   have hj2:(j:Int) < 4:=by omega
   have HX:=hidE (HJ.out.set j hj.2 z HW.out)
   clear hcells hvr
   rcases (by omega:j=0∨j=1∨j=2∨j=3) with rfl|rfl|rfl|rfl
   ·clear hj hj3
    try simp only [Nat.add_zero] at e0
    go_wp2_with fail
    go_roundw
    case rel=>exact ⟨1,rfl,by omega,HX⟩
    case measure=>simp only [intOf];omega
   ·clear hj hj3
    try simp only [Nat.add_zero] at e0
    go_wp2_with fail
    go_roundw
    case rel=>exact ⟨2,rfl,by omega,HX⟩
    case measure=>simp only [intOf];omega
   ·clear hj hj3
    try simp only [Nat.add_zero] at e0
    go_wp2_with fail
    go_roundw
    case rel=>exact ⟨3,rfl,by omega,HX⟩
    case measure=>simp only [intOf];omega
   ·clear hj hj3
    try simp only [Nat.add_zero] at e0
    go_wp2_with fail
    go_roundw
    case rel=>exact ⟨4,rfl,by omega,HX⟩
    case measure=>simp only [intOf];omega
  ·rcases (by omega:(¬ (j:Int) < (zs.length:Int))∨((j:Int) < (zs.length:Int)∧¬ (j:Int) < 4)) with hd|⟨hd,hd2⟩
   all_goals
    clear hj
    go_wp2_with fail
    exact HK.out _ _ _ _ _ _ _ _ _ _ _ _ _ _ _ _ _ _ _ _ _ _ _ _ HJ.out
end Go.Proofs.YtkhheooofcpfdaaGreatDoor
