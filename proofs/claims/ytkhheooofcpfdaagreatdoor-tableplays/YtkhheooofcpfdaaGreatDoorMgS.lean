/- What Adopt of package table returns, and what it leaves (Adopt of it): the states that its walk goes through, and where a flow is refused. -/
import Derived.Test.YtkhheooofcpfdaaGreatDoorMgQ
import Derived.Test.YtkhheooofcpfdaaGreatDoorMgR
import Derived.Test.YtkhheooofcpfdaaGreatDoorTrkChk
import Derived.Test.YtkhheooofcpfdaaGreatDoorMgM
import Derived.Deep.DeepCutAuto
namespace Go.Proofs.YtkhheooofcpfdaaGreatDoor
open Go.RowKit Go.Maps
set_option linter.unusedVariables false
def adB (t:Tb) (f:Fl) (now:Int):Bool:=!goneB now f && decide ((getK (leftL now t.fs) f.key).stp < f.stp)
def adE (t:Tb) (f:Fl) (now:Int):Int :=
 if ¬ timE t now=0 then timE t now else if ¬ chkE f=0 then chkE f else if adB t f now=true∧hasK (leftL now t.fs) f.key=false∧t.max≤((leftL now t.fs).length:Int) then 4 else 0
def adS (t:Tb) (f:Fl) (now:Int):Tb :=
 if ¬ adE t f now=0 then t else { max:=t.max,now:=now,fs:=if adB t f now=true then tputL f (leftL now t.fs) else leftL now t.fs }
theorem wfR {n lo hi:Int} (h:lo≤n∧n≤hi) (h0 : -1000000000000≤lo) (h1:hi≤1000000000000):(Lit.int .i64 n).wf=true:=WalkArith.wf_i64 (by omega)
theorem chk_ky {f:Fl} (h:chkE f=0):KyOk f.key:=by
 obtain ⟨a,b,c,d,e⟩:=kyB_of (chkE_ok h).1
 exact ⟨wfR a (by omega) (by omega),wfR b (by omega) (by omega),wfR d (by omega) (by omega),wfR c (by omega) (by omega),wfR e (by omega) (by omega)⟩
structure AdS (w:World) (b m:Nat) (t:Tb) (f:Fl) (W:World):Prop where
 fl:FlAt W w.heap.size f
 tb:TbAt W b m t
 lb:b < w.heap.size
 bel:Below w.heap.size w W
theorem AdS.start (w:World) (b m:Nat) (t:Tb) (f:Fl) (h:TbAt w b m t):AdS w b m t f (w.alloc (.cells #[.int .i64 f.key.kind,.int .i64 f.key.src,.int .i64 f.key.frm,.int .i64 f.key.dst,.int .i64 f.key.too,.int .i64 f.st,.int .i64 f.unt,.int .i64 f.stp,.int .i64 f.h0,.int .i64 f.h1,.int .i64 f.w0,.int .i64 f.w1,.bool f.d0,.bool f.d1,.int .i64 f.num] 45)):=⟨FlAt.new w f,h.alloc _,h.lt,(Below.refl _ _).alloc (Nat.le_refl _) _⟩
theorem AdS.step {w W W':World} {b m:Nat} {t:Tb} {f:Fl} (h:AdS w b m t f W) (hb:Below W.heap.size W W'):AdS w b m t f W':=⟨h.fl.below h.fl.lt hb,h.tb.below hb,h.lb,h.bel.trans (hb.mono h.bel.size)⟩
theorem AdS.alloc {w W:World} {b m:Nat} {t:Tb} {f:Fl} (h:AdS w b m t f W) (o:Obj):AdS w b m t f (W.alloc o):=h.step ((Below.refl _ _).alloc (Nat.le_refl _) _)
structure AdT (w:World) (b m:Nat) (t:Tb) (f:Fl) (X m':Nat) (t':Tb) (W:World):Prop where
 st:AdS w b m t f W
 tb:TbAt W X m' t'
 lx:w.heap.size < X
 lm:w.heap.size≤m'
theorem AdT.step {w W W':World} {b m X m':Nat} {t t':Tb} {f:Fl} (h:AdT w b m t f X m' t' W) (hb:Below W.heap.size W W'):AdT w b m t f X m' t' W':=⟨h.st.step hb,h.tb.below hb,h.lx,h.lm⟩
theorem AdT.of {w W:World} {b m m':Nat} {t:Tb} {f:Fl} {now:Int} (h:AdS w b m t f W) (hm:MapIs Tryz.prog 37 W m' (flsL (leftL now t.fs))) (hl:w.heap.size≤m') :
  AdT w b m t f W.heap.size m' { max:=t.max,now:=now,fs:=leftL now t.fs } (W.alloc (.cells #[.int .i64 t.max,.int .i64 now,.map (some m')] 76)) :=
 ⟨h.alloc _,⟨heap_alloc_new W _,hm.block (Below.heap_alloc _ _ _ hm.lt),fun f hf=>h.tb.oks f (List.mem_filter.1 hf).1⟩,h.fl.lt,hl⟩
set_option maxRecDepth 100000 in
set_option maxHeartbeats 32000000 in
theorem ad_time (b m:Nat) (t:Tb) (f:Fl) (now:Int) (w:World) (h:TbAt w b m t) (ok:TbOk t) (hL:Lives w) (z:Int) (hz:timE t now=z) (h0:¬ z=0) :
  Calls Tryz.prog 13 #[.pointer (some ⟨b,0,none⟩),flV f,.int .i64 now] w fun e w'=>e = .returned (.tuple #[.bool false,.iface 71 (.int .i64 z)])∧Below w.heap.size w w':=by
 have h1:=AdS.start w b m t f h
 obtain ⟨W1,hW1⟩:∃ W1,w.alloc (.cells #[.int .i64 f.key.kind,.int .i64 f.key.src,.int .i64 f.key.frm,.int .i64 f.key.dst,.int .i64 f.key.too,.int .i64 f.st,.int .i64 f.unt,.int .i64 f.stp,.int .i64 f.h0,.int .i64 f.h1,.int .i64 f.w0,.int .i64 f.w1,.bool f.d0,.bool f.d1,.int .i64 f.num] 45)=W1:=⟨_,rfl⟩
 rw [hW1] at h1
 have HL:=hidE (fun W (hb:Below w.heap.size w W)=>hL.below hb)
 have hc:=at_bad b m t now z W1 h1.tb hz h0
 clear hz h0
 clear hL
 unfold flV
 go_enter Tryz.func13,Tryz.ntmps13
 go_upto_region 1 with fail
 try rw [hW1]
 clear hW1
 go_upto_region 3 with (go_at_call 30;go_must (refine hc.mono ?_;rintro e W2 ⟨rfl,b2⟩))
 have h2:=(h1.step b2).alloc (.cells #[.int .i64 0,.int .i64 0,.map none] 76)
 have HB:=hidE h2.bel
 clear h1 b2 hc h2
 go_wp2_with fail
 go_ret2
 exact ⟨rfl,HB.out⟩
set_option maxRecDepth 100000 in
set_option maxHeartbeats 32000000 in
theorem ad_chk (b m:Nat) (t:Tb) (f:Fl) (now:Int) (w:World) (h:TbAt w b m t) (ok:TbOk t) (hL:Lives w) (z:Int) (hz:timE t now=0) (hbe:chkE f=z) (h0:¬ z=0) :
  Calls Tryz.prog 13 #[.pointer (some ⟨b,0,none⟩),flV f,.int .i64 now] w fun e w'=>e = .returned (.tuple #[.bool false,.iface 71 (.int .i64 z)])∧Below w.heap.size w w':=by
 have h1:=AdS.start w b m t f h
 obtain ⟨W1,hW1⟩:∃ W1,w.alloc (.cells #[.int .i64 f.key.kind,.int .i64 f.key.src,.int .i64 f.key.frm,.int .i64 f.key.dst,.int .i64 f.key.too,.int .i64 f.st,.int .i64 f.unt,.int .i64 f.stp,.int .i64 f.h0,.int .i64 f.h1,.int .i64 f.w0,.int .i64 f.w1,.bool f.d0,.bool f.d1,.int .i64 f.num] 45)=W1:=⟨_,rfl⟩
 rw [hW1] at h1
 have HL:=hidE (fun W (hb:Below w.heap.size w W)=>hL.below hb)
 have hc:=at_ok b m t now W1 h1.tb hz ok.ap (by have:=ok.le;have:=ok.mx;omega)
 have c2:=hidE (fun W hB=>check_any f W (HL.out W hB))
 rw [hbe,errV_no h0] at c2
 clear hbe h0
 unfold flV at c2
 clear hz
 clear hL
 unfold flV
 go_enter Tryz.func13,Tryz.ntmps13
 go_upto_region 1 with fail
 try rw [hW1]
 clear hW1
 go_upto_region 4 with (go_at_call 30;go_must (refine hc.mono ?_;rintro e W2 ⟨m',v,ks,rfl,hm2,hlm,hown2,hpm2,b2⟩))
 have h2:=AdT.of (h1.step b2) hm2 (Nat.le_trans h1.bel.size hlm)
 obtain ⟨W3,hW3⟩:∃ W3,W2.alloc (.cells #[.int .i64 t.max,.int .i64 now,.map (some m')] 76)=W3:=⟨_,rfl⟩
 obtain ⟨X,hX⟩:∃ X,W2.heap.size=X:=⟨_,rfl⟩
 rw [hW3] at h2 ⊢
 rw [hX] at h2 ⊢
 clear hW3 hX h1 b2 hc hm2 hlm hown2 hpm2
 obtain ⟨t',ht'⟩:∃ t',({ max:=t.max,now:=now,fs:=leftL now t.fs }:Tb)=t':=⟨_,rfl⟩
 rw [ht'] at h2
 have HT':=hidE ht'
 clear ht'
 obtain ⟨e0,e1,e2,e3,e4,e5,e6,e7,e8,e9,e10,e11,e12,e13,e14⟩:=h2.st.fl.cells
 have hc:=c2.out W3 h2.st.bel
 go_upto_region 6 with (go_at_call 39;go_must (refine hc.mono ?_;rintro e W4 ⟨rfl,b4⟩))
 have h4:=h2.step b4
 clear hc b4 h2 e0 e1 e2 e3 e4 e5 e6 e7 e8 e9 e10 e11 e12 e13 e14
 have HB:=hidE h4.st.bel
 clear h4
 go_wp2_with fail
 go_ret2
 exact ⟨rfl,HB.out⟩
end Go.Proofs.YtkhheooofcpfdaaGreatDoor
namespace Go.Proofs.YtkhheooofcpfdaaGreatDoor
open Go.RowKit Go.Maps
set_option linter.unusedVariables false
theorem Tryz.stampOf (g:Fl) (W:World):(Instr.field 45 (.agg #[.int .i64 g.key.kind,.int .i64 g.key.src,.int .i64 g.key.frm,.int .i64 g.key.dst,.int .i64 g.key.too,.int .i64 g.st,.int .i64 g.unt,.int .i64 g.stp,.int .i64 g.h0,.int .i64 g.h1,.int .i64 g.w0,.int .i64 g.w1,.bool g.d0,.bool g.d1,.int .i64 g.num]) 3).run Tryz.prog W = .ok (.int .i64 g.stp) W:=by
 simp [Instr.field,Tryz.underlying45,part,isAgg,asAgg,underlying,Tryz.underlying3,Result.andThen]
set_option maxRecDepth 100000 in
set_option maxHeartbeats 32000000 in
theorem ad_no (b m:Nat) (t:Tb) (f:Fl) (now:Int) (w:World) (h:TbAt w b m t) (ok:TbOk t) (hL:Lives w) (hz:timE t now=0) (hbe:chkE f=0) (hB:adB t f now=false) :
  Calls Tryz.prog 13 #[.pointer (some ⟨b,0,none⟩),flV f,.int .i64 now] w fun e w'=>e = .returned (.tuple #[.bool false,.nilIface])∧(∃ m',w.heap.size≤m'∧TbAt w' b m' { max:=t.max,now:=now,fs:=leftL now t.fs })∧w.grownBy w' (some b):=by
 have h1:=AdS.start w b m t f h
 obtain ⟨W1,hW1⟩:∃ W1,w.alloc (.cells #[.int .i64 f.key.kind,.int .i64 f.key.src,.int .i64 f.key.frm,.int .i64 f.key.dst,.int .i64 f.key.too,.int .i64 f.st,.int .i64 f.unt,.int .i64 f.stp,.int .i64 f.h0,.int .i64 f.h1,.int .i64 f.w0,.int .i64 f.w1,.bool f.d0,.bool f.d1,.int .i64 f.num] 45)=W1:=⟨_,rfl⟩
 rw [hW1] at h1
 have HL:=hidE (fun W (hb:Below w.heap.size w W)=>hL.below hb)
 have hc:=at_ok b m t now W1 h1.tb hz ok.ap (by have:=ok.le;have:=ok.mx;omega)
 have c2:=hidE (fun W hB=>check_any f W (HL.out W hB))
 have hky:=chk_ky hbe
 rw [hbe,errV_ok] at c2
 clear hbe
 unfold flV at c2
 clear hz
 have HKY:=hidE hky
 obtain ⟨ab,hab⟩:∃ ab,adB t f now=ab:=⟨_,rfl⟩
 have HABE:=hidE hab
 rw [hab] at hB
 clear hL
 unfold flV
 go_enter Tryz.func13,Tryz.ntmps13
 go_upto_region 1 with fail
 try rw [hW1]
 clear hW1
 go_upto_region 4 with (go_at_call 30;go_must (refine hc.mono ?_;rintro e W2 ⟨m',v,ks,rfl,hm2,hlm,hown2,hpm2,b2⟩))
 have h2:=AdT.of (h1.step b2) hm2 (Nat.le_trans h1.bel.size hlm)
 obtain ⟨W3,hW3⟩:∃ W3,W2.alloc (.cells #[.int .i64 t.max,.int .i64 now,.map (some m')] 76)=W3:=⟨_,rfl⟩
 obtain ⟨X,hX⟩:∃ X,W2.heap.size=X:=⟨_,rfl⟩
 rw [hW3] at h2 ⊢
 rw [hX] at h2 ⊢
 clear hW3 hX h1 b2 hc hm2 hlm hown2 hpm2
 obtain ⟨t',ht'⟩:∃ t',({ max:=t.max,now:=now,fs:=leftL now t.fs }:Tb)=t':=⟨_,rfl⟩
 rw [ht'] at h2
 have HT':=hidE ht'
 clear ht'
 obtain ⟨e0,e1,e2,e3,e4,e5,e6,e7,e8,e9,e10,e11,e12,e13,e14⟩:=h2.st.fl.cells
 have hc:=c2.out W3 h2.st.bel
 go_upto_region 7 with (go_at_call 39;go_must (refine hc.mono ?_;rintro e W4 ⟨rfl,b4⟩))
 have h4:=h2.step b4
 clear hc b4 h2 e0 e1 e2 e3 e4 e5 e6 e7 e8 e9 e10 e11 e12 e13 e14
 go_cut [12] (fun v wr=>v = .bool ab∧Hid (AdT w b m t f X m' t' wr))
 case first =>
  obtain ⟨g,hg⟩:∃ g,getK t'.fs f.key=g:=⟨_,rfl⟩
  have hl:=look_get h4.tb.oks hky m'
  rw [hg] at hl
  have cF:=first_any f.key
  obtain ⟨fk,hfk⟩:∃ fk,firstK f.key=fk:=⟨_,rfl⟩
  rw [hfk] at hl
  simp only [hfk] at cF
  have hlk:∀ u:Ext W4,(Instr.lookup 72 (.map (some m')) (keyV fk) false).run Tryz.prog u.W = .ok (flV g) u.W:=fun u=>hl u.W (h4.tb.below u.h).map
  have hcG:=Ext.call (w:=W4) (fun W=>gone_any f now W)
  have hcF:=Ext.call (w:=W4) cF
  have HAB:Hid (ab=(!goneB now f && decide (g.stp < f.stp))):=by
   show ab=_
   rw [← HABE.out,← hg]
   unfold adB
   rw [← HT'.out]
  obtain ⟨gb,hgb⟩:∃ gb,goneB now f=gb:=⟨_,rfl⟩
  rw [hgb] at hcG HAB
  obtain ⟨e0,e1,e2,e3,e4,e5,e6,e7,e8,e9,e10,e11,e12,e13,e14⟩:=h4.st.fl.cells
  obtain ⟨x0,x1,x2⟩:=tab_cells h4.tb.tab
  have e0:=Ext.cell e0
  have e1:=Ext.cell e1
  have e2:=Ext.cell e2
  have e3:=Ext.cell e3
  have e4:=Ext.cell e4
  have e5:=Ext.cell e5
  have e6:=Ext.cell e6
  have e7:=Ext.cell e7
  have e8:=Ext.cell e8
  have e9:=Ext.cell e9
  have e10:=Ext.cell e10
  have e11:=Ext.cell e11
  have e12:=Ext.cell e12
  have e13:=Ext.cell e13
  have e14:=Ext.cell e14
  have x2:=Ext.cell x2
  unfold keyV flV at hlk
  unfold flV at hcG
  unfold keyV at hcF
  have H4:=hidE h4
  have hsp:=fun W=>Tryz.stampOf g W
  clear hg hfk hl cF hgb x0 x1 hky h4
  cases gb
  ·by_cases hst:g.stp < f.stp
   ·have HA2:Hid (ab=true):=by show ab=true;rw [HAB.out];simp [hst]
    refine wp_region_ext (by kernel_rfl) (by kernel_rfl) ?_
    repeat (go_big_quiet_step (first|(go_at_call 40;exact hcG _)|(go_at_call 37;exact hcF _)))
    refine wpQuiet_nil ?_
    rintro _ ⟨u,rfl⟩
    have HF:=hidE (H4.out.step u.h)
    obtain ⟨W5,hW5⟩:∃ X9,u.W=X9:=⟨_,rfl⟩
    rw [hW5] at HF ⊢
    clear hW5 hcG hcF hlk e0 e1 e2 e3 e4 e5 e6 e7 e8 e9 e10 e11 e12 e13 e14 x2
    go_wp2_with fail
    go_meet
    case rel=>exact ⟨by rw [HA2.out],HF⟩
   ·have HA2:Hid (ab=false):=by show ab=false;rw [HAB.out];simp;omega
    refine wp_region_ext (by kernel_rfl) (by kernel_rfl) ?_
    repeat (go_big_quiet_step (first|(go_at_call 40;exact hcG _)|(go_at_call 37;exact hcF _)))
    refine wpQuiet_nil ?_
    rintro _ ⟨u,rfl⟩
    have HF:=hidE (H4.out.step u.h)
    obtain ⟨W5,hW5⟩:∃ X9,u.W=X9:=⟨_,rfl⟩
    rw [hW5] at HF ⊢
    clear hW5 hcG hcF hlk e0 e1 e2 e3 e4 e5 e6 e7 e8 e9 e10 e11 e12 e13 e14 x2
    go_wp2_with fail
    go_meet
    case rel=>exact ⟨by rw [HA2.out],HF⟩
  ·have HA2:Hid (ab=false):=by show ab=false;rw [HAB.out];simp
   refine wp_region_ext (by kernel_rfl) (by kernel_rfl) ?_
   repeat (go_big_quiet_step (first|(go_at_call 40;exact hcG _)|(go_at_call 37;exact hcF _)))
   refine wpQuiet_nil ?_
   rintro _ ⟨u,rfl⟩
   have HF:=hidE (H4.out.step u.h)
   obtain ⟨W5,hW5⟩:∃ X9,u.W=X9:=⟨_,rfl⟩
   rw [hW5] at HF ⊢
   clear hW5 hcG hcF hlk e0 e1 e2 e3 e4 e5 e6 e7 e8 e9 e10 e11 e12 e13 e14 x2
   go_wp2_with fail
   go_meet
   case rel=>exact ⟨by rw [HA2.out],HF⟩
 case rest =>
 obtain ⟨rfl,HF⟩:=hcut
 have h5:=HF.out
 obtain ⟨W5,hW5⟩:∃ X9,wc=X9:=⟨_,rfl⟩
 rw [hW5] at h5 ⊢
 clear hW5 HF h4
 subst hB
 have hbl:=h5.st.lb
 have hlm:=h5.lm
 have o6:=h5.st.tb.tab
 have b6:=h5.st.bel
 have h6:=h5.tb
 obtain ⟨t6,ht6⟩:∃ t6,t'=t6:=⟨_,rfl⟩
 rw [ht6] at h6
 have HT6:Hid (t6 = { max:=t.max,now:=now,fs:=leftL now t.fs }):=by rw [← ht6];exact HT'.out.symm
 clear h5 ht6 HABE
 go_upto_region 12 with fail
 obtain ⟨x0,x1,x2⟩:=tab_cells h6.tab
 obtain ⟨d0,d1,d2⟩:=tab_cells o6
 obtain ⟨y0,y1,y2⟩:=tab_frees o6
 go_upto_region 13 with fail
 obtain ⟨W8,hW8,o8,on8⟩:=tab_set o6 (.int .i64 t6.max) (.int .i64 t6.now) (.map (some m'))
 rw [hW8]
 have m8:=h6.map.block (on8.block m' (by omega))
 have hok:=h6.oks
 have g8:w.grownBy W8 (some b):=⟨on8.os.trans b6.os,on8.tape.trans b6.tape,on8.output.trans b6.output,by rw [on8.size];exact b6.size,fun i hi hne=>(on8.block i (fun e=>hne (by rw [e]))).trans (b6.block i hi)⟩
 have HFIN:Hid ((∃ m',w.heap.size≤m'∧TbAt W8 b m' t6)∧w.grownBy W8 (some b)):=⟨⟨m',hlm,o8,m8,hok⟩,g8⟩
 clear hW8 x0 x1 x2 d0 d1 d2 y0 y1 y2 o6 b6 on8 m8 hok g8 h6 o8
 go_wp2_with fail
 go_ret2
 exact ⟨rfl,by rw [HT6.out] at HFIN;exact HFIN.out⟩
end Go.Proofs.YtkhheooofcpfdaaGreatDoor
namespace Go.Proofs.YtkhheooofcpfdaaGreatDoor
open Go.RowKit Go.Maps
set_option linter.unusedVariables false
set_option maxRecDepth 100000 in
set_option maxHeartbeats 32000000 in
theorem ad_full (b m:Nat) (t:Tb) (f:Fl) (now:Int) (w:World) (h:TbAt w b m t) (ok:TbOk t) (hL:Lives w) (hz:timE t now=0) (hbe:chkE f=0) (hB:adB t f now=true) (hhs:hasK (leftL now t.fs) f.key=false) (hfu:t.max≤((leftL now t.fs).length:Int)) :
  Calls Tryz.prog 13 #[.pointer (some ⟨b,0,none⟩),flV f,.int .i64 now] w fun e w'=>e = .returned (.tuple #[.bool false,.iface 71 (.int .i64 4)])∧Below w.heap.size w w':=by
 have h1:=AdS.start w b m t f h
 obtain ⟨W1,hW1⟩:∃ W1,w.alloc (.cells #[.int .i64 f.key.kind,.int .i64 f.key.src,.int .i64 f.key.frm,.int .i64 f.key.dst,.int .i64 f.key.too,.int .i64 f.st,.int .i64 f.unt,.int .i64 f.stp,.int .i64 f.h0,.int .i64 f.h1,.int .i64 f.w0,.int .i64 f.w1,.bool f.d0,.bool f.d1,.int .i64 f.num] 45)=W1:=⟨_,rfl⟩
 rw [hW1] at h1
 have HL:=hidE (fun W (hb:Below w.heap.size w W)=>hL.below hb)
 have HHS:=hidE hhs
 have HFU:=hidE hfu
 clear hhs hfu
 have hc:=at_ok b m t now W1 h1.tb hz ok.ap (by have:=ok.le;have:=ok.mx;omega)
 have c2:=hidE (fun W hB=>check_any f W (HL.out W hB))
 have hky:=chk_ky hbe
 rw [hbe,errV_ok] at c2
 clear hbe
 unfold flV at c2
 clear hz
 have HKY:=hidE hky
 obtain ⟨ab,hab⟩:∃ ab,adB t f now=ab:=⟨_,rfl⟩
 have HABE:=hidE hab
 rw [hab] at hB
 clear hL
 unfold flV
 go_enter Tryz.func13,Tryz.ntmps13
 go_upto_region 1 with fail
 try rw [hW1]
 clear hW1
 go_upto_region 4 with (go_at_call 30;go_must (refine hc.mono ?_;rintro e W2 ⟨m',v,ks,rfl,hm2,hlm,hown2,hpm2,b2⟩))
 have h2:=AdT.of (h1.step b2) hm2 (Nat.le_trans h1.bel.size hlm)
 obtain ⟨W3,hW3⟩:∃ W3,W2.alloc (.cells #[.int .i64 t.max,.int .i64 now,.map (some m')] 76)=W3:=⟨_,rfl⟩
 obtain ⟨X,hX⟩:∃ X,W2.heap.size=X:=⟨_,rfl⟩
 rw [hW3] at h2 ⊢
 rw [hX] at h2 ⊢
 clear hW3 hX h1 b2 hc hm2 hlm hown2 hpm2
 obtain ⟨t',ht'⟩:∃ t',({ max:=t.max,now:=now,fs:=leftL now t.fs }:Tb)=t':=⟨_,rfl⟩
 rw [ht'] at h2
 have HT':=hidE ht'
 clear ht'
 obtain ⟨e0,e1,e2,e3,e4,e5,e6,e7,e8,e9,e10,e11,e12,e13,e14⟩:=h2.st.fl.cells
 have hc:=c2.out W3 h2.st.bel
 go_upto_region 7 with (go_at_call 39;go_must (refine hc.mono ?_;rintro e W4 ⟨rfl,b4⟩))
 have h4:=h2.step b4
 clear hc b4 h2 e0 e1 e2 e3 e4 e5 e6 e7 e8 e9 e10 e11 e12 e13 e14
 go_cut [12] (fun v wr=>v = .bool ab∧Hid (AdT w b m t f X m' t' wr))
 case first =>
  obtain ⟨g,hg⟩:∃ g,getK t'.fs f.key=g:=⟨_,rfl⟩
  have hl:=look_get h4.tb.oks hky m'
  rw [hg] at hl
  have cF:=first_any f.key
  obtain ⟨fk,hfk⟩:∃ fk,firstK f.key=fk:=⟨_,rfl⟩
  rw [hfk] at hl
  simp only [hfk] at cF
  have hlk:∀ u:Ext W4,(Instr.lookup 72 (.map (some m')) (keyV fk) false).run Tryz.prog u.W = .ok (flV g) u.W:=fun u=>hl u.W (h4.tb.below u.h).map
  have hcG:=Ext.call (w:=W4) (fun W=>gone_any f now W)
  have hcF:=Ext.call (w:=W4) cF
  have HAB:Hid (ab=(!goneB now f && decide (g.stp < f.stp))):=by
   show ab=_
   rw [← HABE.out,← hg]
   unfold adB
   rw [← HT'.out]
  obtain ⟨gb,hgb⟩:∃ gb,goneB now f=gb:=⟨_,rfl⟩
  rw [hgb] at hcG HAB
  obtain ⟨e0,e1,e2,e3,e4,e5,e6,e7,e8,e9,e10,e11,e12,e13,e14⟩:=h4.st.fl.cells
  obtain ⟨x0,x1,x2⟩:=tab_cells h4.tb.tab
  have e0:=Ext.cell e0
  have e1:=Ext.cell e1
  have e2:=Ext.cell e2
  have e3:=Ext.cell e3
  have e4:=Ext.cell e4
  have e5:=Ext.cell e5
  have e6:=Ext.cell e6
  have e7:=Ext.cell e7
  have e8:=Ext.cell e8
  have e9:=Ext.cell e9
  have e10:=Ext.cell e10
  have e11:=Ext.cell e11
  have e12:=Ext.cell e12
  have e13:=Ext.cell e13
  have e14:=Ext.cell e14
  have x2:=Ext.cell x2
  unfold keyV flV at hlk
  unfold flV at hcG
  unfold keyV at hcF
  have H4:=hidE h4
  have hsp:=fun W=>Tryz.stampOf g W
  clear hg hfk hl cF hgb x0 x1 hky h4
  cases gb
  ·by_cases hst:g.stp < f.stp
   ·have HA2:Hid (ab=true):=by show ab=true;rw [HAB.out];simp [hst]
    refine wp_region_ext (by kernel_rfl) (by kernel_rfl) ?_
    repeat (go_big_quiet_step (first|(go_at_call 40;exact hcG _)|(go_at_call 37;exact hcF _)))
    refine wpQuiet_nil ?_
    rintro _ ⟨u,rfl⟩
    have HF:=hidE (H4.out.step u.h)
    obtain ⟨W5,hW5⟩:∃ X9,u.W=X9:=⟨_,rfl⟩
    rw [hW5] at HF ⊢
    clear hW5 hcG hcF hlk e0 e1 e2 e3 e4 e5 e6 e7 e8 e9 e10 e11 e12 e13 e14 x2
    go_wp2_with fail
    go_meet
    case rel=>exact ⟨by rw [HA2.out],HF⟩
   ·have HA2:Hid (ab=false):=by show ab=false;rw [HAB.out];simp;omega
    refine wp_region_ext (by kernel_rfl) (by kernel_rfl) ?_
    repeat (go_big_quiet_step (first|(go_at_call 40;exact hcG _)|(go_at_call 37;exact hcF _)))
    refine wpQuiet_nil ?_
    rintro _ ⟨u,rfl⟩
    have HF:=hidE (H4.out.step u.h)
    obtain ⟨W5,hW5⟩:∃ X9,u.W=X9:=⟨_,rfl⟩
    rw [hW5] at HF ⊢
    clear hW5 hcG hcF hlk e0 e1 e2 e3 e4 e5 e6 e7 e8 e9 e10 e11 e12 e13 e14 x2
    go_wp2_with fail
    go_meet
    case rel=>exact ⟨by rw [HA2.out],HF⟩
  ·have HA2:Hid (ab=false):=by show ab=false;rw [HAB.out];simp
   refine wp_region_ext (by kernel_rfl) (by kernel_rfl) ?_
   repeat (go_big_quiet_step (first|(go_at_call 40;exact hcG _)|(go_at_call 37;exact hcF _)))
   refine wpQuiet_nil ?_
   rintro _ ⟨u,rfl⟩
   have HF:=hidE (H4.out.step u.h)
   obtain ⟨W5,hW5⟩:∃ X9,u.W=X9:=⟨_,rfl⟩
   rw [hW5] at HF ⊢
   clear hW5 hcG hcF hlk e0 e1 e2 e3 e4 e5 e6 e7 e8 e9 e10 e11 e12 e13 e14 x2
   go_wp2_with fail
   go_meet
   case rel=>exact ⟨by rw [HA2.out],HF⟩
 case rest =>
 obtain ⟨rfl,HF⟩:=hcut
 have h5:=HF.out
 obtain ⟨W5,hW5⟩:∃ X9,wc=X9:=⟨_,rfl⟩
 rw [hW5] at h5 ⊢
 clear hW5 HF h4
 subst hB
 have hky':=HKY.out
 obtain ⟨e0,e1,e2,e3,e4,e5,e6,e7,e8,e9,e10,e11,e12,e13,e14⟩:=h5.st.fl.cells
 have hp:=put_full X m' t' f W5 h5.tb hky' (by rw [← HT'.out];exact HHS.out) (by rw [← HT'.out];exact HFU.out)
 unfold flV at hp
 go_upto_region 11 with (go_at_call 33;go_must (refine hp.mono ?_;rintro e W6 ⟨rfl,b6⟩))
 have HB:=hidE (h5.step b6).st.bel
 clear hp b6 h5 e0 e1 e2 e3 e4 e5 e6 e7 e8 e9 e10 e11 e12 e13 e14
 go_wp2_with fail
 go_ret2
 exact ⟨rfl,HB.out⟩
end Go.Proofs.YtkhheooofcpfdaaGreatDoor
namespace Go.Proofs.YtkhheooofcpfdaaGreatDoor
open Go.RowKit Go.Maps
set_option linter.unusedVariables false
set_option maxRecDepth 100000 in
set_option maxHeartbeats 32000000 in
theorem ad_ok (b m:Nat) (t:Tb) (f:Fl) (now:Int) (w:World) (h:TbAt w b m t) (ok:TbOk t) (hL:Lives w) (hz:timE t now=0) (hbe:chkE f=0) (hB:adB t f now=true) (hfu:hasK (leftL now t.fs) f.key=true∨¬ t.max≤((leftL now t.fs).length:Int)) :
  Calls Tryz.prog 13 #[.pointer (some ⟨b,0,none⟩),flV f,.int .i64 now] w fun e w'=>e = .returned (.tuple #[.bool true,.nilIface])∧(∃ m',w.heap.size≤m'∧TbAt w' b m' { max:=t.max,now:=now,fs:=tputL f (leftL now t.fs) })∧w.grownBy w' (some b):=by
 have h1:=AdS.start w b m t f h
 obtain ⟨W1,hW1⟩:∃ W1,w.alloc (.cells #[.int .i64 f.key.kind,.int .i64 f.key.src,.int .i64 f.key.frm,.int .i64 f.key.dst,.int .i64 f.key.too,.int .i64 f.st,.int .i64 f.unt,.int .i64 f.stp,.int .i64 f.h0,.int .i64 f.h1,.int .i64 f.w0,.int .i64 f.w1,.bool f.d0,.bool f.d1,.int .i64 f.num] 45)=W1:=⟨_,rfl⟩
 rw [hW1] at h1
 have HL:=hidE (fun W (hb:Below w.heap.size w W)=>hL.below hb)
 have HFU:=hidE hfu
 have HLE:Hid ((leftL now t.fs).length≤1000):=by
  have:=ok.le;have:=ok.mx
  have:=List.length_filter_le (fun f=>!goneB now f) t.fs
  show (t.fs.filter fun f=>!goneB now f).length≤1000
  omega
 clear hfu
 have hc:=at_ok b m t now W1 h1.tb hz ok.ap (by have:=ok.le;have:=ok.mx;omega)
 have c2:=hidE (fun W hB=>check_any f W (HL.out W hB))
 have hky:=chk_ky hbe
 rw [hbe,errV_ok] at c2
 clear hbe
 unfold flV at c2
 clear hz
 have HKY:=hidE hky
 obtain ⟨ab,hab⟩:∃ ab,adB t f now=ab:=⟨_,rfl⟩
 have HABE:=hidE hab
 rw [hab] at hB
 clear hL
 unfold flV
 go_enter Tryz.func13,Tryz.ntmps13
 go_upto_region 1 with fail
 try rw [hW1]
 clear hW1
 go_upto_region 4 with (go_at_call 30;go_must (refine hc.mono ?_;rintro e W2 ⟨m',v,ks,rfl,hm2,hlm,hown2,hpm2,b2⟩))
 have h2:=AdT.of (h1.step b2) hm2 (Nat.le_trans h1.bel.size hlm)
 obtain ⟨W3,hW3⟩:∃ W3,W2.alloc (.cells #[.int .i64 t.max,.int .i64 now,.map (some m')] 76)=W3:=⟨_,rfl⟩
 obtain ⟨X,hX⟩:∃ X,W2.heap.size=X:=⟨_,rfl⟩
 rw [hW3] at h2 ⊢
 rw [hX] at h2 ⊢
 clear hW3 hX h1 b2 hc hm2 hlm hown2 hpm2
 obtain ⟨t',ht'⟩:∃ t',({ max:=t.max,now:=now,fs:=leftL now t.fs }:Tb)=t':=⟨_,rfl⟩
 rw [ht'] at h2
 have HT':=hidE ht'
 clear ht'
 obtain ⟨e0,e1,e2,e3,e4,e5,e6,e7,e8,e9,e10,e11,e12,e13,e14⟩:=h2.st.fl.cells
 have hc:=c2.out W3 h2.st.bel
 go_upto_region 7 with (go_at_call 39;go_must (refine hc.mono ?_;rintro e W4 ⟨rfl,b4⟩))
 have h4:=h2.step b4
 clear hc b4 h2 e0 e1 e2 e3 e4 e5 e6 e7 e8 e9 e10 e11 e12 e13 e14
 go_cut [12] (fun v wr=>v = .bool ab∧Hid (AdT w b m t f X m' t' wr))
 case first =>
  obtain ⟨g,hg⟩:∃ g,getK t'.fs f.key=g:=⟨_,rfl⟩
  have hl:=look_get h4.tb.oks hky m'
  rw [hg] at hl
  have cF:=first_any f.key
  obtain ⟨fk,hfk⟩:∃ fk,firstK f.key=fk:=⟨_,rfl⟩
  rw [hfk] at hl
  simp only [hfk] at cF
  have hlk:∀ u:Ext W4,(Instr.lookup 72 (.map (some m')) (keyV fk) false).run Tryz.prog u.W = .ok (flV g) u.W:=fun u=>hl u.W (h4.tb.below u.h).map
  have hcG:=Ext.call (w:=W4) (fun W=>gone_any f now W)
  have hcF:=Ext.call (w:=W4) cF
  have HAB:Hid (ab=(!goneB now f && decide (g.stp < f.stp))):=by
   show ab=_
   rw [← HABE.out,← hg]
   unfold adB
   rw [← HT'.out]
  obtain ⟨gb,hgb⟩:∃ gb,goneB now f=gb:=⟨_,rfl⟩
  rw [hgb] at hcG HAB
  obtain ⟨e0,e1,e2,e3,e4,e5,e6,e7,e8,e9,e10,e11,e12,e13,e14⟩:=h4.st.fl.cells
  obtain ⟨x0,x1,x2⟩:=tab_cells h4.tb.tab
  have e0:=Ext.cell e0
  have e1:=Ext.cell e1
  have e2:=Ext.cell e2
  have e3:=Ext.cell e3
  have e4:=Ext.cell e4
  have e5:=Ext.cell e5
  have e6:=Ext.cell e6
  have e7:=Ext.cell e7
  have e8:=Ext.cell e8
  have e9:=Ext.cell e9
  have e10:=Ext.cell e10
  have e11:=Ext.cell e11
  have e12:=Ext.cell e12
  have e13:=Ext.cell e13
  have e14:=Ext.cell e14
  have x2:=Ext.cell x2
  unfold keyV flV at hlk
  unfold flV at hcG
  unfold keyV at hcF
  have H4:=hidE h4
  have hsp:=fun W=>Tryz.stampOf g W
  clear hg hfk hl cF hgb x0 x1 hky h4
  cases gb
  ·by_cases hst:g.stp < f.stp
   ·have HA2:Hid (ab=true):=by show ab=true;rw [HAB.out];simp [hst]
    refine wp_region_ext (by kernel_rfl) (by kernel_rfl) ?_
    repeat (go_big_quiet_step (first|(go_at_call 40;exact hcG _)|(go_at_call 37;exact hcF _)))
    refine wpQuiet_nil ?_
    rintro _ ⟨u,rfl⟩
    have HF:=hidE (H4.out.step u.h)
    obtain ⟨W5,hW5⟩:∃ X9,u.W=X9:=⟨_,rfl⟩
    rw [hW5] at HF ⊢
    clear hW5 hcG hcF hlk e0 e1 e2 e3 e4 e5 e6 e7 e8 e9 e10 e11 e12 e13 e14 x2
    go_wp2_with fail
    go_meet
    case rel=>exact ⟨by rw [HA2.out],HF⟩
   ·have HA2:Hid (ab=false):=by show ab=false;rw [HAB.out];simp;omega
    refine wp_region_ext (by kernel_rfl) (by kernel_rfl) ?_
    repeat (go_big_quiet_step (first|(go_at_call 40;exact hcG _)|(go_at_call 37;exact hcF _)))
    refine wpQuiet_nil ?_
    rintro _ ⟨u,rfl⟩
    have HF:=hidE (H4.out.step u.h)
    obtain ⟨W5,hW5⟩:∃ X9,u.W=X9:=⟨_,rfl⟩
    rw [hW5] at HF ⊢
    clear hW5 hcG hcF hlk e0 e1 e2 e3 e4 e5 e6 e7 e8 e9 e10 e11 e12 e13 e14 x2
    go_wp2_with fail
    go_meet
    case rel=>exact ⟨by rw [HA2.out],HF⟩
  ·have HA2:Hid (ab=false):=by show ab=false;rw [HAB.out];simp
   refine wp_region_ext (by kernel_rfl) (by kernel_rfl) ?_
   repeat (go_big_quiet_step (first|(go_at_call 40;exact hcG _)|(go_at_call 37;exact hcF _)))
   refine wpQuiet_nil ?_
   rintro _ ⟨u,rfl⟩
   have HF:=hidE (H4.out.step u.h)
   obtain ⟨W5,hW5⟩:∃ X9,u.W=X9:=⟨_,rfl⟩
   rw [hW5] at HF ⊢
   clear hW5 hcG hcF hlk e0 e1 e2 e3 e4 e5 e6 e7 e8 e9 e10 e11 e12 e13 e14 x2
   go_wp2_with fail
   go_meet
   case rel=>exact ⟨by rw [HA2.out],HF⟩
 case rest =>
 obtain ⟨rfl,HF⟩:=hcut
 have h5:=HF.out
 obtain ⟨W5,hW5⟩:∃ X9,wc=X9:=⟨_,rfl⟩
 rw [hW5] at h5 ⊢
 clear hW5 HF h4
 subst hB
 have hky':=HKY.out
 obtain ⟨e0,e1,e2,e3,e4,e5,e6,e7,e8,e9,e10,e11,e12,e13,e14⟩:=h5.st.fl.cells
 have hp:=put_ok X m' t' f W5 h5.tb hky' (by have:=HFU.out;rw [← HT'.out];show hasK (leftL now t.fs) f.key=true∨¬ (t.max≤((leftL now t.fs).length:Int));rcases this with h|h;(exact .inl h);exact .inr (by omega)) (by rw [← HT'.out];exact HLE.out)
 unfold flV at hp
 go_upto_region 12 with (go_at_call 33;go_must (refine hp.mono ?_;rintro e W6 ⟨rfl,h6,g6⟩))
 have hbl:=h5.st.lb
 have hlm:=h5.lm
 have o6:=(g6.block b h5.st.tb.lt (by simp;omega)).trans h5.st.tb.tab
 have b6:=h5.st.bel.grown g6 h5.st.bel.size (fun j hj=>by cases hj;exact hlm)
 obtain ⟨t6,ht6⟩:∃ t6,({ t' with fs:=tputL f t'.fs }:Tb)=t6:=⟨_,rfl⟩
 rw [ht6] at h6
 have HT6:Hid (t6 = { max:=t.max,now:=now,fs:=tputL f (leftL now t.fs) }):=by show t6=_;rw [← ht6,← HT'.out]
 clear h5 ht6 HABE hp g6 e0 e1 e2 e3 e4 e5 e6 e7 e8 e9 e10 e11 e12 e13 e14
 obtain ⟨x0,x1,x2⟩:=tab_cells h6.tab
 obtain ⟨d0,d1,d2⟩:=tab_cells o6
 obtain ⟨y0,y1,y2⟩:=tab_frees o6
 go_upto_region 13 with fail
 obtain ⟨W8,hW8,o8,on8⟩:=tab_set o6 (.int .i64 t6.max) (.int .i64 t6.now) (.map (some m'))
 rw [hW8]
 have m8:=h6.map.block (on8.block m' (by omega))
 have hok:=h6.oks
 have g8:w.grownBy W8 (some b):=⟨on8.os.trans b6.os,on8.tape.trans b6.tape,on8.output.trans b6.output,by rw [on8.size];exact b6.size,fun i hi hne=>(on8.block i (fun e=>hne (by rw [e]))).trans (b6.block i hi)⟩
 have HFIN:Hid ((∃ m',w.heap.size≤m'∧TbAt W8 b m' t6)∧w.grownBy W8 (some b)):=⟨⟨m',hlm,o8,m8,hok⟩,g8⟩
 clear hW8 x0 x1 x2 d0 d1 d2 y0 y1 y2 o6 b6 on8 m8 hok g8 h6 o8
 go_wp2_with fail
 go_ret2
 exact ⟨rfl,by rw [HT6.out] at HFIN;exact HFIN.out⟩
end Go.Proofs.YtkhheooofcpfdaaGreatDoor
namespace Go.Proofs.YtkhheooofcpfdaaGreatDoor
open Go.RowKit Go.Maps
set_option linter.unusedVariables false
theorem adopt_at (b m:Nat) (t:Tb) (f:Fl) (now:Int) (w:World) (h:TbAt w b m t) (ok:TbOk t) (hL:Lives w) :
  Calls Tryz.prog 13 #[.pointer (some ⟨b,0,none⟩),flV f,.int .i64 now] w fun e w'=>e = .returned (.tuple #[.bool (if adE t f now=0 then adB t f now else false),errV (adE t f now)])∧(∃ m',(m'=m∨w.heap.size≤m')∧TbAt w' b m' (adS t f now))∧w.grownBy w' (some b):=by
 have no:∀ z:Int,¬ z=0→adE t f now=z→Calls Tryz.prog 13 #[.pointer (some ⟨b,0,none⟩),flV f,.int .i64 now] w (fun e w'=>e = .returned (.tuple #[.bool false,.iface 71 (.int .i64 z)])∧Below w.heap.size w w')→Calls Tryz.prog 13 #[.pointer (some ⟨b,0,none⟩),flV f,.int .i64 now] w (fun e w'=>e = .returned (.tuple #[.bool (if adE t f now=0 then adB t f now else false),errV (adE t f now)])∧(∃ m',(m'=m∨w.heap.size≤m')∧TbAt w' b m' (adS t f now))∧w.grownBy w' (some b)):=by
  intro z h0 he hc
  have e0:¬ adE t f now=0:=by rw [he];exact h0
  refine hc.mono fun e w' ⟨h1,h2⟩=>⟨?_,?_⟩
  ·rw [h1,if_neg e0,he,errV_no h0]
  ·unfold adS;rw [if_pos e0]
   exact ⟨⟨m,.inl rfl,h.below h2⟩,(grown_of_below h2).but _⟩
 by_cases hz:timE t now=0
 case neg=>exact no _ hz (by unfold adE;rw [if_pos hz]) (ad_time b m t f now w h ok hL _ rfl hz)
 by_cases hbe:chkE f=0
 case neg=>exact no _ hbe (by unfold adE;rw [if_neg (fun x=>x hz),if_pos hbe]) (ad_chk b m t f now w h ok hL _ hz rfl hbe)
 by_cases hB':adB t f now=true
 case neg =>
  have hB:adB t f now=false:=by simpa using hB'
  have e0:adE t f now=0:=by unfold adE;rw [if_neg (fun x=>x hz),if_neg (fun x=>x hbe),if_neg (fun x=>by rw [hB] at x;cases x.1)]
  refine (ad_no b m t f now w h ok hL hz hbe hB).mono fun e w' ⟨h1,h2⟩=>⟨?_,?_⟩
  ·rw [h1,e0,if_pos rfl,errV_ok,hB]
  ·unfold adS;rw [if_neg (fun x=>x e0),hB];obtain ⟨⟨m1,p1,q1⟩,r1⟩:=h2;exact ⟨⟨m1,.inr p1,q1⟩,r1⟩
 have hB:=hB'
 by_cases hfu:hasK (leftL now t.fs) f.key=false∧t.max≤((leftL now t.fs).length:Int)
 case pos=>exact no 4 (by decide) (by unfold adE;rw [if_neg (fun x=>x hz),if_neg (fun x=>x hbe),if_pos ⟨hB,hfu⟩]) (ad_full b m t f now w h ok hL hz hbe hB hfu.1 hfu.2)
 have e0:adE t f now=0:=by unfold adE;rw [if_neg (fun x=>x hz),if_neg (fun x=>x hbe),if_neg (fun x=>hfu x.2)]
 have hx:hasK (leftL now t.fs) f.key=true∨¬ t.max≤((leftL now t.fs).length:Int):=by
  cases hh:hasK (leftL now t.fs) f.key
  ·exact .inr (fun hm=>hfu ⟨hh,hm⟩)
  ·exact .inl rfl
 refine (ad_ok b m t f now w h ok hL hz hbe hB hx).mono fun e w' ⟨h1,h2⟩=>⟨?_,?_⟩
 ·rw [h1,e0,if_pos rfl,errV_ok,hB]
 ·unfold adS;rw [if_neg (fun x=>x e0),hB];obtain ⟨⟨m1,p1,q1⟩,r1⟩:=h2;exact ⟨⟨m1,.inr p1,q1⟩,r1⟩
end Go.Proofs.YtkhheooofcpfdaaGreatDoor
