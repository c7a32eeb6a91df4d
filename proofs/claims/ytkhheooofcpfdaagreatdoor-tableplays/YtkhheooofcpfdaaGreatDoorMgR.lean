/- What Begin of package table returns, and what it leaves: the states that its walk goes through, and where the time is refused. -/
import Derived.Test.YtkhheooofcpfdaaGreatDoorMgQ
import Derived.Test.YtkhheooofcpfdaaGreatDoorMgT
import Derived.Deep.DeepCutAuto
import Derived.Test.YtkhheooofcpfdaaGreatDoorMhN
namespace Go.Proofs.YtkhheooofcpfdaaGreatDoor
open Go.RowKit Go.Maps
set_option linter.unusedVariables false
structure BgS (w:World) (b m:Nat) (t:Tb) (k:Ky) (s:Sg) (bv:Value) (W:World):Prop where
 ky:KyAt W w.heap.size k
 sg:SgAt W (w.heap.size+1) s bv
 rs:FlAt W (w.heap.size+2) zeroF
 tb:TbAt W b m t
 lb:b < w.heap.size
 bel:Below w.heap.size w W
theorem BgS.start (w:World) (b m:Nat) (t:Tb) (k:Ky) (s:Sg) (bv:Value) (h:TbAt w b m t):BgS w b m t k s bv (((w.alloc (.cells #[.int .i64 k.kind,.int .i64 k.src,.int .i64 k.frm,.int .i64 k.dst,.int .i64 k.too] 37)).alloc (.cells #[.int .i64 s.frm,.int .i64 s.too,.int .i64 s.seq,.int .i64 s.ack,.int .i64 s.win,.int .i64 s.flg,bv] 41)).alloc (.cells #[.int .i64 0,.int .i64 0,.int .i64 0,.int .i64 0,.int .i64 0,.int .i64 0,.int .i64 0,.int .i64 0,.int .i64 0,.int .i64 0,.int .i64 0,.int .i64 0,.bool false,.bool false,.int .i64 0] 45)):=by
 have h1:=Ks2.start w k s bv
 have s1:((w.alloc (.cells #[.int .i64 k.kind,.int .i64 k.src,.int .i64 k.frm,.int .i64 k.dst,.int .i64 k.too] 37)).alloc (.cells #[.int .i64 s.frm,.int .i64 s.too,.int .i64 s.seq,.int .i64 s.ack,.int .i64 s.win,.int .i64 s.flg,bv] 41)).heap.size=w.heap.size+2:=by simp
 have t1:=(h.alloc (.cells #[.int .i64 k.kind,.int .i64 k.src,.int .i64 k.frm,.int .i64 k.dst,.int .i64 k.too] 37)).alloc (.cells #[.int .i64 s.frm,.int .i64 s.too,.int .i64 s.seq,.int .i64 s.ack,.int .i64 s.win,.int .i64 s.flg,bv] 41)
 generalize (w.alloc (.cells #[.int .i64 k.kind,.int .i64 k.src,.int .i64 k.frm,.int .i64 k.dst,.int .i64 k.too] 37)).alloc (.cells #[.int .i64 s.frm,.int .i64 s.too,.int .i64 s.seq,.int .i64 s.ack,.int .i64 s.win,.int .i64 s.flg,bv] 41)=w1 at h1 s1 t1 ⊢
 have h3:=FlAt.zero w1
 rw [s1] at h3
 exact ⟨h1.ky.alloc _,h1.sg.alloc _,h3,t1.alloc _,h.lt,h1.bel.alloc h1.bel.size _⟩
theorem BgS.step {w W W':World} {b m:Nat} {t:Tb} {k:Ky} {s:Sg} {bv:Value} (h:BgS w b m t k s bv W) (hb:Below W.heap.size W W'):BgS w b m t k s bv W' :=
 ⟨h.ky.below h.ky.lt hb,h.sg.below h.sg.lt hb,h.rs.below h.rs.lt hb,h.tb.below hb,h.lb,h.bel.trans (hb.mono h.bel.size)⟩
theorem BgS.alloc {w W:World} {b m:Nat} {t:Tb} {k:Ky} {s:Sg} {bv:Value} (h:BgS w b m t k s bv W) (o:Obj):BgS w b m t k s bv (W.alloc o):=h.step ((Below.refl _ _).alloc (Nat.le_refl _) _)
theorem BgS.wipe {w W:World} {b m:Nat} {t:Tb} {k:Ky} {s:Sg} {bv:Value} (h:BgS w b m t k s bv W) :
  ∃ W',(((((((((((((((W.setCell ⟨w.heap.size+2,0,none⟩ (.int .i64 0)).setCell ⟨w.heap.size+2,1,none⟩ (.int .i64 0)).setCell ⟨w.heap.size+2,2,none⟩ (.int .i64 0)).setCell ⟨w.heap.size+2,3,none⟩ (.int .i64 0)).setCell ⟨w.heap.size+2,4,none⟩ (.int .i64 0)).setCell ⟨w.heap.size+2,5,none⟩ (.int .i64 0)).setCell ⟨w.heap.size+2,6,none⟩ (.int .i64 0)).setCell ⟨w.heap.size+2,7,none⟩ (.int .i64 0)).setCell ⟨w.heap.size+2,8,none⟩ (.int .i64 0)).setCell ⟨w.heap.size+2,9,none⟩ (.int .i64 0)).setCell ⟨w.heap.size+2,10,none⟩ (.int .i64 0)).setCell ⟨w.heap.size+2,11,none⟩ (.int .i64 0)).setCell ⟨w.heap.size+2,12,none⟩ (.bool false)).setCell ⟨w.heap.size+2,13,none⟩ (.bool false)).setCell ⟨w.heap.size+2,14,none⟩ (.int .i64 0))=W'∧FlAt W' (w.heap.size+2) zeroF∧Below w.heap.size w W':=by
 obtain ⟨W',e,h1,h2⟩:=h.rs.store zeroF
 exact ⟨W',e,h1,h2.below (by omega) h.bel⟩
structure BgT (w:World) (b m:Nat) (t:Tb) (k:Ky) (s:Sg) (bv:Value) (X m':Nat) (t':Tb) (W:World):Prop where
 st:BgS w b m t k s bv W
 tb:TbAt W X m' t'
 lx:w.heap.size+2 < X
 lm:w.heap.size≤m'
theorem BgT.step {w W W':World} {b m X m':Nat} {t t':Tb} {k:Ky} {s:Sg} {bv:Value} (h:BgT w b m t k s bv X m' t' W) (hb:Below W.heap.size W W'):BgT w b m t k s bv X m' t' W':=⟨h.st.step hb,h.tb.below hb,h.lx,h.lm⟩
theorem BgT.alloc {w W:World} {b m X m':Nat} {t t':Tb} {k:Ky} {s:Sg} {bv:Value} (h:BgT w b m t k s bv X m' t' W) (o:Obj):BgT w b m t k s bv X m' t' (W.alloc o):=h.step ((Below.refl _ _).alloc (Nat.le_refl _) _)
theorem BgT.of {w W:World} {b m m':Nat} {t:Tb} {k:Ky} {s:Sg} {bv:Value} {now:Int} (h:BgS w b m t k s bv W) (hm:MapIs Tryz.prog 37 W m' (flsL (leftL now t.fs))) (hl:w.heap.size≤m') :
  BgT w b m t k s bv W.heap.size m' { max:=t.max,now:=now,fs:=leftL now t.fs } (W.alloc (.cells #[.int .i64 t.max,.int .i64 now,.map (some m')] 76)) :=
 ⟨h.alloc _,⟨heap_alloc_new W _,hm.block (Below.heap_alloc _ _ _ hm.lt),fun f hf=>h.tb.oks f (List.mem_filter.1 hf).1⟩,h.rs.lt,hl⟩
theorem said_no {w w':World} {b m:Nat} {t:Tb} (h:TbAt w b m t) (hb:Below w.heap.size w w'):(∃ m',TbAt w' b m' t)∧w.grownBy w' (some b):=⟨⟨m,h.below hb⟩,(grown_of_below hb).but _⟩
set_option maxRecDepth 100000 in
set_option maxHeartbeats 32000000 in
theorem bg_time (b m:Nat) (t:Tb) (k:Ky) (s:Sg) (a:Option Addr) (l c:Nat) (rule now:Int) (w:World) (h:TbAt w b m t) (ok:TbOk t) (hk:KyOk k) (hb:Bytes w (.slice a l c) s.body) (hL:Lives w) (z:Int) (hz:timE t now=z) (h0:¬ z=0) :
  Calls Tryz.prog 8 #[.pointer (some ⟨b,0,none⟩),keyV k,segV s (.slice a l c),.int .i64 rule,.int .i64 now] w fun e w'=>e = .returned (.tuple #[flV zeroF,.iface 71 (.int .i64 z)])∧Below w.heap.size w w':=by
 rw [show flV zeroF = .agg #[.int .i64 0,.int .i64 0,.int .i64 0,.int .i64 0,.int .i64 0,.int .i64 0,.int .i64 0,.int .i64 0,.int .i64 0,.int .i64 0,.int .i64 0,.int .i64 0,.bool false,.bool false,.int .i64 0] from rfl]
 have h1:=BgS.start w b m t k s (.slice a l c) h
 obtain ⟨W1,hW1⟩:∃ W1,((w.alloc (.cells #[.int .i64 k.kind,.int .i64 k.src,.int .i64 k.frm,.int .i64 k.dst,.int .i64 k.too] 37)).alloc (.cells #[.int .i64 s.frm,.int .i64 s.too,.int .i64 s.seq,.int .i64 s.ack,.int .i64 s.win,.int .i64 s.flg,.slice a l c] 41)).alloc (.cells #[.int .i64 0,.int .i64 0,.int .i64 0,.int .i64 0,.int .i64 0,.int .i64 0,.int .i64 0,.int .i64 0,.int .i64 0,.int .i64 0,.int .i64 0,.int .i64 0,.bool false,.bool false,.int .i64 0] 45)=W1:=⟨_,rfl⟩
 rw [hW1] at h1
 have HT:=hidE h
 have HL:=hidE (fun W (hb:Below w.heap.size w W)=>hL.below hb)
 have HB:=hidE (fun W (hB:Below w.heap.size w W)=>hb.below (Nat.le_refl _) hB)
 have hc:=at_bad b m t now z W1 h1.tb hz h0
 clear hz h0
 clear hL hb
 unfold keyV segV
 go_enter Tryz.func8,Tryz.ntmps8
 go_upto_region 1 with fail
 try rw [hW1]
 clear hW1
 go_upto_region 3 with (go_at_call 30;go_must (refine hc.mono ?_;rintro e W2 ⟨rfl,b2⟩))
 have h2:=(h1.step b2).alloc (.cells #[.int .i64 0,.int .i64 0,.map none] 76)
 obtain ⟨W3,hW3⟩:∃ W3,W2.alloc (.cells #[.int .i64 0,.int .i64 0,.map none] 76)=W3:=⟨_,rfl⟩
 rw [hW3] at h2 ⊢
 clear hW3 h1 b2 hc
 obtain ⟨y0,y1,y2,y3,y4,y5,y6,y7,y8,y9,y10,y11,y12,y13,y14⟩:=h2.rs.frees
 obtain ⟨d0,d1,d2,d3,d4,d5,d6,d7,d8,d9,d10,d11,d12,d13,d14⟩:=zero_cells h2.rs
 obtain ⟨W9,hW9,g9,b9⟩:=h2.wipe
 have HW9:=hidE hW9
 have HG9:=hidE g9
 have HB9:=hidE b9
 clear hW9 g9 b9
 go_wp2_with fail
 rw [HW9.out]
 clear y0 y1 y2 y3 y4 y5 y6 y7 y8 y9 y10 y11 y12 y13 y14 d0 d1 d2 d3 d4 d5 d6 d7 d8 d9 d10 d11 d12 d13 d14
 obtain ⟨c0,c1,c2,c3,c4,c5,c6,c7,c8,c9,c10,c11,c12,c13,c14⟩:=zero_cells HG9.out
 exact bodyPost_ret (v:=.tuple #[.agg #[.int .i64 0,.int .i64 0,.int .i64 0,.int .i64 0,.int .i64 0,.int .i64 0,.int .i64 0,.int .i64 0,.int .i64 0,.int .i64 0,.int .i64 0,.int .i64 0,.bool false,.bool false,.int .i64 0],.iface 71 (.int .i64 z)]) (by simp [results,Tryz.results8,go_sem,c0,c1,c2,c3,c4,c5,c6,c7,c8,c9,c10,c11,c12,c13,c14]) rfl ⟨rfl,HB9.out⟩
end Go.Proofs.YtkhheooofcpfdaaGreatDoor
namespace Go.Proofs.YtkhheooofcpfdaaGreatDoor
open Go.RowKit Go.Maps
set_option linter.unusedVariables false
theorem fl_wipe {W:World} {B:Nat} {g:Fl} (h:FlAt W B g):∃ W',(((((((((((((((W.setCell ⟨B,0,none⟩ (.int .i64 0)).setCell ⟨B,1,none⟩ (.int .i64 0)).setCell ⟨B,2,none⟩ (.int .i64 0)).setCell ⟨B,3,none⟩ (.int .i64 0)).setCell ⟨B,4,none⟩ (.int .i64 0)).setCell ⟨B,5,none⟩ (.int .i64 0)).setCell ⟨B,6,none⟩ (.int .i64 0)).setCell ⟨B,7,none⟩ (.int .i64 0)).setCell ⟨B,8,none⟩ (.int .i64 0)).setCell ⟨B,9,none⟩ (.int .i64 0)).setCell ⟨B,10,none⟩ (.int .i64 0)).setCell ⟨B,11,none⟩ (.int .i64 0)).setCell ⟨B,12,none⟩ (.bool false)).setCell ⟨B,13,none⟩ (.bool false)).setCell ⟨B,14,none⟩ (.int .i64 0))=W'∧FlAt W' B zeroF∧Only B W W':=h.store zeroF
theorem fl_late {W W3:World} {B:Nat} {g:Fl} (h:FlAt W B g) (b3:Below W.drew.heap.size W.drew W3):FlAt W3 B g:=FlAt.below h.drew h.drew.lt b3
def getK (fs:List Fl) (k:Ky):Fl:=(fs.find? fun f=>decide (firstK f.key=firstK k)).getD zeroF
theorem getK_in {fs:List Fl} {k:Ky} (h:hasK fs k=true):getK fs k ∈ fs∧firstK (getK fs k).key=firstK k:=by
 unfold getK
 cases hf:fs.find? (fun f=>decide (firstK f.key=firstK k)) with
 | none =>
  obtain ⟨f,hm,e⟩:=hasK_of h
  have:=List.find?_eq_none.1 hf f hm
  simp [e] at this
 | some f =>
  have h1:=List.mem_of_find?_eq_some hf
  have h2:firstK f.key=firstK k:=by simpa using List.find?_some hf
  exact ⟨h1,h2⟩
theorem getK_no {fs:List Fl} {k:Ky} (h:hasK fs k=false):getK fs k=zeroF:=by
 unfold getK
 cases hf:fs.find? (fun f=>decide (firstK f.key=firstK k)) with
 | none=>rfl
 | some f=>exact absurd (by simpa using List.find?_some hf) (hasK_not h f (List.mem_of_find?_eq_some hf))
set_option maxRecDepth 100000 in
theorem look_get {fs:List Fl} (hok:∀ f ∈ fs,KyOk f.key) {k:Ky} (hk:KyOk k) (m:Nat) :
  ∀ X,MapIs Tryz.prog 37 X m (flsL fs)→(Instr.lookup 72 (.map (some m)) (keyV (firstK k)) false).run Tryz.prog X = .ok (flV (getK fs k)) X:=by
 intro X hX
 cases hh:hasK fs k
 ·rw [getK_no hh]
  refine hX.look_no lawK Tryz.underlying72 (zeroFl X) (keyK hk.first) (fun x hx e=>?_)
  obtain ⟨f,hf,rfl⟩:=fls_mem.1 hx
  simp only at e
  exact hasK_not hh f hf (litK_inj (hok f hf).first hk.first e)
 ·obtain ⟨hg,e⟩:=getK_in hh
  exact hX.look lawK Tryz.underlying72 (zeroFl X) (keyK hk.first) (fls_mem.2 ⟨_,hg,by rw [e]⟩)
theorem hs_of2 {w:World} {b m:Nat} {k:Ky} {fs:List Fl} {q u:Value} {cc:Bool} (hl:∀ X,MapIs Tryz.prog 37 X m (flsL fs)→(Instr.lookup 72 (.map (some m)) q cc).run Tryz.prog X = .ok u X) {X:World} (h:HsS w b m k fs X) :
  (X.cell? ⟨b,2,none⟩=some (.map (some m))∧X.cell? ⟨w.heap.size,0,none⟩=some (.int .i64 k.kind)∧X.cell? ⟨w.heap.size,1,none⟩=some (.int .i64 k.src)∧X.cell? ⟨w.heap.size,2,none⟩=some (.int .i64 k.frm)∧X.cell? ⟨w.heap.size,3,none⟩=some (.int .i64 k.dst)∧X.cell? ⟨w.heap.size,4,none⟩=some (.int .i64 k.too)∧(Instr.lookup 72 (.map (some m)) q cc).run Tryz.prog X = .ok u X)∧HsS w b m k fs X :=
 ⟨⟨h.tab,h.ky.cells.1,h.ky.cells.2.1,h.ky.cells.2.2.1,h.ky.cells.2.2.2.1,h.ky.cells.2.2.2.2,hl X h.map⟩,h⟩
structure GtS (w:World) (b m:Nat) (k:Ky) (t:Tb) (X:World):Prop where
 hs:HsS w b m k t.fs X
 rs:FlAt X (w.heap.size+1) zeroF
 tb:TbAt X b m t
theorem GtS.step {w X X':World} {b m:Nat} {k:Ky} {t:Tb} (h:GtS w b m k t X) (hb:Below X.heap.size X X'):GtS w b m k t X':=⟨h.hs.step hb,h.rs.below h.rs.lt hb,h.tb.below hb⟩
theorem GtS.start (w:World) (b m:Nat) (k:Ky) (t:Tb) (h:TbAt w b m t):GtS w b m k t ((w.alloc (.cells #[.int .i64 k.kind,.int .i64 k.src,.int .i64 k.frm,.int .i64 k.dst,.int .i64 k.too] 37)).alloc (.cells #[.int .i64 0,.int .i64 0,.int .i64 0,.int .i64 0,.int .i64 0,.int .i64 0,.int .i64 0,.int .i64 0,.int .i64 0,.int .i64 0,.int .i64 0,.int .i64 0,.bool false,.bool false,.int .i64 0] 45)):=by
 have h1:=(h.alloc (.cells #[.int .i64 k.kind,.int .i64 k.src,.int .i64 k.frm,.int .i64 k.dst,.int .i64 k.too] 37)).alloc (.cells #[.int .i64 0,.int .i64 0,.int .i64 0,.int .i64 0,.int .i64 0,.int .i64 0,.int .i64 0,.int .i64 0,.int .i64 0,.int .i64 0,.int .i64 0,.int .i64 0,.bool false,.bool false,.int .i64 0] 45)
 have b1:Below w.heap.size w (w.alloc (.cells #[.int .i64 k.kind,.int .i64 k.src,.int .i64 k.frm,.int .i64 k.dst,.int .i64 k.too] 37)):=(Below.refl _ _).alloc (Nat.le_refl _) _
 have z:=FlAt.zero (w.alloc (.cells #[.int .i64 k.kind,.int .i64 k.src,.int .i64 k.frm,.int .i64 k.dst,.int .i64 k.too] 37))
 rw [show (w.alloc (.cells #[.int .i64 k.kind,.int .i64 k.src,.int .i64 k.frm,.int .i64 k.dst,.int .i64 k.too] 37)).heap.size=w.heap.size+1 by simp] at z
 exact ⟨⟨(tab_cells h1.tab).2.2,(KyAt.new w k).alloc _,h1.map,h.lt,h.map.lt,b1.alloc b1.size _⟩,z,h1⟩
set_option maxRecDepth 100000 in
set_option maxHeartbeats 16000000 in
theorem get_no (b m:Nat) (t:Tb) (k:Ky) (w:World) (h:TbAt w b m t) (hk:KyOk k) (hh:hasK t.fs k=false) :
  Calls Tryz.prog 20 #[.pointer (some ⟨b,0,none⟩),keyV k] w fun e w'=>e = .returned (.tuple #[.agg #[.int .i64 0,.int .i64 0,.int .i64 0,.int .i64 0,.int .i64 0,.int .i64 0,.int .i64 0,.int .i64 0,.int .i64 0,.int .i64 0,.int .i64 0,.int .i64 0,.bool false,.bool false,.int .i64 0],.iface 71 (.int .i64 5)])∧Below w.heap.size w w':=by
 have h1:=GtS.start w b m k t h
 obtain ⟨W1,hW1⟩:∃ W1,(w.alloc (.cells #[.int .i64 k.kind,.int .i64 k.src,.int .i64 k.frm,.int .i64 k.dst,.int .i64 k.too] 37)).alloc (.cells #[.int .i64 0,.int .i64 0,.int .i64 0,.int .i64 0,.int .i64 0,.int .i64 0,.int .i64 0,.int .i64 0,.int .i64 0,.int .i64 0,.int .i64 0,.int .i64 0,.bool false,.bool false,.int .i64 0] 45)=W1:=⟨_,rfl⟩
 rw [hW1] at h1
 have hc:=thas_any b m t k W1 h1.tb hk
 rw [hh] at hc
 unfold keyV at *
 clear h hk hh
 go_enter Tryz.func20,Tryz.ntmps20
 go_upto_region 1 with fail
 try rw [hW1]
 clear hW1
 obtain ⟨k0,k1,k2,k3,k4⟩:=h1.hs.ky.cells
 go_upto_region 2 with (go_at_call 32;go_must (refine hc.mono ?_;rintro e W2 ⟨rfl,b2⟩))
 have h2:=h1.step b2
 clear hc b2 h1 k0 k1 k2 k3 k4
 obtain ⟨y0,y1,y2,y3,y4,y5,y6,y7,y8,y9,y10,y11,y12,y13,y14⟩:=h2.rs.frees
 obtain ⟨d0,d1,d2,d3,d4,d5,d6,d7,d8,d9,d10,d11,d12,d13,d14⟩:=zero_cells h2.rs
 obtain ⟨W9,hW9,g9,o9⟩:=fl_wipe h2.rs
 have HW9:=hidE hW9
 have HG9:=hidE g9
 have HB9:=hidE (o9.below (by omega) h2.hs.bel)
 clear hW9 g9 o9
 go_wp2_with fail
 rw [HW9.out]
 clear y0 y1 y2 y3 y4 y5 y6 y7 y8 y9 y10 y11 y12 y13 y14 d0 d1 d2 d3 d4 d5 d6 d7 d8 d9 d10 d11 d12 d13 d14
 obtain ⟨c0,c1,c2,c3,c4,c5,c6,c7,c8,c9,c10,c11,c12,c13,c14⟩:=zero_cells HG9.out
 exact bodyPost_ret (v:=.tuple #[.agg #[.int .i64 0,.int .i64 0,.int .i64 0,.int .i64 0,.int .i64 0,.int .i64 0,.int .i64 0,.int .i64 0,.int .i64 0,.int .i64 0,.int .i64 0,.int .i64 0,.bool false,.bool false,.int .i64 0],.iface 71 (.int .i64 5)]) (by simp [results,Tryz.results20,go_sem,c0,c1,c2,c3,c4,c5,c6,c7,c8,c9,c10,c11,c12,c13,c14]) rfl ⟨rfl,HB9.out⟩
set_option maxRecDepth 100000 in
set_option maxHeartbeats 16000000 in
theorem get_ok (b m:Nat) (t:Tb) (k:Ky) (w:World) (h:TbAt w b m t) (hk:KyOk k) (hh:hasK t.fs k=true) :
  Calls Tryz.prog 20 #[.pointer (some ⟨b,0,none⟩),keyV k] w fun e w'=>e = .returned (.tuple #[flV (getK t.fs k),.nilIface])∧Below w.heap.size w w':=by
 have h1:=GtS.start w b m k t h
 obtain ⟨W1,hW1⟩:∃ W1,(w.alloc (.cells #[.int .i64 k.kind,.int .i64 k.src,.int .i64 k.frm,.int .i64 k.dst,.int .i64 k.too] 37)).alloc (.cells #[.int .i64 0,.int .i64 0,.int .i64 0,.int .i64 0,.int .i64 0,.int .i64 0,.int .i64 0,.int .i64 0,.int .i64 0,.int .i64 0,.int .i64 0,.int .i64 0,.bool false,.bool false,.int .i64 0] 45)=W1:=⟨_,rfl⟩
 rw [hW1] at h1
 have hc:=thas_any b m t k W1 h1.tb hk
 rw [hh] at hc
 have hl:=look_get h.oks hk m
 obtain ⟨g,hg⟩:∃ g,getK t.fs k=g:=⟨_,rfl⟩
 rw [hg] at hl ⊢
 have cF:=hidE (fun W=>first_any k W)
 obtain ⟨f,hf⟩:∃ f,firstK k=f:=⟨_,rfl⟩
 rw [hf] at hl cF
 obtain ⟨fs,hfs⟩:∃ fs,t.fs=fs:=⟨_,rfl⟩
 have HFS:=hidE hfs
 rw [hfs] at hl
 unfold keyV flV at *
 have HLK:=hidE hl
 clear h hk hh hl hg hf hfs
 go_enter Tryz.func20,Tryz.ntmps20
 go_upto_region 1 with fail
 try rw [hW1]
 clear hW1
 obtain ⟨k0,k1,k2,k3,k4⟩:=h1.hs.ky.cells
 go_upto_region 3 with (go_at_call 32;go_must (refine hc.mono ?_;rintro e W2 ⟨rfl,b2⟩))
 have h2:=h1.step b2
 have hS:=h2.hs
 rw [HFS.out] at hS
 have HR:=hidE h2.rs
 clear hc b2 h1 h2 k0 k1 k2 k3 k4
 have hc0:=cF.out W2.drew
 have hT:=hs_of2 HLK.out hS
 have hlz:w.heap.size < w.heap.size+1:=by omega
 go_region_held3 (fun X=>(X.cell? ⟨b,2,none⟩=some (.map (some m))∧X.cell? ⟨w.heap.size,0,none⟩=some (.int .i64 k.kind)∧X.cell? ⟨w.heap.size,1,none⟩=some (.int .i64 k.src)∧X.cell? ⟨w.heap.size,2,none⟩=some (.int .i64 k.frm)∧X.cell? ⟨w.heap.size,3,none⟩=some (.int .i64 k.dst)∧X.cell? ⟨w.heap.size,4,none⟩=some (.int .i64 k.too)∧(Instr.lookup 72 (.map (some m)) (.agg #[.int .i64 f.kind,.int .i64 f.src,.int .i64 f.frm,.int .i64 f.dst,.int .i64 f.too]) false).run Tryz.prog X = .ok (.agg #[.int .i64 g.key.kind,.int .i64 g.key.src,.int .i64 g.key.frm,.int .i64 g.key.dst,.int .i64 g.key.too,.int .i64 g.st,.int .i64 g.unt,.int .i64 g.stp,.int .i64 g.h0,.int .i64 g.h1,.int .i64 g.w0,.int .i64 g.w1,.bool g.d0,.bool g.d1,.int .i64 g.num]) X)∧HsS w b m k fs X) (with_reducible first|assumption|exact hs_of2 HLK.out hS|exact hs_of2 HLK.out (HsS.drew (And.right (by assumption)))|exact hs_of2 HLK.out (HsS.drew hS)) (first
  | (go_at_call 37;with_reducible refine hc0.mono ?_;rintro e W3 ⟨rfl,b3⟩;have h3:=hs_late hS b3;have H3:=hidE h3;have hz3:=fl_late HR.out b3;have HZ3:=hidE hz3;have hT3:=hs_of2 HLK.out h3;have hT4:=hs_of2 HLK.out (HsS.put g h3 hz3 hlz);obtain ⟨y0,y1,y2,y3,y4,y5,y6,y7,y8,y9,y10,y11,y12,y13,y14⟩:=hz3.frees;obtain ⟨d0,d1,d2,d3,d4,d5,d6,d7,d8,d9,d10,d11,d12,d13,d14⟩:=zero_cells hz3;clear hz3 h3))
 obtain ⟨W9,hW9,g9,o9⟩:=HZ3.out.store g
 have HW9:=hidE hW9
 have HG9:=hidE g9
 have HB9:=hidE (o9.below (by omega) H3.out.bel)
 clear hS hT hT3 hT4 hc0 hW9 g9 o9 y0 y1 y2 y3 y4 y5 y6 y7 y8 y9 y10 y11 y12 y13 y14 d0 d1 d2 d3 d4 d5 d6 d7 d8 d9 d10 d11 d12 d13 d14
 go_wp2_with fail
 rw [HW9.out]
 obtain ⟨c0,c1,c2,c3,c4,c5,c6,c7,c8,c9,c10,c11,c12,c13,c14⟩:=HG9.out.cells
 exact bodyPost_ret (v:=.tuple #[.agg #[.int .i64 g.key.kind,.int .i64 g.key.src,.int .i64 g.key.frm,.int .i64 g.key.dst,.int .i64 g.key.too,.int .i64 g.st,.int .i64 g.unt,.int .i64 g.stp,.int .i64 g.h0,.int .i64 g.h1,.int .i64 g.w0,.int .i64 g.w1,.bool g.d0,.bool g.d1,.int .i64 g.num],.nilIface]) (by simp [results,Tryz.results20,go_sem,c0,c1,c2,c3,c4,c5,c6,c7,c8,c9,c10,c11,c12,c13,c14]) rfl ⟨rfl,HB9.out⟩
end Go.Proofs.YtkhheooofcpfdaaGreatDoor
namespace Go.Proofs.YtkhheooofcpfdaaGreatDoor
open Go.RowKit Go.Maps
set_option linter.unusedVariables false
set_option maxRecDepth 100000 in
set_option maxHeartbeats 32000000 in
theorem to_time (b m:Nat) (t:Tb) (k:Ky) (s:Sg) (a:Option Addr) (l c:Nat) (now:Int) (w:World) (h:TbAt w b m t) (ok:TbOk t) (hk:KyOk k) (hb:Bytes w (.slice a l c) s.body) (hL:Lives w) (z:Int) (hz:timE t now=z) (h0:¬ z=0) :
  Calls Tryz.prog 11 #[.pointer (some ⟨b,0,none⟩),keyV k,segV s (.slice a l c),.int .i64 now] w fun e w'=>e = .returned (.tuple #[flV zeroF,.iface 71 (.int .i64 z)])∧Below w.heap.size w w':=by
 rw [show flV zeroF = .agg #[.int .i64 0,.int .i64 0,.int .i64 0,.int .i64 0,.int .i64 0,.int .i64 0,.int .i64 0,.int .i64 0,.int .i64 0,.int .i64 0,.int .i64 0,.int .i64 0,.bool false,.bool false,.int .i64 0] from rfl]
 have h1:=BgS.start w b m t k s (.slice a l c) h
 obtain ⟨W1,hW1⟩:∃ W1,((w.alloc (.cells #[.int .i64 k.kind,.int .i64 k.src,.int .i64 k.frm,.int .i64 k.dst,.int .i64 k.too] 37)).alloc (.cells #[.int .i64 s.frm,.int .i64 s.too,.int .i64 s.seq,.int .i64 s.ack,.int .i64 s.win,.int .i64 s.flg,.slice a l c] 41)).alloc (.cells #[.int .i64 0,.int .i64 0,.int .i64 0,.int .i64 0,.int .i64 0,.int .i64 0,.int .i64 0,.int .i64 0,.int .i64 0,.int .i64 0,.int .i64 0,.int .i64 0,.bool false,.bool false,.int .i64 0] 45)=W1:=⟨_,rfl⟩
 rw [hW1] at h1
 have HT:=hidE h
 have HL:=hidE (fun W (hb:Below w.heap.size w W)=>hL.below hb)
 have HB:=hidE (fun W (hB:Below w.heap.size w W)=>hb.below (Nat.le_refl _) hB)
 have hc:=at_bad b m t now z W1 h1.tb hz h0
 clear hz h0
 clear hL hb
 unfold keyV segV
 go_enter Tryz.func11,Tryz.ntmps11
 go_upto_region 1 with fail
 try rw [hW1]
 clear hW1
 go_upto_region 3 with (go_at_call 30;go_must (refine hc.mono ?_;rintro e W2 ⟨rfl,b2⟩))
 have h2:=(h1.step b2).alloc (.cells #[.int .i64 0,.int .i64 0,.map none] 76)
 obtain ⟨W3,hW3⟩:∃ W3,W2.alloc (.cells #[.int .i64 0,.int .i64 0,.map none] 76)=W3:=⟨_,rfl⟩
 rw [hW3] at h2 ⊢
 clear hW3 h1 b2 hc
 obtain ⟨y0,y1,y2,y3,y4,y5,y6,y7,y8,y9,y10,y11,y12,y13,y14⟩:=h2.rs.frees
 obtain ⟨d0,d1,d2,d3,d4,d5,d6,d7,d8,d9,d10,d11,d12,d13,d14⟩:=zero_cells h2.rs
 obtain ⟨W9,hW9,g9,b9⟩:=h2.wipe
 have HW9:=hidE hW9
 have HG9:=hidE g9
 have HB9:=hidE b9
 clear hW9 g9 b9
 go_wp2_with fail
 rw [HW9.out]
 clear y0 y1 y2 y3 y4 y5 y6 y7 y8 y9 y10 y11 y12 y13 y14 d0 d1 d2 d3 d4 d5 d6 d7 d8 d9 d10 d11 d12 d13 d14
 obtain ⟨c0,c1,c2,c3,c4,c5,c6,c7,c8,c9,c10,c11,c12,c13,c14⟩:=zero_cells HG9.out
 exact bodyPost_ret (v:=.tuple #[.agg #[.int .i64 0,.int .i64 0,.int .i64 0,.int .i64 0,.int .i64 0,.int .i64 0,.int .i64 0,.int .i64 0,.int .i64 0,.int .i64 0,.int .i64 0,.int .i64 0,.bool false,.bool false,.int .i64 0],.iface 71 (.int .i64 z)]) (by simp [results,Tryz.results11,go_sem,c0,c1,c2,c3,c4,c5,c6,c7,c8,c9,c10,c11,c12,c13,c14]) rfl ⟨rfl,HB9.out⟩
set_option maxRecDepth 100000 in
set_option maxHeartbeats 32000000 in
theorem to_none (b m:Nat) (t:Tb) (k:Ky) (s:Sg) (a:Option Addr) (l c:Nat) (now:Int) (w:World) (h:TbAt w b m t) (ok:TbOk t) (hk:KyOk k) (hb:Bytes w (.slice a l c) s.body) (hL:Lives w) (hz:timE t now=0) (hhs:hasK (leftL now t.fs) k=false) :
  Calls Tryz.prog 11 #[.pointer (some ⟨b,0,none⟩),keyV k,segV s (.slice a l c),.int .i64 now] w fun e w'=>e = .returned (.tuple #[flV zeroF,.iface 71 (.int .i64 5)])∧Below w.heap.size w w':=by
 rw [show flV zeroF = .agg #[.int .i64 0,.int .i64 0,.int .i64 0,.int .i64 0,.int .i64 0,.int .i64 0,.int .i64 0,.int .i64 0,.int .i64 0,.int .i64 0,.int .i64 0,.int .i64 0,.bool false,.bool false,.int .i64 0] from rfl]
 have h1:=BgS.start w b m t k s (.slice a l c) h
 obtain ⟨W1,hW1⟩:∃ W1,((w.alloc (.cells #[.int .i64 k.kind,.int .i64 k.src,.int .i64 k.frm,.int .i64 k.dst,.int .i64 k.too] 37)).alloc (.cells #[.int .i64 s.frm,.int .i64 s.too,.int .i64 s.seq,.int .i64 s.ack,.int .i64 s.win,.int .i64 s.flg,.slice a l c] 41)).alloc (.cells #[.int .i64 0,.int .i64 0,.int .i64 0,.int .i64 0,.int .i64 0,.int .i64 0,.int .i64 0,.int .i64 0,.int .i64 0,.int .i64 0,.int .i64 0,.int .i64 0,.bool false,.bool false,.int .i64 0] 45)=W1:=⟨_,rfl⟩
 rw [hW1] at h1
 have HT:=hidE h
 have HL:=hidE (fun W (hb:Below w.heap.size w W)=>hL.below hb)
 have HB:=hidE (fun W (hB:Below w.heap.size w W)=>hb.below (Nat.le_refl _) hB)
 have hc:=at_ok b m t now W1 h1.tb hz ok.ap (by have:=ok.le;have:=ok.mx;omega)
 have HHS:=hidE hhs
 clear hz hhs
 clear hL hb
 unfold keyV segV
 go_enter Tryz.func11,Tryz.ntmps11
 go_upto_region 1 with fail
 try rw [hW1]
 clear hW1
 go_upto_region 4 with (go_at_call 30;go_must (refine hc.mono ?_;rintro e W2 ⟨m',v,ks,rfl,hm2,hlm,hown2,hpm2,b2⟩))
 have h2:=BgT.of (h1.step b2) hm2 (Nat.le_trans h1.bel.size hlm)
 obtain ⟨W3,hW3⟩:∃ W3,W2.alloc (.cells #[.int .i64 t.max,.int .i64 now,.map (some m')] 76)=W3:=⟨_,rfl⟩
 obtain ⟨X,hX⟩:∃ X,W2.heap.size=X:=⟨_,rfl⟩
 rw [hW3] at h2 ⊢
 rw [hX] at h2 ⊢
 clear hW3 hX h1 b2 hc hm2 hlm hown2 hpm2
 obtain ⟨t',ht'⟩:∃ t',({ max:=t.max,now:=now,fs:=leftL now t.fs }:Tb)=t':=⟨_,rfl⟩
 rw [ht'] at h2
 have HT':=hidE ht'
 clear ht'
 obtain ⟨k0,k1,k2,k3,k4⟩:=h2.st.ky.cells
 have HHB:Hid (hasK t'.fs k=false):=by rw [← HT'.out];exact HHS.out
 have hg:=get_no X m' t' k W3 h2.tb hk HHB.out
 unfold keyV at hg
 go_upto_region 6 with (go_at_call 20;go_must (refine hg.mono ?_;rintro e W4 ⟨rfl,b4⟩))
 have h4:=(h2.step b4).alloc (.cells #[.int .i64 0,.int .i64 0,.int .i64 0,.int .i64 0,.int .i64 0,.int .i64 0,.int .i64 0,.int .i64 0,.int .i64 0,.int .i64 0,.int .i64 0,.int .i64 0,.bool false,.bool false,.int .i64 0] 45)
 obtain ⟨W5,hW5⟩:∃ X9,W4.alloc (.cells #[.int .i64 0,.int .i64 0,.int .i64 0,.int .i64 0,.int .i64 0,.int .i64 0,.int .i64 0,.int .i64 0,.int .i64 0,.int .i64 0,.int .i64 0,.int .i64 0,.bool false,.bool false,.int .i64 0] 45)=X9:=⟨_,rfl⟩
 rw [hW5] at h4 ⊢
 clear hW5 hg b4 h2 k0 k1 k2 k3 k4
 obtain ⟨y0,y1,y2,y3,y4,y5,y6,y7,y8,y9,y10,y11,y12,y13,y14⟩:=h4.st.rs.frees
 obtain ⟨d0,d1,d2,d3,d4,d5,d6,d7,d8,d9,d10,d11,d12,d13,d14⟩:=zero_cells h4.st.rs
 obtain ⟨W9,hW9,g9,b9⟩:=h4.st.wipe
 have HW9:=hidE hW9
 have HG9:=hidE g9
 have HB9:=hidE b9
 clear hW9 g9 b9
 go_wp2_with fail
 rw [HW9.out]
 clear y0 y1 y2 y3 y4 y5 y6 y7 y8 y9 y10 y11 y12 y13 y14 d0 d1 d2 d3 d4 d5 d6 d7 d8 d9 d10 d11 d12 d13 d14
 obtain ⟨c0,c1,c2,c3,c4,c5,c6,c7,c8,c9,c10,c11,c12,c13,c14⟩:=zero_cells HG9.out
 exact bodyPost_ret (v:=.tuple #[.agg #[.int .i64 0,.int .i64 0,.int .i64 0,.int .i64 0,.int .i64 0,.int .i64 0,.int .i64 0,.int .i64 0,.int .i64 0,.int .i64 0,.int .i64 0,.int .i64 0,.bool false,.bool false,.int .i64 0],.iface 71 (.int .i64 5)]) (by simp [results,Tryz.results11,go_sem,c0,c1,c2,c3,c4,c5,c6,c7,c8,c9,c10,c11,c12,c13,c14]) rfl ⟨rfl,HB9.out⟩
end Go.Proofs.YtkhheooofcpfdaaGreatDoor
namespace Go.Proofs.YtkhheooofcpfdaaGreatDoor
open Go.RowKit Go.Maps
set_option linter.unusedVariables false
def dropK (fs:List Fl) (k:Ky):List Fl:=fs.filter fun g=>!decide (firstK g.key=firstK k)
theorem fls_drop {fs:List Fl} {k:Ky} (hk:KyOk k) (hs:∀ g ∈ fs,KyOk g.key):(flsL fs).filter (fun x=>!x.1.sameKey (litK (firstK k)))=flsL (dropK fs k):=by
 unfold dropK flsL
 rw [List.filter_map]
 have e:fs.filter ((fun x:Lit × Value=>!x.1.sameKey (litK (firstK k))) ∘ fun f=>(litK (firstK f.key),flV f))=fs.filter (fun g=>!decide (firstK g.key=firstK k)):=List.filter_congr (fun g hg=>by
  simp only [Function.comp]
  rw [same_lit (hs g hg).first hk.first])
 rw [e]
theorem hs_cells {w:World} {b m:Nat} {k:Ky} {fs:List Fl} {X:World} (h:HsS w b m k fs X):X.cell? ⟨b,2,none⟩=some (.map (some m))∧X.cell? ⟨w.heap.size,0,none⟩=some (.int .i64 k.kind)∧X.cell? ⟨w.heap.size,1,none⟩=some (.int .i64 k.src)∧X.cell? ⟨w.heap.size,2,none⟩=some (.int .i64 k.frm)∧X.cell? ⟨w.heap.size,3,none⟩=some (.int .i64 k.dst)∧X.cell? ⟨w.heap.size,4,none⟩=some (.int .i64 k.too):=⟨h.tab,h.ky.cells.1,h.ky.cells.2.1,h.ky.cells.2.2.1,h.ky.cells.2.2.2.1,h.ky.cells.2.2.2.2⟩
set_option maxRecDepth 100000 in
set_option maxHeartbeats 16000000 in
theorem drop_any (b m:Nat) (t:Tb) (k:Ky) (w:World) (h:TbAt w b m t) (hk:KyOk k) :
  Calls Tryz.prog 14 #[.pointer (some ⟨b,0,none⟩),keyV k] w fun e w'=>e = .returned (.bool (hasK t.fs k))∧TbAt w' b m { t with fs:=dropK t.fs k }∧w.grownBy w' (some m):=by
 have h1:=h.alloc (.cells #[.int .i64 k.kind,.int .i64 k.src,.int .i64 k.frm,.int .i64 k.dst,.int .i64 k.too] 37)
 have b1:Below w.heap.size w (w.alloc (.cells #[.int .i64 k.kind,.int .i64 k.src,.int .i64 k.frm,.int .i64 k.dst,.int .i64 k.too] 37)):=(Below.refl _ _).alloc (Nat.le_refl _) _
 have hS1:HsS w b m k t.fs (w.alloc (.cells #[.int .i64 k.kind,.int .i64 k.src,.int .i64 k.frm,.int .i64 k.dst,.int .i64 k.too] 37)):=⟨(tab_cells h1.tab).2.2,KyAt.new w k,h1.map,h.lt,h.map.lt,b1⟩
 obtain ⟨W1,hW1⟩:∃ W1,w.alloc (.cells #[.int .i64 k.kind,.int .i64 k.src,.int .i64 k.frm,.int .i64 k.dst,.int .i64 k.too] 37)=W1:=⟨_,rfl⟩
 rw [hW1] at h1 hS1 b1
 have hc:=thas_any b m t k W1 h1 hk
 have hfin:Hid (∀ W,HsS w b m k t.fs W→Below W1.heap.size W1 W→∃ W',(Builtin.delete_ #[72,37] 0 #[.map (some m),keyV (firstK k)]).run Tryz.prog W = .ok (.tuple #[]) W'∧TbAt W' b m { t with fs:=dropK t.fs k }∧w.grownBy W' (some m)∧W'.cell? ⟨b,2,none⟩=some (.map (some m))∧W'.cell? ⟨w.heap.size,0,none⟩=some (.int .i64 k.kind)∧W'.cell? ⟨w.heap.size,1,none⟩=some (.int .i64 k.src)∧W'.cell? ⟨w.heap.size,2,none⟩=some (.int .i64 k.frm)∧W'.cell? ⟨w.heap.size,3,none⟩=some (.int .i64 k.dst)∧W'.cell? ⟨w.heap.size,4,none⟩=some (.int .i64 k.too)):=fun W hW hB=>by
  have h2:=h1.below hB
  obtain ⟨W',hr,hm,hg⟩:=h2.map.drop lawK Tryz.underlying72 (keyK hk.first) 0
  rw [fls_drop hk h.oks] at hm
  have hbm:b≠m:=h.ne
  have hb2:=b1.trans (hB.mono b1.size)
  have ht2:TbAt W' b m { t with fs:=dropK t.fs k }:=⟨(hg.block b h2.lt (by simpa using hbm)).trans h2.tab,hm,fun g hg'=>h.oks g (List.mem_filter.1 hg').1⟩
  have hk2:KyAt W' w.heap.size k:=by
   unfold KyAt
   rw [hg.block _ hW.ky.lt (by have:=h.map.lt;simp;omega)];exact hW.ky
  refine ⟨W',hr,ht2,⟨hg.os.trans hb2.os,hg.tape.trans hb2.tape,hg.output.trans hb2.output,Nat.le_trans hb2.size hg.size,fun i hi hne=>(hg.block i (by have:=hb2.size;omega) hne).trans (hb2.block i hi)⟩,(tab_cells ht2.tab).2.2,hk2.cells⟩
 generalize hasK t.fs k=hb at hc ⊢
 have cF:=hidE (fun W=>first_any k W)
 obtain ⟨f,hf⟩:∃ f,firstK k=f:=⟨_,rfl⟩
 rw [hf] at hfin cF
 obtain ⟨Q,hQ⟩:∃ Q:Ending→World→Prop,Q=fun e w'=>e = .returned (.bool hb)∧TbAt w' b m { t with fs:=dropK t.fs k }∧w.grownBy w' (some m):=⟨_,rfl⟩
 have HQ:Hid (∀ w',TbAt w' b m { t with fs:=dropK t.fs k }∧w.grownBy w' (some m)→Q (.returned (.bool hb)) w'):=by rw [hQ];exact fun _ h=>⟨rfl,h⟩
 rw [← hQ]
 unfold keyV at *
 have HS1:=hidE hS1
 clear h h1 hk hf hQ
 go_enter Tryz.func14,Tryz.ntmps14
 go_upto_region 1 with fail
 try rw [hW1]
 clear hW1
 obtain ⟨k0,k1,k2,k3,k4⟩:=hS1.ky.cells
 go_upto_region 2 with (go_at_call 32;go_must (refine hc.mono ?_;rintro e W2 ⟨rfl,b2⟩))
 have hS2:=hs_cells (hS1.step b2)
 have HB2:=hidE b2
 have hc0:=cF.out W2.drew
 clear hc b2 hS1 k0 k1 k2 k3 k4
 go_region_held3 (fun X=>X.cell? ⟨b,2,none⟩=some (.map (some m))∧X.cell? ⟨w.heap.size,0,none⟩=some (.int .i64 k.kind)∧X.cell? ⟨w.heap.size,1,none⟩=some (.int .i64 k.src)∧X.cell? ⟨w.heap.size,2,none⟩=some (.int .i64 k.frm)∧X.cell? ⟨w.heap.size,3,none⟩=some (.int .i64 k.dst)∧X.cell? ⟨w.heap.size,4,none⟩=some (.int .i64 k.too)) (with_reducible first|assumption|go_keep) (first
  | (go_at_call 37;with_reducible refine hc0.mono ?_;rintro e W3 ⟨rfl,b3⟩;have hB3:=HB2.out.trans ((bel_dr b3).mono HB2.out.size);have h3:=HS1.out.step hB3;obtain ⟨W4,hr4,ht4,hg4,hS4⟩:=hfin.out W3 h3 hB3;have hS3:=hs_cells h3;have HK:=hidE (HQ.out _ (And.intro ht4 hg4));clear hB3 ht4 hg4 h3))
 clear hS2 hS3 hS4 hc0 hr4
 go_wp2_with fail
 exact HK.out
end Go.Proofs.YtkhheooofcpfdaaGreatDoor
namespace Go.Proofs.YtkhheooofcpfdaaGreatDoor
open Go.RowKit Go.Maps
set_option linter.unusedVariables false
def ofG (t:Tb) (k:Ky) (s:Sg) (now:Int):Fl:=stpF (getK (leftL now t.fs) k) s (sdK (getK (leftL now t.fs) k) k s) now
def ofE (t:Tb) (k:Ky) (s:Sg) (now:Int):Int :=
 if ¬ timE t now=0 then timE t now else if hasK (leftL now t.fs) k=false then 5 else stpE (getK (leftL now t.fs) k) s (sdK (getK (leftL now t.fs) k) k s) now
def ofF (t:Tb) (k:Ky) (s:Sg) (now:Int):Fl:=if ofE t k s now=0 then ofG t k s now else zeroF
end Go.Proofs.YtkhheooofcpfdaaGreatDoor
