/- A region that draws its order, whose operations only read and whose callees only make memory: one walk of the lexical order serves every order, in the class of worlds that extend the one at hand. -/
import Derived.Test.YtkhheooofcpfdaaGreatDoorMgB
import Derived.Deep.QuietTactic
import Derived.BigQuiet
import Derived.Test.YtkhheooofcpfdaaGreatDoorTrkChk
import Derived.Deep.RegionHeld3
namespace Go.Proofs.YtkhheooofcpfdaaGreatDoor
open Go.RowKit
set_option linter.unusedVariables false
structure Ext (w:World) where
 W:World
 h:Below w.heap.size w W
instance (w:World):Nonempty (Ext w):=⟨⟨w,Below.refl _ _⟩⟩
theorem wp_region_ext {P:Program} {id:Nat} {Q:Exit→Act→World→Prop} {a:Act} {w:World} {l:List Oper} (hm:P.follows .mixedOrders=true) (hB:Region.lexB .any l.toArray=true)
  (h:wpQuiet P l.toArray (fun W=>∃ u:Ext w,W=u.W) (fun a'=>∀ w',(∃ u:Ext w,w'=u.W)→Q .normal a' w') l a):(Code.region id l.toArray true).wp P Q a w :=
 wp_region_quiet (C:=fun W=>∃ u:Ext w,W=u.W) hm hB ⟨⟨{ w with drawn:=w.drawn+1 },⟨rfl,rfl,rfl,Nat.le_refl _,fun _ _=>rfl⟩⟩,rfl⟩ (by simpa using h)
theorem Ext.cell {w:World} {b o:Nat} {v:Value} (h:w.cell? ⟨b,o,none⟩=some v):∀ u:Ext w,u.W.cell? ⟨b,o,none⟩=some v:=fun u=>by
 have hlt:b < w.heap.size:=by
  rcases Nat.lt_or_ge b w.heap.size with h1|h1
  ·exact h1
  ·simp [World.cell?,Array.getElem?_eq_none h1] at h
 rw [u.h.cell (p:=⟨b,o,none⟩) hlt];exact h
theorem Ext.call {P:Program} {f:FuncId} {args:Array Value} {v:Value} {w:World} (h:∀ W,Calls P f args W fun e w'=>e = .returned v∧Below W.heap.size W w') (u:Ext w):Calls P f args u.W fun e w'=>e = .returned v∧∃ u':Ext w,w'=u'.W:=by
 refine (h u.W).mono ?_
 rintro e w' ⟨rfl,hb⟩
 exact ⟨rfl,⟨w',u.h.trans (hb.mono u.h.size)⟩,rfl⟩
end Go.Proofs.YtkhheooofcpfdaaGreatDoor
namespace Go.Proofs.YtkhheooofcpfdaaGreatDoor
open Go.RowKit
set_option linter.unusedVariables false
set_option maxHeartbeats 4000000 in
theorem ofKey_any (k:Ky) (s:Sg) (bv:Value) (side:Int) (w:World) :
  Calls Tryz.prog 82 #[keyV k,segV s bv,.int .i64 side] w fun e w'=>e = .returned (.bool (ofB k s side))∧Below w.heap.size w w':=by
 have b1:Below w.heap.size w ((w.alloc (.cells #[.int .i64 k.kind,.int .i64 k.src,.int .i64 k.frm,.int .i64 k.dst,.int .i64 k.too] 37)).alloc (.cells #[.int .i64 s.frm,.int .i64 s.too,.int .i64 s.seq,.int .i64 s.ack,.int .i64 s.win,.int .i64 s.flg,bv] 41)):=((Below.refl _ _).alloc (Nat.le_refl _) _).alloc (by simp) _
 have B1:=hidE b1
 obtain ⟨r,HR⟩:∃ r,Hid (r=ofB k s side):=⟨_,rfl⟩
 rw [← HR.out]
 unfold keyV segV
 unfold ofB at HR
 clear b1
 by_cases hk:k.kind=3
 ·have HR:Hid (r=decide (s.frm=side∧s.too=k.frm∧s.too=k.too)):=by show r=_;rw [HR.out,if_pos hk]
  have e0:(k.kind == 3)=true:=by simpa using hk
  clear hk
  by_cases h1:s.frm=side
  ·have e1:(s.frm == side)=true:=by simpa using h1
   by_cases h2:s.too=k.frm
   ·have e2:(s.too == k.frm)=true:=by simpa using h2
    by_cases h3:s.too=k.too
    ·have e3:(s.too == k.too)=true:=by simpa using h3
     obtain rfl:r=true:=by rw [HR.out];exact decide_eq_true ⟨h1,h2,h3⟩
     clear h1 h2 h3 HR
     go_enter Tryz.func82,Tryz.ntmps82
     go_wp2
     go_ret
     exact ⟨rfl,B1.out⟩
    ·have e3:(s.too == k.too)=false:=by simpa using h3
     obtain rfl:r=false:=by rw [HR.out];exact decide_eq_false fun h=>h3 h.2.2
     clear h1 h2 h3 HR
     go_enter Tryz.func82,Tryz.ntmps82
     go_wp2
     go_ret
     exact ⟨rfl,B1.out⟩
   ·have e2:(s.too == k.frm)=false:=by simpa using h2
    obtain rfl:r=false:=by rw [HR.out];exact decide_eq_false fun h=>h2 h.2.1
    clear h1 h2 HR
    go_enter Tryz.func82,Tryz.ntmps82
    go_wp2
    go_ret
    exact ⟨rfl,B1.out⟩
  ·have e1:(s.frm == side)=false:=by simpa using h1
   obtain rfl:r=false:=by rw [HR.out];exact decide_eq_false fun h=>h1 h.1
   clear h1 HR
   go_enter Tryz.func82,Tryz.ntmps82
   go_wp2
   go_ret
   exact ⟨rfl,B1.out⟩
 ·have HR:Hid (r=decide (s.frm=k.frm∧s.too=k.too)):=by show r=_;rw [HR.out,if_neg hk]
  have e0:(k.kind == 3)=false:=by simpa using hk
  clear hk
  by_cases h2:s.frm=k.frm
  ·have e2:(s.frm == k.frm)=true:=by simpa using h2
   by_cases h3:s.too=k.too
   ·have e3:(s.too == k.too)=true:=by simpa using h3
    obtain rfl:r=true:=by rw [HR.out];exact decide_eq_true ⟨h2,h3⟩
    clear h2 h3 HR
    go_enter Tryz.func82,Tryz.ntmps82
    go_wp2
    go_ret
    exact ⟨rfl,B1.out⟩
   ·have e3:(s.too == k.too)=false:=by simpa using h3
    obtain rfl:r=false:=by rw [HR.out];exact decide_eq_false fun h=>h3 h.2
    clear h2 h3 HR
    go_enter Tryz.func82,Tryz.ntmps82
    go_wp2
    go_ret
    exact ⟨rfl,B1.out⟩
  ·have e2:(s.frm == k.frm)=false:=by simpa using h2
   obtain rfl:r=false:=by rw [HR.out];exact decide_eq_false fun h=>h2 h.1
   clear h2 HR
   go_enter Tryz.func82,Tryz.ntmps82
   go_wp2
   go_ret
   exact ⟨rfl,B1.out⟩
structure Ks2 (w:World) (k:Ky) (s:Sg) (bv:Value) (W:World):Prop where
 ky:KyAt W w.heap.size k
 sg:SgAt W (w.heap.size+1) s bv
 bel:Below w.heap.size w W
theorem Ks2.start (w:World) (k:Ky) (s:Sg) (bv:Value):Ks2 w k s bv ((w.alloc (.cells #[.int .i64 k.kind,.int .i64 k.src,.int .i64 k.frm,.int .i64 k.dst,.int .i64 k.too] 37)).alloc (.cells #[.int .i64 s.frm,.int .i64 s.too,.int .i64 s.seq,.int .i64 s.ack,.int .i64 s.win,.int .i64 s.flg,bv] 41)):=by
 have h1:=KyAt.new w k
 have s1:(w.alloc (.cells #[.int .i64 k.kind,.int .i64 k.src,.int .i64 k.frm,.int .i64 k.dst,.int .i64 k.too] 37)).heap.size=w.heap.size+1:=by simp
 have b1:Below w.heap.size w (w.alloc (.cells #[.int .i64 k.kind,.int .i64 k.src,.int .i64 k.frm,.int .i64 k.dst,.int .i64 k.too] 37)):=(Below.refl _ _).alloc (Nat.le_refl _) _
 generalize w.alloc (.cells #[.int .i64 k.kind,.int .i64 k.src,.int .i64 k.frm,.int .i64 k.dst,.int .i64 k.too] 37)=w1 at h1 s1 b1 ⊢
 have h2:=SgAt.new w1 s bv
 rw [s1] at h2
 exact ⟨h1.alloc _,h2,b1.alloc b1.size _⟩
theorem Ks2.step {w W W':World} {k:Ky} {s:Sg} {bv:Value} (h:Ks2 w k s bv W) (hb:Below W.heap.size W W'):Ks2 w k s bv W' :=
 ⟨h.ky.below h.ky.lt hb,h.sg.below h.sg.lt hb,h.bel.trans (hb.mono h.bel.size)⟩
set_option maxHeartbeats 8000000 in
theorem checkSaid_any (k:Ky) (s:Sg) (bv:Value) (side now:Int) (w:World) (hb:Bytes w bv s.body) :
  Calls Tryz.prog 57 #[keyV k,segV s bv,.int .i64 side,.int .i64 now] w fun e w'=>e = .returned (errV (sdE k s side now))∧Below w.heap.size w w':=by
 obtain ⟨a,c,hbv⟩:=len_body hb
 obtain ⟨l,hl⟩:∃ l,s.body.length=l:=⟨_,rfl⟩
 rw [hl] at hbv
 subst hbv
 have h1:=Ks2.start w k s (.slice a l c)
 have HB:=hidE hb
 obtain ⟨W1,hW1⟩:∃ W1,(w.alloc (.cells #[.int .i64 k.kind,.int .i64 k.src,.int .i64 k.frm,.int .i64 k.dst,.int .i64 k.too] 37)).alloc (.cells #[.int .i64 s.frm,.int .i64 s.too,.int .i64 s.seq,.int .i64 s.ack,.int .i64 s.win,.int .i64 s.flg,.slice a l c] 41)=W1:=⟨_,rfl⟩
 rw [hW1] at h1
 obtain ⟨r,HR⟩:∃ r,Hid (r=errV (sdE k s side now)):=⟨_,rfl⟩
 rw [← HR.out]
 have cw:=fun W=>within_any now 0 1000000 W
 have he:=fun W (hb:Below w.heap.size w W)=>sgEncode_any k.kind s k.src k.dst (.slice a l c) W (HB.out.below (Nat.le_refl _) hb)
 have ho:=fun W=>ofKey_any k s (.slice a l c) side W
 unfold sdE at HR
 generalize inR now 0 1000000=x1 at cw HR
 obtain ⟨z,hz⟩:∃ z,sgErr k.kind s k.src k.dst=z:=⟨_,rfl⟩
 rw [hz] at HR
 have HZ:=hidE hz
 generalize ofB k s side=x3 at ho HR
 have HE:=hidE he
 unfold keyV segV at *
 clear hb hl hz he
 go_enter Tryz.func57,Tryz.ntmps57
 go_upto_region 1 with fail
 try rw [hW1]
 clear hW1
 rcases x1 with _|_
 ·obtain rfl:r = .iface 71 (.int .i64 1):=by rw [HR.out,if_pos rfl];rfl
  clear HR
  go_wp2_with (go_at_call 56;refine (cw _).mono ?_;rintro e w' ⟨rfl,rfl⟩)
  go_ret
  exact ⟨rfl,h1.bel⟩
 have HR:Hid (r=errV (if ¬ z=0 then z else if x3=false then 3 else 0)):=by show r=_;rw [HR.out,if_neg (by decide)]
 go_upto_region 3 with (go_at_call 56;refine (cw _).mono ?_;rintro e w' ⟨rfl,hw'⟩;rw [hw'];clear hw' w')
 obtain ⟨k0,k1,k2,k3,k4⟩:=h1.ky.cells
 obtain ⟨s0,s1,s2,s3,s4,s5,s6⟩:=h1.sg.cells
 have he:=HE.out W1 h1.bel
 rw [HZ.out] at he
 go_upto_region 4 with (go_at_call 81;refine he.mono ?_;rintro e w2 ⟨v2,rfl,own2,b2⟩)
 have h2:=h1.step b2
 clear h1 b2 own2 he k0 k1 k2 k3 k4 s0 s1 s2 s3 s4 s5 s6 cw
 by_cases z0:z=0
 ·subst z0
  rw [show errV 0 = .nilIface from rfl] at *
  have HR:Hid (r=errV (if x3=false then 3 else 0)):=by show r=_;rw [HR.out,if_neg (by decide)]
  obtain ⟨k0,k1,k2,k3,k4⟩:=h2.ky.cells
  obtain ⟨s0,s1,s2,s3,s4,s5,s6⟩:=h2.sg.cells
  rcases x3 with _|_
  ·obtain rfl:r = .iface 71 (.int .i64 3):=by rw [HR.out,if_pos rfl];rfl
   clear HR
   go_wp2_with (go_at_call 82;refine (ho _).mono ?_;rintro e w3 ⟨rfl,b3⟩)
   go_ret
   exact ⟨rfl,(h2.step b3).bel⟩
  ·obtain rfl:r = .nilIface:=by rw [HR.out,if_neg (by decide)];rfl
   clear HR
   go_wp2_with (go_at_call 82;refine (ho _).mono ?_;rintro e w3 ⟨rfl,b3⟩)
   go_ret
   exact ⟨rfl,(h2.step b3).bel⟩
 ·have HR2:=hidE (show r = .iface 71 (.int .i64 z) by rw [HR.out,if_pos z0,errV_no z0])
  rw [errV_no z0]
  clear HR z0
  go_wp2_with fail
  go_ret
  exact ⟨by rw [HR2.out];rfl,h2.bel⟩
set_option maxRecDepth 100000 in
set_option maxHeartbeats 8000000 in
theorem changed_any (f:Fl) (now:Int) (w:World) (hL:Lives w) (hs0:0≤f.stp) (hs1:f.stp≤1000000) (hn0:0≤now) (hn1:now≤1000000) :
  Calls Tryz.prog 59 #[flV f,.int .i64 now] w fun e w'=>e = .returned (flV (chgF f now))∧Below w.heap.size w w':=by
 have b1:Below w.heap.size w (w.alloc (.cells #[.int .i64 f.key.kind,.int .i64 f.key.src,.int .i64 f.key.frm,.int .i64 f.key.dst,.int .i64 f.key.too,.int .i64 f.st,.int .i64 f.unt,.int .i64 f.stp,.int .i64 f.h0,.int .i64 f.h1,.int .i64 f.w0,.int .i64 f.w1,.bool f.d0,.bool f.d1,.int .i64 f.num] 45)):=(Below.refl _ _).alloc (Nat.le_refl _) _
 have p1:=FlAt.new w f
 have z1:(w.alloc (.cells #[.int .i64 f.key.kind,.int .i64 f.key.src,.int .i64 f.key.frm,.int .i64 f.key.dst,.int .i64 f.key.too,.int .i64 f.st,.int .i64 f.unt,.int .i64 f.stp,.int .i64 f.h0,.int .i64 f.h1,.int .i64 f.w0,.int .i64 f.w1,.bool f.d0,.bool f.d1,.int .i64 f.num] 45)).heap.size=w.heap.size+1:=by simp
 obtain ⟨V1,hV1⟩:∃ V1,w.alloc (.cells #[.int .i64 f.key.kind,.int .i64 f.key.src,.int .i64 f.key.frm,.int .i64 f.key.dst,.int .i64 f.key.too,.int .i64 f.st,.int .i64 f.unt,.int .i64 f.stp,.int .i64 f.h0,.int .i64 f.h1,.int .i64 f.w0,.int .i64 f.w1,.bool f.d0,.bool f.d1,.int .i64 f.num] 45)=V1:=⟨_,rfl⟩
 rw [hV1] at b1 p1 z1
 have g1:=FlAt.zero V1
 rw [z1] at g1
 have p2:=p1.alloc (.cells #[.int .i64 0,.int .i64 0,.int .i64 0,.int .i64 0,.int .i64 0,.int .i64 0,.int .i64 0,.int .i64 0,.int .i64 0,.int .i64 0,.int .i64 0,.int .i64 0,.bool false,.bool false,.int .i64 0] 45)
 have b2:=b1.alloc b1.size (.cells #[.int .i64 0,.int .i64 0,.int .i64 0,.int .i64 0,.int .i64 0,.int .i64 0,.int .i64 0,.int .i64 0,.int .i64 0,.int .i64 0,.int .i64 0,.int .i64 0,.bool false,.bool false,.int .i64 0] 45)
 obtain ⟨W1,hW1⟩:∃ W1,V1.alloc (.cells #[.int .i64 0,.int .i64 0,.int .i64 0,.int .i64 0,.int .i64 0,.int .i64 0,.int .i64 0,.int .i64 0,.int .i64 0,.int .i64 0,.int .i64 0,.int .i64 0,.bool false,.bool false,.int .i64 0] 45)=W1:=⟨_,rfl⟩
 rw [hW1] at g1 p2 b2
 rw [← hV1] at hW1
 clear hV1 p1 b1 z1 V1
 have HL:=hidE hL
 have lr:=lifeI_range f.key.kind f.st
 have hlf:=fun W (h:Lives W)=>life_any f.key.kind f.st W h
 have HC:=hidE (show chgF f now = { f with stp:=f.stp+1,unt:=now+lifeI f.key.kind f.st } from rfl)
 obtain ⟨q,hq⟩:∃ q,chgF f now=q:=⟨_,rfl⟩
 rw [hq] at HC ⊢
 generalize lifeI f.key.kind f.st=lf at lr hlf HC
 obtain ⟨hl0,hl1⟩:=lr
 clear hL hq
 unfold flV
 go_enter Tryz.func59,Tryz.ntmps59
 go_upto_region 1 with fail
 try rw [hW1]
 clear hW1
 obtain ⟨c0,c1,c2,c3,c4,c5,c6,c7,c8,c9,c10,c11,c12,c13,c14⟩:=p2.cells
 have f7:=p2.free 7
 go_upto_region 2 with fail
 obtain ⟨W2,hW2,p3,o3⟩:=p2.store_stp (f.stp+1)
 rw [hW2]
 have g3:=g1.only (by omega) o3
 have b3:=o3.below (Nat.le_refl _) b2
 have L3:=HL.out.below b3
 clear c0 c1 c2 c3 c4 c5 c6 c7 c8 c9 c10 c11 c12 c13 c14 f7 hW2 p2 g1 b2 o3
 obtain ⟨c0,c1,c2,c3,c4,c5,c6,c7,c8,c9,c10,c11,c12,c13,c14⟩:=p3.cells
 have f6:=p3.free 6
 have hlf3:=hlf _ L3
 simp only at c0 c1 c2 c3 c4 c5 c6 c7 c8 c9 c10 c11 c12 c13 c14
 go_upto_region 3 with (go_at_call 84;refine hlf3.mono ?_;rintro e w' ⟨rfl,hw'⟩;rw [hw'];clear hw' w')
 obtain ⟨W4,hW4,p4,o4⟩:=p3.store_unt (now+lf)
 rw [hW4]
 have g4:=g3.only (by omega) o4
 have b4:=o4.below (Nat.le_refl _) b3
 rw [← HC.out] at p4
 clear c0 c1 c2 c3 c4 c5 c6 c7 c8 c9 c10 c11 c12 c13 c14 f6 hW4 p3 g3 b3 o4 hlf hlf3 HL L3
 obtain ⟨c0,c1,c2,c3,c4,c5,c6,c7,c8,c9,c10,c11,c12,c13,c14⟩:=p4.cells
 obtain ⟨f0,f1,f2,f3,f4,f5,f6,f7,f8,f9,f10,f11,f12,f13,f14⟩:=g4.frees
 obtain ⟨d0,d1,d2,d3,d4,d5,d6,d7,d8,d9,d10,d11,d12,d13,d14⟩:=g4.cells
 go_wp2_with fail
 obtain ⟨W5,hW5,g5,o5⟩:=g4.store q
 rw [hW5]
 have b5:=o5.below (by omega) b4
 clear hW5 c0 c1 c2 c3 c4 c5 c6 c7 c8 c9 c10 c11 c12 c13 c14 f0 f1 f2 f3 f4 f5 f6 f7 f8 f9 f10 f11 f12 f13 f14 d0 d1 d2 d3 d4 d5 d6 d7 d8 d9 d10 d11 d12 d13 d14
 obtain ⟨c0,c1,c2,c3,c4,c5,c6,c7,c8,c9,c10,c11,c12,c13,c14⟩:=g5.cells
 exact bodyPost_ret (v:=.agg #[.int .i64 q.key.kind,.int .i64 q.key.src,.int .i64 q.key.frm,.int .i64 q.key.dst,.int .i64 q.key.too,.int .i64 q.st,.int .i64 q.unt,.int .i64 q.stp,.int .i64 q.h0,.int .i64 q.h1,.int .i64 q.w0,.int .i64 q.w1,.bool q.d0,.bool q.d1,.int .i64 q.num]) (by simp [results,Tryz.results59,go_sem,c0,c1,c2,c3,c4,c5,c6,c7,c8,c9,c10,c11,c12,c13,c14]) rfl ⟨rfl,b5⟩
end Go.Proofs.YtkhheooofcpfdaaGreatDoor
namespace Go.Proofs.YtkhheooofcpfdaaGreatDoor
open Go.RowKit
set_option linter.unusedVariables false
structure Fsz (w:World) (f:Fl) (s:Sg) (bv:Value) (g:Fl) (W:World):Prop where
 fl:FlAt W w.heap.size f
 sg:SgAt W (w.heap.size+1) s bv
 rs:FlAt W (w.heap.size+2) g
 bel:Below w.heap.size w W
def fszW (w:World) (f:Fl) (s:Sg) (bv:Value):World:=((w.alloc (.cells #[.int .i64 f.key.kind,.int .i64 f.key.src,.int .i64 f.key.frm,.int .i64 f.key.dst,.int .i64 f.key.too,.int .i64 f.st,.int .i64 f.unt,.int .i64 f.stp,.int .i64 f.h0,.int .i64 f.h1,.int .i64 f.w0,.int .i64 f.w1,.bool f.d0,.bool f.d1,.int .i64 f.num] 45)).alloc (.cells #[.int .i64 s.frm,.int .i64 s.too,.int .i64 s.seq,.int .i64 s.ack,.int .i64 s.win,.int .i64 s.flg,bv] 41)).alloc (.cells #[.int .i64 0,.int .i64 0,.int .i64 0,.int .i64 0,.int .i64 0,.int .i64 0,.int .i64 0,.int .i64 0,.int .i64 0,.int .i64 0,.int .i64 0,.int .i64 0,.bool false,.bool false,.int .i64 0] 45)
theorem Fsz.start (w:World) (f:Fl) (s:Sg) (bv:Value):Fsz w f s bv zeroF (fszW w f s bv):=by
 unfold fszW
 have h1:=FlAt.new w f
 have s1:(w.alloc (.cells #[.int .i64 f.key.kind,.int .i64 f.key.src,.int .i64 f.key.frm,.int .i64 f.key.dst,.int .i64 f.key.too,.int .i64 f.st,.int .i64 f.unt,.int .i64 f.stp,.int .i64 f.h0,.int .i64 f.h1,.int .i64 f.w0,.int .i64 f.w1,.bool f.d0,.bool f.d1,.int .i64 f.num] 45)).heap.size=w.heap.size+1:=by simp
 have b1:Below w.heap.size w (w.alloc (.cells #[.int .i64 f.key.kind,.int .i64 f.key.src,.int .i64 f.key.frm,.int .i64 f.key.dst,.int .i64 f.key.too,.int .i64 f.st,.int .i64 f.unt,.int .i64 f.stp,.int .i64 f.h0,.int .i64 f.h1,.int .i64 f.w0,.int .i64 f.w1,.bool f.d0,.bool f.d1,.int .i64 f.num] 45)):=(Below.refl _ _).alloc (Nat.le_refl _) _
 generalize w.alloc (.cells #[.int .i64 f.key.kind,.int .i64 f.key.src,.int .i64 f.key.frm,.int .i64 f.key.dst,.int .i64 f.key.too,.int .i64 f.st,.int .i64 f.unt,.int .i64 f.stp,.int .i64 f.h0,.int .i64 f.h1,.int .i64 f.w0,.int .i64 f.w1,.bool f.d0,.bool f.d1,.int .i64 f.num] 45)=w1 at h1 s1 b1 ⊢
 have h2:=SgAt.new w1 s bv
 rw [s1] at h2
 have h1':=h1.alloc (.cells #[.int .i64 s.frm,.int .i64 s.too,.int .i64 s.seq,.int .i64 s.ack,.int .i64 s.win,.int .i64 s.flg,bv] 41)
 have b2:=b1.alloc b1.size (.cells #[.int .i64 s.frm,.int .i64 s.too,.int .i64 s.seq,.int .i64 s.ack,.int .i64 s.win,.int .i64 s.flg,bv] 41)
 have s2:(w1.alloc (.cells #[.int .i64 s.frm,.int .i64 s.too,.int .i64 s.seq,.int .i64 s.ack,.int .i64 s.win,.int .i64 s.flg,bv] 41)).heap.size=w.heap.size+2:=by simp [s1]
 generalize w1.alloc (.cells #[.int .i64 s.frm,.int .i64 s.too,.int .i64 s.seq,.int .i64 s.ack,.int .i64 s.win,.int .i64 s.flg,bv] 41)=w2 at h1' s2 b2 h2 ⊢
 have h3:=FlAt.zero w2
 rw [s2] at h3
 exact ⟨h1'.alloc _,h2.alloc _,h3,b2.alloc b2.size _⟩
theorem Fsz.step {w W W':World} {f g:Fl} {s:Sg} {bv:Value} (h:Fsz w f s bv g W) (hb:Below W.heap.size W W'):Fsz w f s bv g W' :=
 ⟨h.fl.below h.fl.lt hb,h.sg.below h.sg.lt hb,h.rs.below h.rs.lt hb,h.bel.trans (hb.mono h.bel.size)⟩
theorem Fsz.drew {w W:World} {f g:Fl} {s:Sg} {bv:Value} (h:Fsz w f s bv g W):Fsz w f s bv g W.drew:=⟨h.fl,h.sg,h.rs,h.bel.drew⟩
theorem Fsz.drewN {w W:World} {f g:Fl} {s:Sg} {bv:Value} (h:Fsz w f s bv g W) (n:Nat):Fsz w f s bv g (W.drewN n):=⟨h.fl.drewN n,h.sg.drewN n,h.rs.drewN n,below_drewN h.bel n⟩
theorem Fsz.put {w W W':World} {f f' g:Fl} {s:Sg} {bv:Value} (h:Fsz w f s bv g W) (hf:FlAt W' w.heap.size f') (ho:Only w.heap.size W W'):Fsz w f' s bv g W' :=
 ⟨hf,h.sg.only (by omega) ho,h.rs.only (by omega) ho,ho.below (Nat.le_refl _) h.bel⟩
theorem Fsz.fin {w W:World} {f g:Fl} {s:Sg} {bv:Value} (h:Fsz w f s bv g W) (q:Fl) :
  ∃ W',(((((((((((((((W.setCell ⟨w.heap.size+2,0,none⟩ (.int .i64 q.key.kind)).setCell ⟨w.heap.size+2,1,none⟩ (.int .i64 q.key.src)).setCell ⟨w.heap.size+2,2,none⟩ (.int .i64 q.key.frm)).setCell ⟨w.heap.size+2,3,none⟩ (.int .i64 q.key.dst)).setCell ⟨w.heap.size+2,4,none⟩ (.int .i64 q.key.too)).setCell ⟨w.heap.size+2,5,none⟩ (.int .i64 q.st)).setCell ⟨w.heap.size+2,6,none⟩ (.int .i64 q.unt)).setCell ⟨w.heap.size+2,7,none⟩ (.int .i64 q.stp)).setCell ⟨w.heap.size+2,8,none⟩ (.int .i64 q.h0)).setCell ⟨w.heap.size+2,9,none⟩ (.int .i64 q.h1)).setCell ⟨w.heap.size+2,10,none⟩ (.int .i64 q.w0)).setCell ⟨w.heap.size+2,11,none⟩ (.int .i64 q.w1)).setCell ⟨w.heap.size+2,12,none⟩ (.bool q.d0)).setCell ⟨w.heap.size+2,13,none⟩ (.bool q.d1)).setCell ⟨w.heap.size+2,14,none⟩ (.int .i64 q.num))=W'∧FlAt W' (w.heap.size+2) q∧Below w.heap.size w W':=by
 obtain ⟨W',hW',g',o'⟩:=h.rs.store q
 exact ⟨W',hW',g',o'.below (by omega) h.bel⟩
theorem Fsz.put_st {w W:World} {f g:Fl} {s:Sg} {bv:Value} (h:Fsz w f s bv g W) (n:Int):∃ W',W.setCell ⟨w.heap.size,5,none⟩ (.int .i64 n)=W'∧Fsz w { f with st:=n } s bv g W':=by
 obtain ⟨W',e,p,o⟩:=h.fl.store_st n
 exact ⟨W',e,h.put p o⟩
theorem Fsz.put_unt {w W:World} {f g:Fl} {s:Sg} {bv:Value} (h:Fsz w f s bv g W) (n:Int):∃ W',W.setCell ⟨w.heap.size,6,none⟩ (.int .i64 n)=W'∧Fsz w { f with unt:=n } s bv g W':=by
 obtain ⟨W',e,p,o⟩:=h.fl.store_unt n
 exact ⟨W',e,h.put p o⟩
theorem Fsz.put_stp {w W:World} {f g:Fl} {s:Sg} {bv:Value} (h:Fsz w f s bv g W) (n:Int):∃ W',W.setCell ⟨w.heap.size,7,none⟩ (.int .i64 n)=W'∧Fsz w { f with stp:=n } s bv g W':=by
 obtain ⟨W',e,p,o⟩:=h.fl.store_stp n
 exact ⟨W',e,h.put p o⟩
theorem Fsz.put_h0 {w W:World} {f g:Fl} {s:Sg} {bv:Value} (h:Fsz w f s bv g W) (n:Int):∃ W',W.setCell ⟨w.heap.size,8,none⟩ (.int .i64 n)=W'∧Fsz w { f with h0:=n } s bv g W':=by
 obtain ⟨W',e,p,o⟩:=h.fl.store_h0 n
 exact ⟨W',e,h.put p o⟩
theorem Fsz.put_h1 {w W:World} {f g:Fl} {s:Sg} {bv:Value} (h:Fsz w f s bv g W) (n:Int):∃ W',W.setCell ⟨w.heap.size,9,none⟩ (.int .i64 n)=W'∧Fsz w { f with h1:=n } s bv g W':=by
 obtain ⟨W',e,p,o⟩:=h.fl.store_h1 n
 exact ⟨W',e,h.put p o⟩
theorem Fsz.put_w0 {w W:World} {f g:Fl} {s:Sg} {bv:Value} (h:Fsz w f s bv g W) (n:Int):∃ W',W.setCell ⟨w.heap.size,10,none⟩ (.int .i64 n)=W'∧Fsz w { f with w0:=n } s bv g W':=by
 obtain ⟨W',e,p,o⟩:=h.fl.store_w0 n
 exact ⟨W',e,h.put p o⟩
theorem Fsz.put_w1 {w W:World} {f g:Fl} {s:Sg} {bv:Value} (h:Fsz w f s bv g W) (n:Int):∃ W',W.setCell ⟨w.heap.size,11,none⟩ (.int .i64 n)=W'∧Fsz w { f with w1:=n } s bv g W':=by
 obtain ⟨W',e,p,o⟩:=h.fl.store_w1 n
 exact ⟨W',e,h.put p o⟩
theorem Fsz.put_d0 {w W:World} {f g:Fl} {s:Sg} {bv:Value} (h:Fsz w f s bv g W) (n:Bool):∃ W',W.setCell ⟨w.heap.size,12,none⟩ (.bool n)=W'∧Fsz w { f with d0:=n } s bv g W':=by
 obtain ⟨W',e,p,o⟩:=h.fl.store_d0 n
 exact ⟨W',e,h.put p o⟩
theorem Fsz.put_d1 {w W:World} {f g:Fl} {s:Sg} {bv:Value} (h:Fsz w f s bv g W) (n:Bool):∃ W',W.setCell ⟨w.heap.size,13,none⟩ (.bool n)=W'∧Fsz w { f with d1:=n } s bv g W':=by
 obtain ⟨W',e,p,o⟩:=h.fl.store_d1 n
 exact ⟨W',e,h.put p o⟩
end Go.Proofs.YtkhheooofcpfdaaGreatDoor
