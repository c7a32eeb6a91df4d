/- What compare of package table returns: which of two keys is ahead. -/
import Derived.Test.YtkhheooofcpfdaaGreatDoorMgP
import Derived.Test.YtkhheooofcpfdaaGreatDoorMgK
import Derived.Test.YtkhheooofcpfdaaGreatDoorTrkChk
import Derived.Deep.RegionHeld3
import Derived.Shelf.SlSortFuncK.ComposeK
namespace Go.Proofs.YtkhheooofcpfdaaGreatDoor
open Go.RowKit
open Go.Sort hiding Below
set_option linter.unusedVariables false
def cmpK (p q:Ky):Int:=orI (cmpI p.kind q.kind) (orI (cmpI p.src q.src) (orI (cmpI p.frm q.frm) (orI (cmpI p.dst q.dst) (cmpI p.too q.too))))
theorem orI_neg (x y:Int):orI x y < 0 ↔ x < 0∨(x=0∧y < 0):=by unfold orI;split <;> omega
theorem cmpI_neg (a b:Int):cmpI a b < 0 ↔ a < b:=by
 unfold cmpI
 repeat' split
 all_goals omega
theorem cmpI_zero (a b:Int):cmpI a b=0 ↔ a=b:=by
 unfold cmpI
 repeat' split
 all_goals omega
def LtK (p q:Ky):Prop:=p.kind < q.kind∨(p.kind=q.kind∧(p.src < q.src∨(p.src=q.src∧(p.frm < q.frm∨(p.frm=q.frm∧(p.dst < q.dst∨(p.dst=q.dst∧p.too < q.too)))))))
theorem cmpK_neg (p q:Ky):cmpK p q < 0 ↔ LtK p q:=by
 unfold cmpK LtK
 simp only [orI_neg,cmpI_neg,cmpI_zero]
theorem LtK_trans {p q r:Ky} (h1:LtK p q) (h2:LtK q r):LtK p r:=by unfold LtK at *;omega
theorem LtK_irr (p:Ky):¬ LtK p p:=by unfold LtK;omega
theorem LtK_total {p q:Ky} (h:p≠q):LtK p q∨LtK q p:=by
 unfold LtK
 have:¬ (p.kind=q.kind∧p.src=q.src∧p.frm=q.frm∧p.dst=q.dst∧p.too=q.too):=by
  rintro ⟨h0,h1,h2,h3,h4⟩
  apply h
  obtain ⟨a0,a1,a2,a3,a4⟩:=p
  obtain ⟨b0,b1,b2,b3,b4⟩:=q
  simp only at h0 h1 h2 h3 h4
  subst h0;subst h1;subst h2;subst h3;subst h4;rfl
 omega
theorem or5_any (g:Nat) (x0 x1 x2 x3 x4:Int) (w:World) (h0:w.cell? ⟨g,0,none⟩=some (.int .i64 x0)) (h1:w.cell? ⟨g,1,none⟩=some (.int .i64 x1)) (h2:w.cell? ⟨g,2,none⟩=some (.int .i64 x2)) (h3:w.cell? ⟨g,3,none⟩=some (.int .i64 x3)) (h4:w.cell? ⟨g,4,none⟩=some (.int .i64 x4)) :
  Calls Tryz.prog 63 #[.slice (some ⟨g,0,none⟩) 5 5] w fun e w'=>e = .returned (.int .i64 (orI x0 (orI x1 (orI x2 (orI x3 (x4))))))∧w'=w:=by
 by_cases q0:x0=0
 case neg =>
  have HE:Hid (orI x0 (orI x1 (orI x2 (orI x3 (x4))))=x0):=by show orI x0 (orI x1 (orI x2 (orI x3 (x4))))=x0;simp [orI,q0]
  have e0:(x0 != 0)=true:=by simpa using q0
  clear q0
  rw [HE.out]
  go_enter Tryz.func63,Tryz.ntmps63
  go_wp2
  refine wp_loop_rounds 1 ?_
  rw [rounds_succ]
  go_wp2
  go_ret
  exact ⟨rfl,rfl⟩
 by_cases q1:x1=0
 case neg =>
  have HE:Hid (orI x0 (orI x1 (orI x2 (orI x3 (x4))))=x1):=by show orI x0 (orI x1 (orI x2 (orI x3 (x4))))=x1;simp [orI,q0,q1]
  have e0:(x0 != 0)=false:=by simp [q0]
  have e1:(x1 != 0)=true:=by simpa using q1
  clear q0 q1
  rw [HE.out]
  go_enter Tryz.func63,Tryz.ntmps63
  go_wp2
  refine wp_loop_rounds 2 ?_
  rw [rounds_succ]
  go_wp2
  rw [rounds_succ]
  go_wp2
  go_ret
  exact ⟨rfl,rfl⟩
 by_cases q2:x2=0
 case neg =>
  have HE:Hid (orI x0 (orI x1 (orI x2 (orI x3 (x4))))=x2):=by show orI x0 (orI x1 (orI x2 (orI x3 (x4))))=x2;simp [orI,q0,q1,q2]
  have e0:(x0 != 0)=false:=by simp [q0]
  have e1:(x1 != 0)=false:=by simp [q1]
  have e2:(x2 != 0)=true:=by simpa using q2
  clear q0 q1 q2
  rw [HE.out]
  go_enter Tryz.func63,Tryz.ntmps63
  go_wp2
  refine wp_loop_rounds 3 ?_
  rw [rounds_succ]
  go_wp2
  rw [rounds_succ]
  go_wp2
  rw [rounds_succ]
  go_wp2
  go_ret
  exact ⟨rfl,rfl⟩
 by_cases q3:x3=0
 case neg =>
  have HE:Hid (orI x0 (orI x1 (orI x2 (orI x3 (x4))))=x3):=by show orI x0 (orI x1 (orI x2 (orI x3 (x4))))=x3;simp [orI,q0,q1,q2,q3]
  have e0:(x0 != 0)=false:=by simp [q0]
  have e1:(x1 != 0)=false:=by simp [q1]
  have e2:(x2 != 0)=false:=by simp [q2]
  have e3:(x3 != 0)=true:=by simpa using q3
  clear q0 q1 q2 q3
  rw [HE.out]
  go_enter Tryz.func63,Tryz.ntmps63
  go_wp2
  refine wp_loop_rounds 4 ?_
  rw [rounds_succ]
  go_wp2
  rw [rounds_succ]
  go_wp2
  rw [rounds_succ]
  go_wp2
  rw [rounds_succ]
  go_wp2
  go_ret
  exact ⟨rfl,rfl⟩
 by_cases q4:x4=0
 case neg =>
  have HE:Hid (orI x0 (orI x1 (orI x2 (orI x3 (x4))))=x4):=by show orI x0 (orI x1 (orI x2 (orI x3 (x4))))=x4;simp [orI,q0,q1,q2,q3]
  have e0:(x0 != 0)=false:=by simp [q0]
  have e1:(x1 != 0)=false:=by simp [q1]
  have e2:(x2 != 0)=false:=by simp [q2]
  have e3:(x3 != 0)=false:=by simp [q3]
  have e4:(x4 != 0)=true:=by simpa using q4
  clear q0 q1 q2 q3 q4
  rw [HE.out]
  go_enter Tryz.func63,Tryz.ntmps63
  go_wp2
  refine wp_loop_rounds 5 ?_
  rw [rounds_succ]
  go_wp2
  rw [rounds_succ]
  go_wp2
  rw [rounds_succ]
  go_wp2
  rw [rounds_succ]
  go_wp2
  rw [rounds_succ]
  go_wp2
  go_ret
  exact ⟨rfl,rfl⟩
 have HE:Hid (orI x0 (orI x1 (orI x2 (orI x3 (x4))))=0):=by show orI x0 (orI x1 (orI x2 (orI x3 (x4))))=0;simp [orI,q0,q1,q2,q3,q4]
 have e0:(x0 != 0)=false:=by simp [q0]
 have e1:(x1 != 0)=false:=by simp [q1]
 have e2:(x2 != 0)=false:=by simp [q2]
 have e3:(x3 != 0)=false:=by simp [q3]
 have e4:(x4 != 0)=false:=by simp [q4]
 clear q0 q1 q2 q3 q4
 rw [HE.out]
 go_enter Tryz.func63,Tryz.ntmps63
 go_wp2
 refine wp_loop_rounds 6 ?_
 rw [rounds_succ]
 go_wp2
 rw [rounds_succ]
 go_wp2
 rw [rounds_succ]
 go_wp2
 rw [rounds_succ]
 go_wp2
 rw [rounds_succ]
 go_wp2
 rw [rounds_succ]
 go_wp2
 go_ret
 exact ⟨rfl,rfl⟩
def Kp2 (w:World) (p q:Ky) (X:World):Prop:=KyAt X w.heap.size p∧KyAt X (w.heap.size+1) q
theorem Kp2.drew {w:World} {p q:Ky} {X:World} (h:Kp2 w p q X):Kp2 w p q X.drew:=⟨h.1,h.2⟩
theorem Kp2.alloc {w:World} {p q:Ky} {X:World} (h:Kp2 w p q X) (o:Obj):Kp2 w p q (X.alloc o):=⟨h.1.alloc o,h.2.alloc o⟩
theorem kp_of {w:World} {p q:Ky} {X:World} (h:Kp2 w p q X):(X.cell? ⟨w.heap.size,0,none⟩=some (.int .i64 p.kind)∧X.cell? ⟨w.heap.size,1,none⟩=some (.int .i64 p.src)∧X.cell? ⟨w.heap.size,2,none⟩=some (.int .i64 p.frm)∧X.cell? ⟨w.heap.size,3,none⟩=some (.int .i64 p.dst)∧X.cell? ⟨w.heap.size,4,none⟩=some (.int .i64 p.too)∧X.cell? ⟨w.heap.size+1,0,none⟩=some (.int .i64 q.kind)∧X.cell? ⟨w.heap.size+1,1,none⟩=some (.int .i64 q.src)∧X.cell? ⟨w.heap.size+1,2,none⟩=some (.int .i64 q.frm)∧X.cell? ⟨w.heap.size+1,3,none⟩=some (.int .i64 q.dst)∧X.cell? ⟨w.heap.size+1,4,none⟩=some (.int .i64 q.too))∧Kp2 w p q X:=by
 obtain ⟨a0,a1,a2,a3,a4⟩:=h.1.cells
 obtain ⟨b0,b1,b2,b3,b4⟩:=h.2.cells
 exact ⟨⟨a0,a1,a2,a3,a4,b0,b1,b2,b3,b4⟩,h⟩
set_option maxRecDepth 100000 in
set_option maxHeartbeats 16000000 in
theorem tcmp_any (p q:Ky) (w:World) :
  Calls Tryz.prog 43 #[.agg #[.int .i64 p.kind,.int .i64 p.src,.int .i64 p.frm,.int .i64 p.dst,.int .i64 p.too],.agg #[.int .i64 q.kind,.int .i64 q.src,.int .i64 q.frm,.int .i64 q.dst,.int .i64 q.too]] w fun e w'=>e = .returned (.int .i64 (cmpK p q))∧∃ n os',w'=grow (w.drewN n) os':=by
 have hS:Kp2 w p q ((w.alloc (.cells #[.int .i64 p.kind,.int .i64 p.src,.int .i64 p.frm,.int .i64 p.dst,.int .i64 p.too] 37)).alloc (.cells #[.int .i64 q.kind,.int .i64 q.src,.int .i64 q.frm,.int .i64 q.dst,.int .i64 q.too] 37)):=by
  refine ⟨(KyAt.new w p).alloc _,?_⟩
  have:=KyAt.new (w.alloc (.cells #[.int .i64 p.kind,.int .i64 p.src,.int .i64 p.frm,.int .i64 p.dst,.int .i64 p.too] 37)) q
  rw [show (w.alloc (.cells #[.int .i64 p.kind,.int .i64 p.src,.int .i64 p.frm,.int .i64 p.dst,.int .i64 p.too] 37)).heap.size=w.heap.size+1 by simp] at this
  exact this
 obtain ⟨r,hr⟩:∃ r,cmpK p q=r:=⟨_,rfl⟩
 rw [hr]
 unfold cmpK at hr
 obtain ⟨x0,hx0⟩:∃ x,cmpI p.kind q.kind=x:=⟨_,rfl⟩
 have c0:=hidE (fun W=>compare_any p.kind q.kind W)
 rw [hx0] at hr c0
 obtain ⟨x1,hx1⟩:∃ x,cmpI p.src q.src=x:=⟨_,rfl⟩
 have c1:=hidE (fun W=>compare_any p.src q.src W)
 rw [hx1] at hr c1
 obtain ⟨x2,hx2⟩:∃ x,cmpI p.frm q.frm=x:=⟨_,rfl⟩
 have c2:=hidE (fun W=>compare_any p.frm q.frm W)
 rw [hx2] at hr c2
 obtain ⟨x3,hx3⟩:∃ x,cmpI p.dst q.dst=x:=⟨_,rfl⟩
 have c3:=hidE (fun W=>compare_any p.dst q.dst W)
 rw [hx3] at hr c3
 obtain ⟨x4,hx4⟩:∃ x,cmpI p.too q.too=x:=⟨_,rfl⟩
 have c4:=hidE (fun W=>compare_any p.too q.too W)
 rw [hx4] at hr c4
 have hor:=hidE (fun (g:Nat) (W:World) h0 h1 h2 h3 h4=>or5_any g x0 x1 x2 x3 x4 W h0 h1 h2 h3 h4)
 rw [hr] at hor
 clear hr hx0 hx1 hx2 hx3 hx4
 have HW:Hid (∃ n os',(((w.alloc (.cells #[.int .i64 p.kind,.int .i64 p.src,.int .i64 p.frm,.int .i64 p.dst,.int .i64 p.too] 37)).alloc (.cells #[.int .i64 q.kind,.int .i64 q.src,.int .i64 q.frm,.int .i64 q.dst,.int .i64 q.too] 37)).alloc (.cells #[.int .i64 x0,.int .i64 x1,.int .i64 x2,.int .i64 x3,.int .i64 x4] 3)).drew=grow (w.drewN n) os'):=by
  refine ⟨1,#[.cells #[.int .i64 p.kind,.int .i64 p.src,.int .i64 p.frm,.int .i64 p.dst,.int .i64 p.too] 37 (0,0),.cells #[.int .i64 q.kind,.int .i64 q.src,.int .i64 q.frm,.int .i64 q.dst,.int .i64 q.too] 37 (0,0),.cells #[.int .i64 x0,.int .i64 x1,.int .i64 x2,.int .i64 x3,.int .i64 x4] 3 (0,0)],?_⟩
  rw [alloc_eq_grow,alloc_eq_grow,alloc_eq_grow,grow_grow,grow_grow];rfl
 obtain ⟨W1,hW1⟩:∃ W1,(w.alloc (.cells #[.int .i64 p.kind,.int .i64 p.src,.int .i64 p.frm,.int .i64 p.dst,.int .i64 p.too] 37)).alloc (.cells #[.int .i64 q.kind,.int .i64 q.src,.int .i64 q.frm,.int .i64 q.dst,.int .i64 q.too] 37)=W1:=⟨_,rfl⟩
 rw [hW1] at hS HW
 go_enter Tryz.func43,Tryz.ntmps43
 go_upto_region 1 with fail
 try rw [hW1]
 clear hW1
 have m0:True:=trivial
 have hT:=kp_of hS
 go_region_held3 (fun X=>(X.cell? ⟨w.heap.size,0,none⟩=some (.int .i64 p.kind)∧X.cell? ⟨w.heap.size,1,none⟩=some (.int .i64 p.src)∧X.cell? ⟨w.heap.size,2,none⟩=some (.int .i64 p.frm)∧X.cell? ⟨w.heap.size,3,none⟩=some (.int .i64 p.dst)∧X.cell? ⟨w.heap.size,4,none⟩=some (.int .i64 p.too)∧X.cell? ⟨w.heap.size+1,0,none⟩=some (.int .i64 q.kind)∧X.cell? ⟨w.heap.size+1,1,none⟩=some (.int .i64 q.src)∧X.cell? ⟨w.heap.size+1,2,none⟩=some (.int .i64 q.frm)∧X.cell? ⟨w.heap.size+1,3,none⟩=some (.int .i64 q.dst)∧X.cell? ⟨w.heap.size+1,4,none⟩=some (.int .i64 q.too))∧Kp2 w p q X) (with_reducible first|assumption|exact kp_of hS|exact kp_of (Kp2.drew (And.right (by assumption)))|exact kp_of (Kp2.alloc (And.right (by assumption)) _)|exact kp_of (Kp2.drew (Kp2.alloc (And.right (by assumption)) _))|exact kp_of (Kp2.drew hS)|exact kp_of (Kp2.drew (Kp2.alloc hS _))) (first
  | (go_at_call 64;have m1:True:=m0;clear m0;refine (c0.out _).mono ?_;rintro e w' ⟨rfl,rfl⟩)
  | (go_at_call 64;have m2:True:=m1;clear m1;refine (c1.out _).mono ?_;rintro e w' ⟨rfl,rfl⟩)
  | (go_at_call 64;have m3:True:=m2;clear m2;refine (c2.out _).mono ?_;rintro e w' ⟨rfl,rfl⟩)
  | (go_at_call 64;have m4:True:=m3;clear m3;refine (c3.out _).mono ?_;rintro e w' ⟨rfl,rfl⟩)
  | (go_at_call 64;have m5:True:=m4;clear m4;refine (c4.out _).mono ?_;rintro e w' ⟨rfl,rfl⟩)
  | (go_at_call 63;refine (hor.out _ _ (by simp) (by simp) (by simp) (by simp) (by simp)).mono ?_;rintro e w' ⟨rfl,rfl⟩))
 clear hS hT
 go_wp2_with fail
 go_ret
 exact ⟨rfl,HW.out⟩
end Go.Proofs.YtkhheooofcpfdaaGreatDoor
