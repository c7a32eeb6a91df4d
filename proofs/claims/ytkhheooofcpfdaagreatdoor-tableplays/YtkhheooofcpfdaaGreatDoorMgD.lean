/- What measure of package wire returns, for every bytes: how many bytes the packet has that they begin with, or why they begin with none. -/
import Derived.Test.YtkhheooofcpfdaaGreatDoorMgB
import Derived.Test.YtkhheooofcpfdaaGreatDoorMgC
import Derived.Laws.BitsLemmas
namespace Go.Proofs.YtkhheooofcpfdaaGreatDoor
open Go.RowKit
set_option linter.unusedVariables false
end Go.Proofs.YtkhheooofcpfdaaGreatDoor
namespace Go.Proofs.YtkhheooofcpfdaaGreatDoor
open Go.RowKit
set_option linter.unusedVariables false
theorem sgUp_any (n most:Int) (w:World) :
  Calls Tryz.prog 125 #[.int .i64 n,.int .i64 most] w fun e w'=>e = .returned (.bool (upB n most))∧w'=w:=by
 by_cases h0:0≤n
 ·by_cases h1:n≤most
  ·rw [upB_yes h0 h1]
   go_enter Tryz.func125,Tryz.ntmps125
   go_wp2
   go_ret
   exact ⟨rfl,rfl⟩
  ·rw [show upB n most=false by simp [upB];omega]
   go_enter Tryz.func125,Tryz.ntmps125
   go_wp2
   go_ret
   exact ⟨rfl,rfl⟩
 ·rw [show upB n most=false by simp [upB];omega]
  go_enter Tryz.func125,Tryz.ntmps125
  go_wp2
  go_ret
  exact ⟨rfl,rfl⟩
theorem sgAddr_any (n:Int) (w:World) :
  Calls Tryz.prog 118 #[.int .i64 n] w fun e w'=>e = .returned (.bool (upB n 4294967295))∧w'=w:=by
 go_enter Tryz.func118,Tryz.ntmps118
 go_wp2_with (go_at_call 125;refine (sgUp_any _ _ _).mono ?_;rintro e w' ⟨rfl,rfl⟩)
 go_ret
 exact ⟨rfl,rfl⟩
theorem head_any (k:Int) (w:World) :
  Calls Tryz.prog 120 #[.int .i64 k] w fun e w'=>e = .returned (.int .i64 (hdN k:Nat))∧w'=w:=by
 by_cases h1:k=1
 ·subst h1
  rw [show ((hdN 1:Nat):Int)=17 from rfl]
  go_enter Tryz.func120,Tryz.ntmps120
  go_wp2
  go_ret
  exact ⟨rfl,rfl⟩
 by_cases h2:k=2
 ·subst h2
  rw [show ((hdN 2:Nat):Int)=6 from rfl]
  go_enter Tryz.func120,Tryz.ntmps120
  go_wp2
  go_ret
  exact ⟨rfl,rfl⟩
 by_cases h3:k=3
 ·subst h3
  rw [show ((hdN 3:Nat):Int)=8 from rfl]
  go_enter Tryz.func120,Tryz.ntmps120
  go_wp2
  go_ret
  exact ⟨rfl,rfl⟩
 ·rw [show ((hdN k:Nat):Int)=0 by unfold hdN;rw [if_neg h1,if_neg h2,if_neg h3];rfl]
  have e1:(k == 1)=false:=by simpa using h1
  have e2:(k == 2)=false:=by simpa using h2
  have e3:(k == 3)=false:=by simpa using h3
  go_enter Tryz.func120,Tryz.ntmps120
  go_wp2
  go_ret
  exact ⟨rfl,rfl⟩
theorem isK_hd (k:Int):isK k=decide ((0:Int) < ((hdN k:Nat):Int)):=by
 unfold isK hdN
 by_cases h1:k=1
 ·subst h1;rfl
 by_cases h2:k=2
 ·subst h2;rfl
 by_cases h3:k=3
 ·subst h3;rfl
 ·rw [if_neg h1,if_neg h2,if_neg h3]
  simp;omega
theorem isKind_any (k:Int) (w:World) :
  Calls Tryz.prog 117 #[.int .i64 k] w fun e w'=>e = .returned (.bool (isK k))∧w'=w:=by
 rw [isK_hd]
 have hh:=head_any k w
 generalize ((hdN k:Nat):Int)=n at hh ⊢
 go_enter Tryz.func117,Tryz.ntmps117
 go_wp2_with (go_at_call 120;refine hh.mono ?_;rintro e w' ⟨rfl,rfl⟩)
 go_ret
 exact ⟨rfl,rfl⟩
theorem fromFits_any (k n:Int) (w:World) :
  Calls Tryz.prog 126 #[.int .i64 k,.int .i64 n] w fun e w'=>e = .returned (.bool (frmB k n))∧w'=w:=by
 by_cases h:k=3
 ·subst h
  rw [show frmB 3 n=upB n 1 from rfl]
  go_enter Tryz.func126,Tryz.ntmps126
  go_wp2_with (go_at_call 125;refine (sgUp_any _ _ _).mono ?_;rintro e w' ⟨rfl,rfl⟩)
  go_ret
  exact ⟨rfl,rfl⟩
 ·rw [show frmB k n=upB n 65535 by unfold frmB;rw [if_neg h]]
  have e3:(k == 3)=false:=by simpa using h
  go_enter Tryz.func126,Tryz.ntmps126
  go_wp2_with (go_at_call 125;refine (sgUp_any _ _ _).mono ?_;rintro e w' ⟨rfl,rfl⟩)
  go_ret
  exact ⟨rfl,rfl⟩
def beP:Nat→Int→List Int
 | 0,n=>[]
 | 1,n=>b1L n
 | 2,n=>b2L n
 | 3,n=>[n / 65536 % 256,n / 256 % 256,n % 256]
 | _,n=>b4L n
set_option maxRecDepth 100000 in
set_option maxHeartbeats 4000000 in
theorem write_any (v:Value) (ys:List Int) (n:Int) (many base:Nat) (w:World) (hown:OwnB w base v ys) (hs:many≤4) (hy:ys.length≤100000) (hbase:base≤w.heap.size) :
  Calls Tryz.prog 105 #[v,.int .i64 (many:Int),.int .i64 n] w fun e w'=>∃ v',e = .returned v'∧OwnB w' base v' (ys++beP many n)∧Grew v v' w w':=by
 go_enter Tryz.func105,Tryz.ntmps105
 go_wp2
 go_loopw [0,7] (fun vr i wr=>∃ (k:Nat) (cur:List Int),k≤many∧i = .int .i64 ((k:Int) - 1)∧OwnB wr base vr cur∧Grew v vr w wr∧cur.length≤100004 - k∧Hid (cur++beP k n=ys++beP many n)) (fun _ i _=>(intOf i+1).toNat)
 case atStart=>exact ⟨many,ys,by omega,rfl,hown,Grew.refl _ _,by omega,rfl⟩
 case round =>
  rename_i vr _ wr
  obtain ⟨k,cur,hk,rfl,ho,hg,hl,hT⟩:=hrel
  have hb0:base≤wr.heap.size:=Nat.le_trans hbase hg.1.size
  have hk4:k=0∨k=1∨k=2∨k=3∨k=4:=by omega
  clear hown hbase
  rcases hk4 with rfl|rfl|rfl|rfl|rfl
  ·have HT:Hid (cur=ys++beP many n):=by
    show cur=ys++beP many n
    rw [← hT.out];simp [beP]
   clear hT
   go_wp2
   go_ret
   exact ⟨_,rfl,HT.out ▸ ho,hg⟩
  ·rw [show (((1:Nat):Int) - 1)=0 from rfl]
   have HT:Hid (cur++[n % 256]++beP 0 n=ys++beP many n):=by show cur++[n % 256]++beP 0 n=_;rw [← hT.out,List.append_assoc];rfl
   clear hT
   go_wp2_with (at_builtin;refine wpList_append_byte rfl (.tmp 14) (.tmp 20) rfl base _ cur rfl ho (n % 256) (by omega) rfl (by omega) hb0 ?_;intro v2 w2 own2 grew2)
   go_roundw
   case rel=>exact ⟨0,cur++[n % 256],by omega,by go_num,own2,hg.trans grew2,by simp;omega,HT⟩
   case measure=>simp [intOf]
  ·rw [show (((2:Nat):Int) - 1)=1 from rfl]
   have HT:Hid (cur++[n / 256 % 256]++beP 1 n=ys++beP many n):=by show cur++[n / 256 % 256]++beP 1 n=_;rw [← hT.out,List.append_assoc];rfl
   clear hT
   go_wp2_with (at_builtin;refine wpList_append_byte rfl (.tmp 14) (.tmp 20) rfl base _ cur rfl ho (n / 256 % 256) (by omega) rfl (by omega) hb0 ?_;intro v2 w2 own2 grew2)
   go_roundw
   case rel=>exact ⟨1,cur++[n / 256 % 256],by omega,by go_num,own2,hg.trans grew2,by simp;omega,HT⟩
   case measure=>simp [intOf]
  ·rw [show (((3:Nat):Int) - 1)=2 from rfl]
   have HT:Hid (cur++[n / 65536 % 256]++beP 2 n=ys++beP many n):=by show cur++[n / 65536 % 256]++beP 2 n=_;rw [← hT.out,List.append_assoc];rfl
   clear hT
   go_wp2_with (at_builtin;refine wpList_append_byte rfl (.tmp 14) (.tmp 20) rfl base _ cur rfl ho (n / 65536 % 256) (by omega) rfl (by omega) hb0 ?_;intro v2 w2 own2 grew2)
   go_roundw
   case rel=>exact ⟨2,cur++[n / 65536 % 256],by omega,by go_num,own2,hg.trans grew2,by simp;omega,HT⟩
   case measure=>simp [intOf]
  ·rw [show (((4:Nat):Int) - 1)=3 from rfl]
   have HT:Hid (cur++[n / 16777216 % 256]++beP 3 n=ys++beP many n):=by show cur++[n / 16777216 % 256]++beP 3 n=_;rw [← hT.out,List.append_assoc];rfl
   clear hT
   go_wp2_with (at_builtin;refine wpList_append_byte rfl (.tmp 14) (.tmp 20) rfl base _ cur rfl ho (n / 16777216 % 256) (by omega) rfl (by omega) hb0 ?_;intro v2 w2 own2 grew2)
   go_roundw
   case rel=>exact ⟨3,cur++[n / 16777216 % 256],by omega,by go_num,own2,hg.trans grew2,by simp;omega,HT⟩
   case measure=>simp [intOf]
def Grows (w:World) (B:Nat) (wi:World) (v:Value) (L:List Int):Prop:=OwnB wi B v L∧Below B w wi∧B≤wi.heap.size
theorem Grows.nil (w:World) (B:Nat) (hB:B≤w.heap.size):Grows w B w (.slice none 0 0) []:=⟨OwnB.nil _ _,Below.refl _ _,hB⟩
theorem Grows.step {w wi wj:World} {B:Nat} {v v':Value} {L L':List Int} (h:Grows w B wi v L) (ho:OwnB wj B v' L') (hg:Grew v v' wi wj):Grows w B wj v' L' :=
 ⟨ho,hg.below h.2.1 h.2.2 h.1.block_ge,Nat.le_trans h.2.2 hg.1.size⟩
theorem Grows.app {w wi wj:World} {B:Nat} {v v':Value} {L L':List Int} (h:Grows w B wi v L) (ho:OwnB wj B v' L') (hg:wi.grownBy wj v.ownBlock):Grows w B wj v' L' :=
 ⟨ho,h.2.1.grown hg h.2.2 h.1.block_ge,Nat.le_trans h.2.2 hg.size⟩
theorem Grows.write1 {w wi:World} {B:Nat} {v:Value} {L:List Int} (h:Grows w B wi v L) (n:Int) (hy:L.length≤100000) :
  Calls Tryz.prog 105 #[v,.int .i64 1,.int .i64 n] wi fun e w'=>∃ v',e = .returned v'∧Grows w B w' v' (L++b1L n):=by
 refine (write_any v L n 1 B wi h.1 (by omega) hy h.2.2).mono ?_
 rintro e w' ⟨v',rfl,ho,hg⟩
 exact ⟨v',rfl,h.step ho hg⟩
theorem Grows.write2 {w wi:World} {B:Nat} {v:Value} {L:List Int} (h:Grows w B wi v L) (n:Int) (hy:L.length≤100000) :
  Calls Tryz.prog 105 #[v,.int .i64 2,.int .i64 n] wi fun e w'=>∃ v',e = .returned v'∧Grows w B w' v' (L++b2L n):=by
 refine (write_any v L n 2 B wi h.1 (by omega) hy h.2.2).mono ?_
 rintro e w' ⟨v',rfl,ho,hg⟩
 exact ⟨v',rfl,h.step ho hg⟩
theorem Grows.write4 {w wi:World} {B:Nat} {v:Value} {L:List Int} (h:Grows w B wi v L) (n:Int) (hy:L.length≤100000) :
  Calls Tryz.prog 105 #[v,.int .i64 4,.int .i64 n] wi fun e w'=>∃ v',e = .returned v'∧Grows w B w' v' (L++b4L n):=by
 refine (write_any v L n 4 B wi h.1 (by omega) hy h.2.2).mono ?_
 rintro e w' ⟨v',rfl,ho,hg⟩
 exact ⟨v',rfl,h.step ho hg⟩
end Go.Proofs.YtkhheooofcpfdaaGreatDoor
namespace Go.Proofs.YtkhheooofcpfdaaGreatDoor
open Go.RowKit
set_option linter.unusedVariables false
theorem head1 (w:World):Calls Tryz.prog 120 #[.int .i64 1] w fun e w'=>e = .returned (.int .i64 17)∧w'=w:=head_any 1 w
theorem head2 (w:World):Calls Tryz.prog 120 #[.int .i64 2] w fun e w'=>e = .returned (.int .i64 6)∧w'=w:=head_any 2 w
theorem head3 (w:World):Calls Tryz.prog 120 #[.int .i64 3] w fun e w'=>e = .returned (.int .i64 8)∧w'=w:=head_any 3 w
theorem ret_bool {a b:Bool} (h:a=b):Ending.returned (.bool a) = .returned (.bool b):=by rw [h]
set_option maxRecDepth 100000 in
set_option maxHeartbeats 8000000 in
theorem fits_raw (k f t q a n g:Int) (ad:Option Addr) (l c:Nat) (w:World) :
  Calls Tryz.prog 119 #[.int .i64 k,.agg #[.int .i64 f,.int .i64 t,.int .i64 q,.int .i64 a,.int .i64 n,.int .i64 g,.slice ad l c]] w fun e w' =>
   e = .returned (.bool (frmB k f && upB t 65535 && upB n 65535 && upB q (seqM k) && upB a 4294967295 && upB g 15))∧Below w.heap.size w w':=by
 have b1:Below w.heap.size w (w.alloc (.cells #[.int .i64 f,.int .i64 t,.int .i64 q,.int .i64 a,.int .i64 n,.int .i64 g,.slice ad l c] 41)):=(Below.refl _ _).alloc (Nat.le_refl _) _
 have HB:Hid _:=b1
 obtain ⟨M,HM⟩:∃ M,Hid (M=seqM k):=⟨_,rfl⟩
 obtain ⟨R,HR⟩:∃ R,Hid (R=(frmB k f && upB t 65535 && upB n 65535 && upB q M && upB a 4294967295 && upB g 15)):=⟨_,rfl⟩
 rw [show (frmB k f && upB t 65535 && upB n 65535 && upB q (seqM k) && upB a 4294967295 && upB g 15)=R by rw [HR.out,HM.out]]
 clear b1
 go_enter Tryz.func119,Tryz.ntmps119
 go_upto_if 7 with fail
 go_cut [5] (fun s ww=>s = .int .i64 M∧ww=w.alloc (.cells #[.int .i64 f,.int .i64 t,.int .i64 q,.int .i64 a,.int .i64 n,.int .i64 g,.slice ad l c] 41))
 case first =>
  by_cases h:k=3
  ·have E:Hid ((65535:Int)=M):=by show (65535:Int)=M;rw [HM.out,h];rfl
   subst h
   go_wp2_with fail
   go_meet
   case rel=>exact ⟨congrArg (Value.int .i64) E.out,rfl⟩
  ·have E:Hid ((4294967295:Int)=M):=by show (4294967295:Int)=M;rw [HM.out];unfold seqM;rw [if_neg h]
   have e3:(k == 3)=false:=by simpa using h
   go_wp2_with fail
   go_meet
   case rel=>exact ⟨congrArg (Value.int .i64) E.out,rfl⟩
 case rest =>
  obtain ⟨hx,hy⟩:=hcut
  subst hx hy
  rcases h0:frmB k f with _|_
  ·go_wp2_with (first
   | (go_at_call 126;refine (fromFits_any _ _ _).mono ?_;rintro e w' ⟨rfl,rfl⟩)
   | (go_at_call 125;refine (sgUp_any _ _ _).mono ?_;rintro e w' ⟨rfl,rfl⟩))
   go_ret
   exact ⟨ret_bool (by rw [HR.out,h0];simp),HB.out⟩
  rcases h1:upB t 65535 with _|_
  ·go_wp2_with (first
   | (go_at_call 126;refine (fromFits_any _ _ _).mono ?_;rintro e w' ⟨rfl,rfl⟩)
   | (go_at_call 125;refine (sgUp_any _ _ _).mono ?_;rintro e w' ⟨rfl,rfl⟩))
   go_ret
   exact ⟨ret_bool (by rw [HR.out,h0,h1];simp),HB.out⟩
  rcases h2:upB n 65535 with _|_
  ·go_wp2_with (first
   | (go_at_call 126;refine (fromFits_any _ _ _).mono ?_;rintro e w' ⟨rfl,rfl⟩)
   | (go_at_call 125;refine (sgUp_any _ _ _).mono ?_;rintro e w' ⟨rfl,rfl⟩))
   go_ret
   exact ⟨ret_bool (by rw [HR.out,h0,h1,h2];simp),HB.out⟩
  rcases h3:upB q M with _|_
  ·go_wp2_with (first
   | (go_at_call 126;refine (fromFits_any _ _ _).mono ?_;rintro e w' ⟨rfl,rfl⟩)
   | (go_at_call 125;refine (sgUp_any _ _ _).mono ?_;rintro e w' ⟨rfl,rfl⟩))
   go_ret
   exact ⟨ret_bool (by rw [HR.out,h0,h1,h2,h3];simp),HB.out⟩
  rcases h4:upB a 4294967295 with _|_
  ·go_wp2_with (first
   | (go_at_call 126;refine (fromFits_any _ _ _).mono ?_;rintro e w' ⟨rfl,rfl⟩)
   | (go_at_call 125;refine (sgUp_any _ _ _).mono ?_;rintro e w' ⟨rfl,rfl⟩))
   go_ret
   exact ⟨ret_bool (by rw [HR.out,h0,h1,h2,h3,h4];simp),HB.out⟩
  rcases h5:upB g 15 with _|_
  ·go_wp2_with (first
   | (go_at_call 126;refine (fromFits_any _ _ _).mono ?_;rintro e w' ⟨rfl,rfl⟩)
   | (go_at_call 125;refine (sgUp_any _ _ _).mono ?_;rintro e w' ⟨rfl,rfl⟩))
   go_ret
   exact ⟨ret_bool (by rw [HR.out,h0,h1,h2,h3,h4,h5];simp),HB.out⟩
  go_wp2_with (first
   | (go_at_call 126;refine (fromFits_any _ _ _).mono ?_;rintro e w' ⟨rfl,rfl⟩)
   | (go_at_call 125;refine (sgUp_any _ _ _).mono ?_;rintro e w' ⟨rfl,rfl⟩))
  go_ret
  exact ⟨ret_bool (by rw [HR.out,h0,h1,h2,h3,h4,h5];rfl),HB.out⟩
end Go.Proofs.YtkhheooofcpfdaaGreatDoor
namespace Go.Proofs.YtkhheooofcpfdaaGreatDoor
open Go.RowKit
set_option linter.unusedVariables false
def Lives (w:World):Prop:=∃ ty fz,w.heap[1]? = some (.cells #[.int .i64 0,.int .i64 0,.int .i64 0,.int .i64 0,.int .i64 0,.int .i64 0,.int .i64 30,.int .i64 300,.int .i64 60,.int .i64 10,.int .i64 0,.int .i64 30,.int .i64 60,.int .i64 0,.int .i64 0,.int .i64 0,.int .i64 10,.int .i64 20,.int .i64 0,.int .i64 0] ty fz)
theorem Lives.lt {w:World} (h:Lives w):1 < w.heap.size:=by
 obtain ⟨ty,fz,h⟩:=h
 rcases Nat.lt_or_ge 1 w.heap.size with h1|h1
 ·exact h1
 ·simp [Array.getElem?_eq_none h1] at h
theorem Lives.below {w w':World} (h:Lives w) (hb:Below w.heap.size w w'):Lives w':=by
 have hl:=h.lt
 obtain ⟨ty,fz,h⟩:=h
 exact ⟨ty,fz,by rw [hb.block _ hl];exact h⟩
theorem Lives.only {w w':World} {g:Nat} (h:Lives w) (hne:1≠g) (ho:Only g w w'):Lives w':=by
 obtain ⟨ty,fz,h⟩:=h
 exact ⟨ty,fz,by rw [ho.block _ hne];exact h⟩
theorem Lives.cell {w:World} (h:Lives w) {k s:Nat} (hk:k≤3) (hs:s≤4):w.cell? ⟨1,k * 5+s,none⟩=some (.int .i64 (lifeI k s)):=by
 obtain ⟨ty,fz,h⟩:=h
 have hk':k=0∨k=1∨k=2∨k=3:=by omega
 have hs':s=0∨s=1∨s=2∨s=3∨s=4:=by omega
 rcases hk' with rfl|rfl|rfl|rfl <;> rcases hs' with rfl|rfl|rfl|rfl|rfl <;> (rw [cell_of_row _ _ _ _ _ _ h];rfl)
theorem within_any (n lo hi:Int) (w:World) :
  Calls Tryz.prog 56 #[.int .i64 n,.int .i64 lo,.int .i64 hi] w fun e w'=>e = .returned (.bool (inR n lo hi))∧w'=w:=by
 by_cases h0:lo≤n
 ·by_cases h1:n≤hi
  ·rw [inR_yes h0 h1]
   go_enter Tryz.func56,Tryz.ntmps56
   go_wp2
   go_ret
   exact ⟨rfl,rfl⟩
  ·rw [inR_no (by omega)]
   go_enter Tryz.func56,Tryz.ntmps56
   go_wp2
   go_ret
   exact ⟨rfl,rfl⟩
 ·rw [inR_no (by omega)]
  go_enter Tryz.func56,Tryz.ntmps56
  go_wp2
  go_ret
  exact ⟨rfl,rfl⟩
theorem life_out {k s:Int} (h:¬ (0≤k∧k≤3∧0≤s∧s≤4)):lifeI k s=0:=by
 unfold lifeI;repeat' split
 all_goals omega
theorem life_any (k s:Int) (w:World) (hL:Lives w) :
    Calls Tryz.prog 84 #[.int .i64 k,.int .i64 s] w fun e w'=>e = .returned (.int .i64 (lifeI k s))∧w'=w:=by
  have c1:=fun W=>within_any k 0 3 W
  have c2:=fun W=>within_any s 0 4 W
  have m0:True:=trivial
  by_cases hk:0≤k∧k≤3
  · rw [inR_yes hk.1 hk.2] at c1
    by_cases hs:0≤s∧s≤4
    · rw [inR_yes hs.1 hs.2] at c2
      obtain ⟨a,rfl⟩:=Int.eq_ofNat_of_zero_le hk.1
      obtain ⟨b,rfl⟩:=Int.eq_ofNat_of_zero_le hs.1
      have hc:=hL.cell (k:=a) (s:=b) (by omega) (by omega)
      have ha:a=0∨a=1∨a=2∨a=3:=by omega
      have hb:b=0∨b=1∨b=2∨b=3∨b=4:=by omega
      obtain ⟨r,hr⟩:∃ r,lifeI (a:Nat) (b:Nat)=r:=⟨_,rfl⟩
      rw [hr] at hc ⊢
      clear hr hL hk hs
      rcases ha with rfl|rfl|rfl|rfl <;> rcases hb with rfl|rfl|rfl|rfl|rfl <;>
        (simp only [Nat.zero_mul,Nat.one_mul,Nat.reduceMul,Nat.zero_add,Nat.reduceAdd,Int.cast_ofNat_Int] at hc c1 c2 ⊢
         go_enter Tryz.func84,Tryz.ntmps84
         go_wp2_with (first
          | (go_at_call 56;have m1:True:=m0;clear m0;refine (c1 _).mono ?_;rintro e w' ⟨rfl,rfl⟩)
          | (go_at_call 56;have m2:True:=m1;clear m1;refine (c2 _).mono ?_;rintro e w' ⟨rfl,rfl⟩))
         go_ret
         exact ⟨rfl,rfl⟩)
    · rw [inR_no hs] at c2
      rw [life_out (by omega)]
      clear hs hk
      go_enter Tryz.func84,Tryz.ntmps84
      go_wp2_with (first
        | (go_at_call 56;have m1:True:=m0;clear m0;refine (c1 _).mono ?_;rintro e w' ⟨rfl,rfl⟩)
        | (go_at_call 56;have m2:True:=m1;clear m1;refine (c2 _).mono ?_;rintro e w' ⟨rfl,rfl⟩))
      go_ret
      exact ⟨rfl,rfl⟩
  · rw [inR_no hk] at c1
    rw [life_out (by omega)]
    clear hk
    go_enter Tryz.func84,Tryz.ntmps84
    go_wp2_with (first
      | (go_at_call 56;have m1:True:=m0;clear m0;refine (c1 _).mono ?_;rintro e w' ⟨rfl,rfl⟩)
      | (go_at_call 56;have m2:True:=m1;clear m1;refine (c2 _).mono ?_;rintro e w' ⟨rfl,rfl⟩))
    go_ret
    exact ⟨rfl,rfl⟩
theorem and_flag (g f:Int) (h0:0≤g) (h1:g≤15) (hf:f=1∨f=2∨f=4∨f=8):(bits .and .i64 g f != 0)=decide (g / f % 2=1):=by
 have hg:g=0∨g=1∨g=2∨g=3∨g=4∨g=5∨g=6∨g=7∨g=8∨g=9∨g=10∨g=11∨g=12∨g=13∨g=14∨g=15:=by omega
 rcases hg with rfl|rfl|rfl|rfl|rfl|rfl|rfl|rfl|rfl|rfl|rfl|rfl|rfl|rfl|rfl|rfl <;> rcases hf with rfl|rfl|rfl|rfl <;> decide
theorem has_any (s:Sg) (f:Int) (bv:Value) (w:World) (h0:0≤s.flg) (h1:s.flg≤15) (hf:f=1∨f=2∨f=4∨f=8) :
  Calls Tryz.prog 83 #[segV s bv,.int .i64 f] w fun e w'=>e = .returned (.bool (flgB s f))∧Below w.heap.size w w':=by
 have b1:Below w.heap.size w (w.alloc (.cells #[.int .i64 s.frm,.int .i64 s.too,.int .i64 s.seq,.int .i64 s.ack,.int .i64 s.win,.int .i64 s.flg,bv] 41)):=(Below.refl _ _).alloc (Nat.le_refl _) _
 have E:=and_flag s.flg f h0 h1 hf
 rw [show decide (s.flg / f % 2=1)=flgB s f from rfl] at E
 have HE:=E.symm
 rw [HE]
 clear HE E h0 h1 hf
 unfold segV
 go_enter Tryz.func83,Tryz.ntmps83
 go_wp2
 go_ret
 exact ⟨rfl,b1⟩
theorem and_32 (n:Int) (h0:0≤n) (h1:n < 9223372036854775808):bits .and .i64 n 4294967295=n % 4294967296:=by
 have e:=bits_mask .i64 63 (by decide) (fun n h0 h1=>by rw [IntKind.wrap_i64];omega) 32 (by decide) n h0 (by omega)
 have e2:((2:Int) ^ 32 - 1)=4294967295:=by decide
 have e3:((2:Int) ^ 32)=4294967296:=by decide
 rw [e2,e3] at e
 exact e
set_option maxHeartbeats 2000000 in
theorem end_any (s:Sg) (a:Option Addr) (l c:Nat) (w:World) (h0:0≤s.flg) (h1:s.flg≤15) (hq0:0≤s.seq) (hq1:s.seq≤4294967295) (hl:s.body.length=l) (hl4:l≤4000) :
  Calls Tryz.prog 58 #[segV s (.slice a l c)] w fun e w'=>e = .returned (.int .i64 (endI s))∧Below w.heap.size w w':=by
 have hp:=SgAt.new w s (.slice a l c)
 have b1:Below w.heap.size w (w.alloc (.cells #[.int .i64 s.frm,.int .i64 s.too,.int .i64 s.seq,.int .i64 s.ack,.int .i64 s.win,.int .i64 s.flg,.slice a l c] 41)):=(Below.refl _ _).alloc (Nat.le_refl _) _
 obtain ⟨W1,hW1⟩:∃ W1,w.alloc (.cells #[.int .i64 s.frm,.int .i64 s.too,.int .i64 s.seq,.int .i64 s.ack,.int .i64 s.win,.int .i64 s.flg,.slice a l c] 41)=W1:=⟨_,rfl⟩
 rw [hW1] at hp b1
 have hS:=fun W=>has_any s 2 (.slice a l c) W h0 h1 (by omega)
 have hF:=fun W=>has_any s 1 (.slice a l c) W h0 h1 (by omega)
 have HN:Hid (endI s=(s.seq+(l:Int)+bI (flgB s 2)+bI (flgB s 1)) % 4294967296):=by show endI s=_;unfold endI;rw [hl]
 obtain ⟨n,hn⟩:∃ n,endI s=n:=⟨_,rfl⟩
 rw [hn] at HN ⊢
 clear hn h0 h1 hl
 unfold segV at *
 go_enter Tryz.func58,Tryz.ntmps58
 go_upto_region 1 with fail
 try rw [hW1]
 clear hW1
 obtain ⟨c0,c1,c2,c3,c4,c5,c6⟩:=hp.cells
 have st:∀ {W W':World},SgAt W w.heap.size s (.slice a l c)→Below w.heap.size w W→Below W.heap.size W W'→SgAt W' w.heap.size s (.slice a l c)∧Below w.heap.size w W':=fun h hb hb'=>⟨h.below h.lt hb',hb.trans (hb'.mono hb.size)⟩
 have ST:Hid (∀ {W W':World},SgAt W w.heap.size s (.slice a l c)→Below w.heap.size w W→Below W.heap.size W W'→SgAt W' w.heap.size s (.slice a l c)∧Below w.heap.size w W'):=st
 clear st
 generalize flgB s 2=x at *
 generalize flgB s 1=y at *
 go_upto_region 2 with fail
 rcases x with _|_ <;> rcases y with _|_
 ·have E:bits .and .i64 (s.seq+(l:Int)) 4294967295=n:=by
   rw [and_32 _ (by omega) (by omega),HN.out];simp [bI]
  clear HN
  go_upto_region 4 with (go_at_call 83;refine (hS _).mono ?_;rintro e w2 ⟨rfl,b2⟩)
  obtain ⟨p2,b2⟩:=ST.out hp b1 b2
  clear c0 c1 c2 c3 c4 c5 c6 hp b1
  obtain ⟨c0,c1,c2,c3,c4,c5,c6⟩:=p2.cells
  go_wp2_with (go_at_call 83;refine (hF _).mono ?_;rintro e w3 ⟨rfl,b3⟩)
  go_ret
  exact ⟨rfl,(ST.out p2 b2 b3).2⟩
 ·have E:bits .and .i64 (s.seq+(l:Int)+1) 4294967295=n:=by
   rw [and_32 _ (by omega) (by omega),HN.out];simp [bI]
  clear HN
  go_upto_region 4 with (go_at_call 83;refine (hS _).mono ?_;rintro e w2 ⟨rfl,b2⟩)
  obtain ⟨p2,b2⟩:=ST.out hp b1 b2
  clear c0 c1 c2 c3 c4 c5 c6 hp b1
  obtain ⟨c0,c1,c2,c3,c4,c5,c6⟩:=p2.cells
  go_wp2_with (go_at_call 83;refine (hF _).mono ?_;rintro e w3 ⟨rfl,b3⟩)
  go_ret
  exact ⟨rfl,(ST.out p2 b2 b3).2⟩
 ·have E:bits .and .i64 (s.seq+(l:Int)+1) 4294967295=n:=by
   rw [and_32 _ (by omega) (by omega),HN.out];simp [bI]
  clear HN
  go_upto_region 4 with (go_at_call 83;refine (hS _).mono ?_;rintro e w2 ⟨rfl,b2⟩)
  obtain ⟨p2,b2⟩:=ST.out hp b1 b2
  clear c0 c1 c2 c3 c4 c5 c6 hp b1
  obtain ⟨c0,c1,c2,c3,c4,c5,c6⟩:=p2.cells
  go_wp2_with (go_at_call 83;refine (hF _).mono ?_;rintro e w3 ⟨rfl,b3⟩)
  go_ret
  exact ⟨rfl,(ST.out p2 b2 b3).2⟩
 ·have E:bits .and .i64 (s.seq+(l:Int)+1+1) 4294967295=n:=by
   rw [and_32 _ (by omega) (by omega),HN.out];simp [bI]
  clear HN
  go_upto_region 4 with (go_at_call 83;refine (hS _).mono ?_;rintro e w2 ⟨rfl,b2⟩)
  obtain ⟨p2,b2⟩:=ST.out hp b1 b2
  clear c0 c1 c2 c3 c4 c5 c6 hp b1
  obtain ⟨c0,c1,c2,c3,c4,c5,c6⟩:=p2.cells
  go_wp2_with (go_at_call 83;refine (hF _).mono ?_;rintro e w3 ⟨rfl,b3⟩)
  go_ret
  exact ⟨rfl,(ST.out p2 b2 b3).2⟩
theorem ahead_any (a b:Int) (w:World) (ha:0≤a∧a≤4294967295) (hb:0≤b∧b≤4294967295) :
  Calls Tryz.prog 123 #[.int .i64 a,.int .i64 b] w fun e w'=>e = .returned (.bool (ahB a b))∧w'=w:=by
 have E:ahB a b=decide (0 < wrap32 (a - b)):=by
  unfold ahB wrap32
  rw [decide_eq_decide]
  omega
 rw [E]
 clear E
 go_enter Tryz.func123,Tryz.ntmps123
 go_wp2
 go_ret
 exact ⟨rfl,rfl⟩
end Go.Proofs.YtkhheooofcpfdaaGreatDoor
