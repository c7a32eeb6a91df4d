/- Plain facts on powers of two, addresses and prefixes, as the walks of this seat speak of them: 'pw', 'isAddr', 'prefE' (the fault of a prefix), 'hasB' (has a prefix an address). -/
import Derived.Test.YtkhheooofcpfdaaGreatDoorProg
import Derived.WalkKit
import Derived.Below
import Derived.WalkSmall
import Derived.Deep.QuietTactic
import Derived.BigQuiet
import Derived.Test.YtkhheooofcpfdaaGreatDoorMgD
namespace Go.Proofs.YtkhheooofcpfdaaGreatDoor
open Go.RowKit
set_option linter.unusedVariables false
def isAddr (a:Int):Bool:=decide (0≤a∧a≤4294967295)
theorem isAddr_yes {n:Int} (h0:0≤n) (h1:n≤4294967295):isAddr n=true:=by simp [isAddr,h0,h1]
theorem isAddr_no {n:Int} (h:¬ (0≤n∧n≤4294967295)):isAddr n=false:=by simpa [isAddr] using h
end Go.Proofs.YtkhheooofcpfdaaGreatDoor
namespace Go.Proofs.YtkhheooofcpfdaaGreatDoor
open Go.RowKit
set_option linter.unusedVariables false
theorem refAddr_any (n:Int) (w:World) :
  Calls Tryz.prog 66 #[.int .i64 n] w fun e w'=>e = .returned (.bool (isAddr n))∧w'=w:=by
 by_cases h0:0≤n
 ·by_cases h1:n≤4294967295
  ·rw [isAddr_yes h0 h1]
   go_enter Tryz.func66,Tryz.ntmps66
   go_wp2
   go_ret
   exact ⟨rfl,rfl⟩
  ·rw [isAddr_no (by omega)]
   go_enter Tryz.func66,Tryz.ntmps66
   go_wp2
   go_ret
   exact ⟨rfl,rfl⟩
 ·rw [isAddr_no (by omega)]
  go_enter Tryz.func66,Tryz.ntmps66
  go_wp2
  go_ret
  exact ⟨rfl,rfl⟩
end Go.Proofs.YtkhheooofcpfdaaGreatDoor
namespace Go.Proofs.YtkhheooofcpfdaaGreatDoor
open Go.RowKit
set_option linter.unusedVariables false
theorem tmod_neg {n:Int} (h:n < 0):n.tmod 4294967296 = -((-n) % 4294967296):=by
 have e:n = -(-n):=by omega
 rw [e,Int.neg_tmod,Int.tmod_eq_emod_of_nonneg (by omega)]
 simp
theorem round_any (n:Int) (w:World) :
  Calls Tryz.prog 107 #[.int .i64 n] w fun e w'=>e = .returned (.int .i64 (n % 4294967296))∧w'=w:=by
 by_cases h:0≤n
 ·have h1:0≤n % 4294967296:=by omega
  go_enter Tryz.func107,Tryz.ntmps107
  go_wp2
  go_ret
  exact ⟨rfl,rfl⟩
 ·have hn:n < 0:=by omega
  obtain ⟨r,hr⟩:∃ r,n.tmod 4294967296=r:=⟨_,rfl⟩
  have e:=tmod_neg hn
  rw [hr] at e
  obtain ⟨z,HZ⟩:∃ z,Hid (z=n % 4294967296):=⟨_,rfl⟩
  rw [← HZ.out]
  have r1 : -4294967296 < r:=by omega
  have r2:r≤0:=by omega
  by_cases h0:r < 0
  ·have E:Hid (r+4294967296=z):=by show r+4294967296=z;rw [HZ.out];omega
   clear e
   go_enter Tryz.func107,Tryz.ntmps107
   go_wp2
   go_ret
   exact ⟨ret_int E.out,rfl⟩
  ·have E:Hid (r=z):=by show r=z;rw [HZ.out];omega
   clear e
   go_enter Tryz.func107,Tryz.ntmps107
   go_wp2
   go_ret
   exact ⟨ret_int E.out,rfl⟩
theorem near_eq (a b most:Int) (h0:0≤most) (h1:most≤1073741824):nearB a b most=(decide ((a % 4294967296 - b % 4294967296) % 4294967296≤most) || decide ((b % 4294967296 - a % 4294967296) % 4294967296≤most)):=by
 unfold nearB
 rw [upB_yes h0 h1,Bool.true_and,← Bool.decide_or,decide_eq_decide]
 omega
theorem refNear_any (a b most:Int) (w:World) :
  Calls Tryz.prog 85 #[.int .i64 a,.int .i64 b,.int .i64 most] w fun e w'=>e = .returned (.bool (nearB a b most))∧w'=w:=by
 by_cases h0:most < 0
 ·rw [show nearB a b most=false by unfold nearB;rw [show upB most 1073741824=false by simp [upB];omega];rfl]
  go_enter Tryz.func85,Tryz.ntmps85
  go_wp2
  go_ret
  exact ⟨rfl,rfl⟩
 by_cases h1:1073741824 < most
 ·rw [show nearB a b most=false by unfold nearB;rw [show upB most 1073741824=false by simp [upB];omega];rfl]
  go_enter Tryz.func85,Tryz.ntmps85
  go_wp2
  go_ret
  exact ⟨rfl,rfl⟩
 ·rw [near_eq a b most (by omega) (by omega)]
  have c1:=fun W=>round_any a W
  have c2:=fun W=>round_any b W
  have x1:0≤a % 4294967296∧a % 4294967296 < 4294967296:=by omega
  have y1:0≤b % 4294967296∧b % 4294967296 < 4294967296:=by omega
  generalize a % 4294967296=x at *
  generalize b % 4294967296=y at *
  have c3:=fun W=>round_any (x - y) W
  have c4:=fun W=>round_any (y - x) W
  generalize (x - y) % 4294967296=d at *
  generalize (y - x) % 4294967296=f at *
  have m0:True:=trivial
  by_cases hd:d≤most
  ·rw [show (decide (d≤most) || decide (f≤most))=true by simp [hd]]
   go_enter Tryz.func85,Tryz.ntmps85
   go_wp2_with (first
    | (go_at_call 107;have m1:True:=m0;clear m0;refine (c1 _).mono ?_;rintro e w' ⟨rfl,rfl⟩)
    | (go_at_call 107;have m2:True:=m1;clear m1;refine (c2 _).mono ?_;rintro e w' ⟨rfl,rfl⟩)
    | (go_at_call 107;have m3:True:=m2;clear m2;refine (c3 _).mono ?_;rintro e w' ⟨rfl,rfl⟩)
    | (go_at_call 107;have m4:True:=m3;clear m3;refine (c4 _).mono ?_;rintro e w' ⟨rfl,rfl⟩))
   go_ret
   exact ⟨rfl,rfl⟩
  ·go_enter Tryz.func85,Tryz.ntmps85
   go_wp2_with (first
    | (go_at_call 107;have m1:True:=m0;clear m0;refine (c1 _).mono ?_;rintro e w' ⟨rfl,rfl⟩)
    | (go_at_call 107;have m2:True:=m1;clear m1;refine (c2 _).mono ?_;rintro e w' ⟨rfl,rfl⟩)
    | (go_at_call 107;have m3:True:=m2;clear m2;refine (c3 _).mono ?_;rintro e w' ⟨rfl,rfl⟩)
    | (go_at_call 107;have m4:True:=m3;clear m3;refine (c4 _).mono ?_;rintro e w' ⟨rfl,rfl⟩))
   go_ret
   exact ⟨rfl,rfl⟩
theorem near_any (a b most:Int) (w:World) :
  Calls Tryz.prog 128 #[.int .i64 a,.int .i64 b,.int .i64 most] w fun e w'=>e = .returned (.bool (nearB a b most))∧w'=w:=by
 rcases hu:upB most 1073741824 with _|_
 ·rw [show nearB a b most=false by unfold nearB;rw [hu];rfl]
  go_enter Tryz.func128,Tryz.ntmps128
  go_wp2_with (go_at_call 125;refine (sgUp_any _ _ _).mono ?_;rintro e w' ⟨rfl,rfl⟩)
  go_ret
  exact ⟨rfl,rfl⟩
 ·have hm:=of_upB hu
  obtain ⟨d,hd⟩:∃ d,IntKind.i64.wrap (a - b)=d:=⟨_,rfl⟩
  obtain ⟨f,hf⟩:∃ f,IntKind.i64.wrap (d+most)=f:=⟨_,rfl⟩
  obtain ⟨z,hz⟩:∃ z,IntKind.u32.wrap f=z:=⟨_,rfl⟩
  have h2:IntKind.u32.wrap (2 * most)=2 * most:=by rw [IntKind.wrap_u32];omega
  have E:Hid (z=(a - b+most) % 4294967296):=by
   show z=_
   rw [← hz,← hf,← hd,IntKind.wrap_u32,IntKind.wrap_i64,IntKind.wrap_i64];omega
  have ER:nearB a b most=decide (z≤2 * most):=by unfold nearB;rw [hu,E.out,Bool.true_and]
  rw [ER]
  clear E ER
  go_enter Tryz.func128,Tryz.ntmps128
  go_wp2_with (go_at_call 125;refine (sgUp_any _ _ _).mono ?_;rintro e w' ⟨rfl,rfl⟩)
  go_ret
  exact ⟨rfl,rfl⟩
end Go.Proofs.YtkhheooofcpfdaaGreatDoor
