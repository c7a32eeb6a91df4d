/- Two facts on the program that every row of this seat asks. -/
import Derived.Test.YtkhheooofcpfdaaGreatDoorRows
import Derived.WalkKit
import Derived.ProofKit
import Derived.OpenShut
import Derived.ShutString
import Derived.ChangeOld
import Derived.Below
import Derived.SizedLaws
import Derived.LaidLaws
import Derived.LaidHandle
import Derived.RowKitTokens
import Derived.Deep.DeepHandedRow
import Derived.Test.YtkhheooofcpfdaaGreatDoorMgB
import Derived.Lib.SmallJoins
import Derived.Deep.Slices
import Derived.Test.YtkhheooofcpfdaaGreatDoorMgC
import Derived.Test.YtkhheooofcpfdaaGreatDoorMgA
namespace Go.Proofs.YtkhheooofcpfdaaGreatDoor
open Go.ChangeShapes Go.WideShapes Go.ChangeAt Go.RowKit
set_option linter.unusedVariables false
theorem own:ownKnob Tryz.prog.godebug=none:=by kernel_rfl
theorem laidOut:laidOutB Tryz.prog=true:=by kernel_rfl
end Go.Proofs.YtkhheooofcpfdaaGreatDoor
namespace Go.Proofs.YtkhheooofcpfdaaGreatDoor
open Go.ChangeShapes Go.WideShapes Go.ChangeAt Go.RowKit
set_option linter.unusedVariables false
theorem u8_wf {n:Int} (h:(Lit.int .u8 n).wf=true):0≤n∧n≤255:=by
 have:=bounds_u8 h;omega
theorem open_bytes {H:Type} {enc:TypeId × Value→H} {W:World} {a:Option Addr} {len cap:Nat} {d:DataW H} {p:List MemPlace} {ts:List TypeId} {ds:List (DataW H)} {j:Nat}
  (h:DataW.Trod enc Tryz.prog W 0 (fun _=>true) true 39 (Value.slice a len cap) d p)
  (hsz:(DataW.weightsEach Tryz.prog ts ds).all (·≤reachBytes)=true) (ht:ts[j]? = some 39) (hd:ds[j]? = some d) :
  ∃ zs,Bytes W (.slice a len cap) zs∧cap≤reachBytes∧zs.length≤cap:=by
 obtain ⟨fuel,hf⟩:=h
 rcases open_ints Tryz.underlying39 Tryz.underlying5 (by kernel_rfl) hf with ⟨hcs,_⟩|⟨x,l,c,zs,hcs,_,hl,hm,hz,hx,hcell,hwz⟩
 ·simp [Value.cells] at hcs
  obtain ⟨rfl,rfl,rfl⟩:=hcs
  exact ⟨[],.inl ⟨rfl,_,_,rfl,fun _=>rfl⟩,by decide,by simp⟩
 ·simp [Value.cells] at hcs
  obtain ⟨rfl,rfl,rfl⟩:=hcs
  have hz':zs.length=cap:=by simpa using hz
  simp only [Prod.mk.injEq] at hx
  obtain ⟨rfl,_⟩:=hx
  have hb:=sized_slice hsz ht hd Tryz.underlying39
  rw [show Tryz.prog.bytesOf 5=1 by kernel_rfl] at hb
  have hcap:cap≤reachBytes:=by simpa [lits,hz',Nat.min_eq_left hl,Nat.add_sub_cancel' hl] using hb
  have hcb:reachBytes < 2 ^ 47:=reachBytes_lt
  refine ⟨zs.take len,?_,hcap,by simp;omega⟩
  by_cases h0:len=0
  ·subst h0
   exact .inl ⟨by simp,_,_,rfl,fun h=>by cases h⟩
  ·obtain ⟨b,off,spot⟩:=x
   have hc:=hcell 0 (by omega)
   have hspot:spot=none:=by simpa [Addr.add] using World.cell?_spot hc
   subst hspot
   refine .inr ⟨b,off,len,cap,rfl,hl,hm,by omega,by simp;omega,fun i hi=>?_,fun n hn=>u8_wf (hwz n (List.mem_of_mem_take hn))⟩
   have hi':i < len:=by simp at hi;omega
   have:=hcell i (by omega)
   have ea:Addr.add ⟨b,off,none⟩ i=⟨b,off+i,none⟩:=by by_cases hi0:i=0 <;> simp [Addr.add,hi0]
   rw [ea] at this
   rw [this]
   congr 2
   simp [List.getD,hi']
end Go.Proofs.YtkhheooofcpfdaaGreatDoor
namespace Go.Proofs.YtkhheooofcpfdaaGreatDoor
open Go.ChangeShapes Go.WideShapes Go.ChangeAt Go.RowKit Go.Joins Go.Deep
set_option linter.unusedVariables false
theorem open_body {H:Type} {enc:TypeId × Value→H} {W:World} {fuel:Nat} {cs:List Value} {y:DataW H × List MemPlace} (hf:DataW.trod enc Tryz.prog W 0 (fun _=>true) true fuel 39 cs=some y)
  (hw:∀ n ∈ y.1.weights Tryz.prog 39,n≤reachBytes):∃ bv zs,cs=[bv]∧Bytes W bv zs:=by
 rcases open_ints Tryz.underlying39 Tryz.underlying5 (by kernel_rfl) hf with ⟨hcs,_⟩|⟨x,len,cap,zs,hcs,_,hl,hm,hz,hx,hcell,hwz⟩
 ·exact ⟨_,[],hcs,.inl ⟨rfl,_,_,rfl,fun _=>rfl⟩⟩
 ·have hz':zs.length=cap:=by simpa using hz
  subst hx
  have hb:=hw _ (by simp only [DataW.weights,Tryz.underlying39];exact List.mem_cons_self)
  rw [show Tryz.prog.bytesOf 5=1 by kernel_rfl] at hb
  have hcap:cap≤reachBytes:=by simpa [lits,hz',Nat.min_eq_left hl,Nat.add_sub_cancel' hl] using hb
  have hcb:reachBytes < 2 ^ 47:=reachBytes_lt
  refine ⟨_,zs.take len,hcs,?_⟩
  by_cases h0:len=0
  ·subst h0
   exact .inl ⟨by simp,_,_,rfl,fun h=>by cases h⟩
  ·obtain ⟨b,off,spot⟩:=x
   have hc:=hcell 0 (by omega)
   have hspot:spot=none:=by simpa [Addr.add] using World.cell?_spot hc
   subst hspot
   refine .inr ⟨b,off,len,cap,rfl,hl,hm,by omega,by simp;omega,fun i hi=>?_,fun n hn=>u8_wf (hwz n (List.mem_of_mem_take hn))⟩
   have hi':i < len:=by simp at hi;omega
   have:=hcell i (by omega)
   have ea:Addr.add ⟨b,off,none⟩ i=⟨b,off+i,none⟩:=by by_cases hi0:i=0 <;> simp [Addr.add,hi0]
   rw [ea] at this
   rw [this]
   congr 2
   simp [List.getD,hi']
end Go.Proofs.YtkhheooofcpfdaaGreatDoor
namespace Go.Proofs.YtkhheooofcpfdaaGreatDoor
open Go.ChangeShapes Go.WideShapes Go.ChangeAt Go.RowKit Go.Joins Go.Deep
set_option linter.unusedVariables false
theorem list7 {α:Type} {cs:List α} (h:cs.length=7):∃ c0 c1 c2 c3 c4 c5 c6,cs=[c0,c1,c2,c3,c4,c5,c6]:=by
 match cs,h with
 | [c0,c1,c2,c3,c4,c5,c6],_=>exact ⟨c0,c1,c2,c3,c4,c5,c6,rfl⟩
section
variable {H:Type} {enc:TypeId × Value→H} {P:Program} {w:World} {base:Nat} {spare:Nat→Bool} {held:Bool}
set_option maxRecDepth 100000 in
theorem open_struct7 {t:TypeId} {f0 f1 f2 f3 f4 f5 f6:Field} {fuel:Nat} {cs:List Value} {x:DataW H × List MemPlace} (ht:P.underlying t=some (.struct #[f0,f1,f2,f3,f4,f5,f6])) (hone:oneCellFields P #[f0,f1,f2,f3,f4,f5,f6]=true) (hC:P.cellsOf t=7) (h:DataW.trod enc P w base spare held fuel t cs=some x) :
  ∃ (c0 c1 c2 c3 c4 c5 c6:Value) (y0 y1 y2 y3 y4 y5 y6:DataW H × List MemPlace) (n:Nat),cs=[c0,c1,c2,c3,c4,c5,c6]∧x.1 = .agg [y0.1,y1.1,y2.1,y3.1,y4.1,y5.1,y6.1] ∧
   DataW.trod enc P w base spare held n f0.type [c0]=some y0∧DataW.trod enc P w base spare held n f1.type [c1]=some y1∧DataW.trod enc P w base spare held n f2.type [c2]=some y2∧DataW.trod enc P w base spare held n f3.type [c3]=some y3∧DataW.trod enc P w base spare held n f4.type [c4]=some y4∧DataW.trod enc P w base spare held n f5.type [c5]=some y5∧DataW.trod enc P w base spare held n f6.type [c6]=some y6:=by
 obtain ⟨xs,n,_,rfl,hl,hlen,hf⟩:=DataW.trod_struct ht h
 obtain ⟨c0,c1,c2,c3,c4,c5,c6,rfl⟩:=list7 (hl.trans hC)
 obtain ⟨y0,y1,y2,y3,y4,y5,y6,rfl⟩:=list7 (α:=DataW H × List MemPlace) (cs:=xs) hlen
 obtain ⟨o0,k0⟩:=hone_of hone 0 f0 rfl
 obtain ⟨o1,k1⟩:=hone_of hone 1 f1 rfl
 obtain ⟨o2,k2⟩:=hone_of hone 2 f2 rfl
 obtain ⟨o3,k3⟩:=hone_of hone 3 f3 rfl
 obtain ⟨o4,k4⟩:=hone_of hone 4 f4 rfl
 obtain ⟨o5,k5⟩:=hone_of hone 5 f5 rfl
 obtain ⟨o6,k6⟩:=hone_of hone 6 f6 rfl
 have h0:=hf 0 f0 rfl
 have h1:=hf 1 f1 rfl
 have h2:=hf 2 f2 rfl
 have h3:=hf 3 f3 rfl
 have h4:=hf 4 f4 rfl
 have h5:=hf 5 f5 rfl
 have h6:=hf 6 f6 rfl
 rw [o0,k0] at h0
 rw [o1,k1] at h1
 rw [o2,k2] at h2
 rw [o3,k3] at h3
 rw [o4,k4] at h4
 rw [o5,k5] at h5
 rw [o6,k6] at h6
 exact ⟨c0,c1,c2,c3,c4,c5,c6,y0,y1,y2,y3,y4,y5,y6,n,rfl,rfl,h0,h1,h2,h3,h4,h5,h6⟩
end
theorem Tryz.cellsSg:Tryz.prog.cellsOf 41=7:=by kernel_rfl
end Go.Proofs.YtkhheooofcpfdaaGreatDoor
namespace Go.Proofs.YtkhheooofcpfdaaGreatDoor
open Go.ChangeShapes Go.WideShapes Go.ChangeAt Go.RowKit Go.Joins Go.Deep
set_option linter.unusedVariables false
theorem list5 {α:Type} {cs:List α} (h:cs.length=5):∃ c0 c1 c2 c3 c4,cs=[c0,c1,c2,c3,c4]:=by
 match cs,h with
 | [c0,c1,c2,c3,c4],_=>exact ⟨c0,c1,c2,c3,c4,rfl⟩
section
variable {H:Type} {enc:TypeId × Value→H} {P:Program} {w:World} {base:Nat} {spare:Nat→Bool} {held:Bool}
set_option maxRecDepth 100000 in
theorem open_struct5 {t:TypeId} {f0 f1 f2 f3 f4:Field} {fuel:Nat} {cs:List Value} {x:DataW H × List MemPlace} (ht:P.underlying t=some (.struct #[f0,f1,f2,f3,f4])) (hone:oneCellFields P #[f0,f1,f2,f3,f4]=true) (hC:P.cellsOf t=5) (h:DataW.trod enc P w base spare held fuel t cs=some x) :
  ∃ (c0 c1 c2 c3 c4:Value) (y0 y1 y2 y3 y4:DataW H × List MemPlace) (n:Nat),cs=[c0,c1,c2,c3,c4]∧x.1 = .agg [y0.1,y1.1,y2.1,y3.1,y4.1] ∧
   DataW.trod enc P w base spare held n f0.type [c0]=some y0∧DataW.trod enc P w base spare held n f1.type [c1]=some y1∧DataW.trod enc P w base spare held n f2.type [c2]=some y2∧DataW.trod enc P w base spare held n f3.type [c3]=some y3∧DataW.trod enc P w base spare held n f4.type [c4]=some y4:=by
 obtain ⟨xs,n,_,rfl,hl,hlen,hf⟩:=DataW.trod_struct ht h
 obtain ⟨c0,c1,c2,c3,c4,rfl⟩:=list5 (hl.trans hC)
 obtain ⟨y0,y1,y2,y3,y4,rfl⟩:=list5 (α:=DataW H × List MemPlace) (cs:=xs) hlen
 obtain ⟨o0,k0⟩:=hone_of hone 0 f0 rfl
 obtain ⟨o1,k1⟩:=hone_of hone 1 f1 rfl
 obtain ⟨o2,k2⟩:=hone_of hone 2 f2 rfl
 obtain ⟨o3,k3⟩:=hone_of hone 3 f3 rfl
 obtain ⟨o4,k4⟩:=hone_of hone 4 f4 rfl
 have h0:=hf 0 f0 rfl
 have h1:=hf 1 f1 rfl
 have h2:=hf 2 f2 rfl
 have h3:=hf 3 f3 rfl
 have h4:=hf 4 f4 rfl
 rw [o0,k0] at h0
 rw [o1,k1] at h1
 rw [o2,k2] at h2
 rw [o3,k3] at h3
 rw [o4,k4] at h4
 exact ⟨c0,c1,c2,c3,c4,y0,y1,y2,y3,y4,n,rfl,rfl,h0,h1,h2,h3,h4⟩
end
theorem Tryz.cellsKy:Tryz.prog.cellsOf 37=5:=by kernel_rfl
end Go.Proofs.YtkhheooofcpfdaaGreatDoor
namespace Go.Proofs.YtkhheooofcpfdaaGreatDoor
open Go.ChangeShapes Go.WideShapes Go.ChangeAt Go.RowKit Go.Joins Go.Deep
set_option linter.unusedVariables false
theorem list15 {α:Type} {cs:List α} (h:cs.length=15):∃ c0 c1 c2 c3 c4 c5 c6 c7 c8 c9 c10 c11 c12 c13 c14,cs=[c0,c1,c2,c3,c4,c5,c6,c7,c8,c9,c10,c11,c12,c13,c14]:=by
 match cs,h with
 | [c0,c1,c2,c3,c4,c5,c6,c7,c8,c9,c10,c11,c12,c13,c14],_=>exact ⟨c0,c1,c2,c3,c4,c5,c6,c7,c8,c9,c10,c11,c12,c13,c14,rfl⟩
theorem list8f {α:Type} {cs:List α} (h:cs.length=8):∃ c0 c1 c2 c3 c4 c5 c6 c7,cs=[c0,c1,c2,c3,c4,c5,c6,c7]:=by
 match cs,h with
 | [c0,c1,c2,c3,c4,c5,c6,c7],_=>exact ⟨c0,c1,c2,c3,c4,c5,c6,c7,rfl⟩
theorem list2f {α:Type} {cs:List α} (h:cs.length=2):∃ c0 c1,cs=[c0,c1]:=by
 match cs,h with
 | [c0,c1],_=>exact ⟨c0,c1,rfl⟩
theorem Tryz.cellsFl:Tryz.prog.cellsOf 45=15:=by kernel_rfl
theorem Tryz.cellsIf:Tryz.prog.cellsOf 3=1:=by kernel_rfl
theorem Tryz.cellsBf:Tryz.prog.cellsOf 4=1:=by kernel_rfl
theorem Tryz.cellsA2:Tryz.prog.cellsOf 42=2:=by kernel_rfl
theorem Tryz.cellsB2:Tryz.prog.cellsOf 43=2:=by kernel_rfl
section
variable {H:Type} {enc:TypeId × Value→H} {W:World} {fuel:Nat} {y:DataW H × List MemPlace}
set_option maxRecDepth 100000 in
theorem open_kycells {c0 c1 c2 c3 c4:Value} (h:DataW.trod enc Tryz.prog W 0 (fun _=>true) true fuel 37 [c0,c1,c2,c3,c4]=some y):∃ k:Ky,c0 = .int .i64 k.kind∧c1 = .int .i64 k.src∧c2 = .int .i64 k.frm∧c3 = .int .i64 k.dst∧c4 = .int .i64 k.too:=by
 obtain ⟨d0,d1,d2,d3,d4,y0,y1,y2,y3,y4,n,e,hx,h0,h1,h2,h3,h4⟩:=open_struct5 Tryz.underlying37 (by kernel_rfl) Tryz.cellsKy h
 simp only [List.cons.injEq,and_true] at e
 obtain ⟨rfl,rfl,rfl,rfl,rfl⟩:=e
 obtain ⟨n0,e0,_,_⟩:=DataW.trod_int Tryz.underlying3 h0
 obtain ⟨n1,e1,_,_⟩:=DataW.trod_int Tryz.underlying3 h1
 obtain ⟨n2,e2,_,_⟩:=DataW.trod_int Tryz.underlying3 h2
 obtain ⟨n3,e3,_,_⟩:=DataW.trod_int Tryz.underlying3 h3
 obtain ⟨n4,e4,_,_⟩:=DataW.trod_int Tryz.underlying3 h4
 simp only [List.cons.injEq,and_true] at e0 e1 e2 e3 e4
 exact ⟨{ kind:=n0,src:=n1,frm:=n2,dst:=n3,too:=n4 },e0,e1,e2,e3,e4⟩
set_option maxRecDepth 100000 in
theorem open_ar2 {c0 c1:Value} (h:DataW.trod enc Tryz.prog W 0 (fun _=>true) true fuel 42 [c0,c1]=some y):∃ a b:Int,c0 = .int .i64 a∧c1 = .int .i64 b:=by
 obtain ⟨xs,m,_,hx,hl,hlen,hf⟩:=DataW.trod_array Tryz.underlying42 h
 obtain ⟨z0,z1,rfl⟩:=list2f hlen
 have g0:=hf 0 (by omega)
 have g1:=hf 1 (by omega)
 rw [Tryz.cellsIf] at g0 g1
 have g0':DataW.trod enc Tryz.prog W 0 (fun _=>true) true m 3 [c0]=some z0:=g0
 have g1':DataW.trod enc Tryz.prog W 0 (fun _=>true) true m 3 [c1]=some z1:=g1
 obtain ⟨i0,e0,_,_⟩:=DataW.trod_int Tryz.underlying3 g0'
 obtain ⟨i1,e1,_,_⟩:=DataW.trod_int Tryz.underlying3 g1'
 simp only [List.cons.injEq,and_true] at e0 e1
 exact ⟨i0,i1,e0,e1⟩
set_option maxRecDepth 100000 in
theorem open_ab2 {c0 c1:Value} (h:DataW.trod enc Tryz.prog W 0 (fun _=>true) true fuel 43 [c0,c1]=some y):∃ a b:Bool,c0 = .bool a∧c1 = .bool b:=by
 obtain ⟨xs,m,_,hx,hl,hlen,hf⟩:=DataW.trod_array Tryz.underlying43 h
 obtain ⟨z0,z1,rfl⟩:=list2f hlen
 have g0:=hf 0 (by omega)
 have g1:=hf 1 (by omega)
 rw [Tryz.cellsBf] at g0 g1
 have g0':DataW.trod enc Tryz.prog W 0 (fun _=>true) true m 4 [c0]=some z0:=g0
 have g1':DataW.trod enc Tryz.prog W 0 (fun _=>true) true m 4 [c1]=some z1:=g1
 obtain ⟨i0,e0,_⟩:=DataW.trod_bool Tryz.underlying4 g0'
 obtain ⟨i1,e1,_⟩:=DataW.trod_bool Tryz.underlying4 g1'
 simp only [List.cons.injEq,and_true] at e0 e1
 exact ⟨i0,i1,e0,e1⟩
set_option maxRecDepth 100000 in
theorem open_flcells {cs:List Value} (h:DataW.trod enc Tryz.prog W 0 (fun _=>true) true fuel 45 cs=some y):∃ f:Fl,cs=[.int .i64 f.key.kind,.int .i64 f.key.src,.int .i64 f.key.frm,.int .i64 f.key.dst,.int .i64 f.key.too,.int .i64 f.st,.int .i64 f.unt,.int .i64 f.stp,.int .i64 f.h0,.int .i64 f.h1,.int .i64 f.w0,.int .i64 f.w1,.bool f.d0,.bool f.d1,.int .i64 f.num]:=by
 obtain ⟨xs,n,_,rfl,hl,hlen,hf⟩:=DataW.trod_struct Tryz.underlying45 h
 obtain ⟨c0,c1,c2,c3,c4,c5,c6,c7,c8,c9,c10,c11,c12,c13,c14,rfl⟩:=list15 (hl.trans Tryz.cellsFl)
 obtain ⟨y0,y1,y2,y3,y4,y5,y6,y7,rfl⟩:=list8f (α:=DataW H × List MemPlace) (cs:=xs) hlen
 have h0:DataW.trod enc Tryz.prog W 0 (fun _=>true) true n 37 (List.take (Tryz.prog.cellsOf 37) [c0,c1,c2,c3,c4,c5,c6,c7,c8,c9,c10,c11,c12,c13,c14])=some y0:=hf 0 _ rfl
 have h1:DataW.trod enc Tryz.prog W 0 (fun _=>true) true n 3 (List.take (Tryz.prog.cellsOf 3) [c5,c6,c7,c8,c9,c10,c11,c12,c13,c14])=some y1:=hf 1 _ rfl
 have h2:DataW.trod enc Tryz.prog W 0 (fun _=>true) true n 3 (List.take (Tryz.prog.cellsOf 3) [c6,c7,c8,c9,c10,c11,c12,c13,c14])=some y2:=hf 2 _ rfl
 have h3:DataW.trod enc Tryz.prog W 0 (fun _=>true) true n 3 (List.take (Tryz.prog.cellsOf 3) [c7,c8,c9,c10,c11,c12,c13,c14])=some y3:=hf 3 _ rfl
 have h4:DataW.trod enc Tryz.prog W 0 (fun _=>true) true n 42 (List.take (Tryz.prog.cellsOf 42) [c8,c9,c10,c11,c12,c13,c14])=some y4:=hf 4 _ rfl
 have h5:DataW.trod enc Tryz.prog W 0 (fun _=>true) true n 42 (List.take (Tryz.prog.cellsOf 42) [c10,c11,c12,c13,c14])=some y5:=hf 5 _ rfl
 have h6:DataW.trod enc Tryz.prog W 0 (fun _=>true) true n 43 (List.take (Tryz.prog.cellsOf 43) [c12,c13,c14])=some y6:=hf 6 _ rfl
 have h7:DataW.trod enc Tryz.prog W 0 (fun _=>true) true n 3 (List.take (Tryz.prog.cellsOf 3) [c14])=some y7:=hf 7 _ rfl
 rw [Tryz.cellsKy] at h0
 rw [Tryz.cellsIf] at h1 h2 h3 h7
 rw [Tryz.cellsA2] at h4 h5
 rw [Tryz.cellsB2] at h6
 obtain ⟨k,e0,e1,e2,e3,e4⟩:=open_kycells (c0:=c0) (c1:=c1) (c2:=c2) (c3:=c3) (c4:=c4) h0
 obtain ⟨n1,e5,_,_⟩:=DataW.trod_int Tryz.underlying3 h1
 obtain ⟨n2,e6,_,_⟩:=DataW.trod_int Tryz.underlying3 h2
 obtain ⟨n3,e7,_,_⟩:=DataW.trod_int Tryz.underlying3 h3
 obtain ⟨a8,a9,e8,e9⟩:=open_ar2 (c0:=c8) (c1:=c9) h4
 obtain ⟨a10,a11,e10,e11⟩:=open_ar2 (c0:=c10) (c1:=c11) h5
 obtain ⟨b12,b13,e12,e13⟩:=open_ab2 (c0:=c12) (c1:=c13) h6
 obtain ⟨n7,e14,_,_⟩:=DataW.trod_int Tryz.underlying3 h7
 simp at e5 e6 e7 e14
 subst e0 e1 e2 e3 e4 e5 e6 e7 e8 e9 e10 e11 e12 e13 e14
 exact ⟨{ key:=k,st:=n1,unt:=n2,stp:=n3,h0:=a8,h1:=a9,w0:=a10,w1:=a11,d0:=b12,d1:=b13,num:=n7 },rfl⟩
end
end Go.Proofs.YtkhheooofcpfdaaGreatDoor
namespace Go.Proofs.YtkhheooofcpfdaaGreatDoor
open Go.ChangeShapes Go.WideShapes Go.ChangeAt Go.RowKit
set_option linter.unusedVariables false
def Nums (w:World) (v:Value) (zs:List Int):Prop :=
 (zs=[]∧∃ a cap,v = .slice a 0 cap) ∨
 ∃ b off len cap,v = .slice (some ⟨b,off,none⟩) len cap∧len≤cap∧cap≤maxLen∧zs.length=len∧b < w.heap.size∧∀ i,i < zs.length→w.cell? ⟨b,off+i,none⟩=some (.int .i64 (zs.getD i 0))
theorem open_nums {H:Type} {enc:TypeId × Value→H} {W:World} {a:Option Addr} {len cap:Nat} {d:DataW H} {p:List MemPlace} {ts:List TypeId} {ds:List (DataW H)} {j:Nat}
  (h:DataW.Trod enc Tryz.prog W 0 (fun _=>true) true 35 (Value.slice a len cap) d p)
  (hsz:(DataW.weightsEach Tryz.prog ts ds).all (·≤reachBytes)=true) (ht:ts[j]? = some 35) (hd:ds[j]? = some d) :
  ∃ zs,Nums W (.slice a len cap) zs∧zs.length≤140737488355328:=by
 obtain ⟨fuel,hf⟩:=h
 rcases open_ints Tryz.underlying35 Tryz.underlying3 (by kernel_rfl) hf with ⟨hcs,_⟩|⟨x,l,c,zs,hcs,_,hl,hm,hz,hx,hcell,hwz⟩
 ·simp [Value.cells] at hcs
  obtain ⟨rfl,rfl,rfl⟩:=hcs
  exact ⟨[],.inl ⟨rfl,_,_,rfl⟩,by simp⟩
 ·simp [Value.cells] at hcs
  obtain ⟨rfl,rfl,rfl⟩:=hcs
  have hz':zs.length=cap:=by simpa using hz
  simp only [Prod.mk.injEq] at hx
  obtain ⟨rfl,_⟩:=hx
  have hb:=sized_slice hsz ht hd Tryz.underlying35
  rw [show Tryz.prog.bytesOf 3=8 by kernel_rfl] at hb
  have hcap:cap * 8≤reachBytes:=by simpa [lits,hz',Nat.min_eq_left hl,Nat.add_sub_cancel' hl] using hb
  have hcb:reachBytes < 2 ^ 47:=reachBytes_lt
  refine ⟨zs.take len,?_,by simp;omega⟩
  by_cases h0:len=0
  ·subst h0
   exact .inl ⟨by simp,_,_,rfl⟩
  ·obtain ⟨b,off,spot⟩:=x
   have hc:=hcell 0 (by omega)
   have hspot:spot=none:=by simpa [Addr.add] using World.cell?_spot hc
   subst hspot
   have hlt:b < W.heap.size:=by
    rcases Nat.lt_or_ge b W.heap.size with h1|h1
    ·exact h1
    ·simp [World.cell?,Addr.add,Array.getElem?_eq_none h1] at hc
   refine .inr ⟨b,off,len,cap,rfl,hl,hm,by simp;omega,hlt,fun i hi=>?_⟩
   have hi':i < len:=by simp at hi;omega
   have:=hcell i (by omega)
   have ea:Addr.add ⟨b,off,none⟩ i=⟨b,off+i,none⟩:=by by_cases hi0:i=0 <;> simp [Addr.add,hi0]
   rw [ea] at this
   rw [this]
   congr 2
   simp [List.getD,hi']
end Go.Proofs.YtkhheooofcpfdaaGreatDoor
namespace Go.Proofs.YtkhheooofcpfdaaGreatDoor
open Go.ChangeShapes Go.WideShapes Go.ChangeAt Go.RowKit Go.Joins Go.Deep
set_option linter.unusedVariables false
def SgCells (w:World) (b o:Nat) (s:Sg) (bv:Value):Prop :=
 (w.cell? ⟨b,o,none⟩=some (.int .i64 s.frm)∧w.cell? ⟨b,o+1,none⟩=some (.int .i64 s.too)∧w.cell? ⟨b,o+2,none⟩=some (.int .i64 s.seq)∧w.cell? ⟨b,o+3,none⟩=some (.int .i64 s.ack) ∧
  w.cell? ⟨b,o+4,none⟩=some (.int .i64 s.win)∧w.cell? ⟨b,o+5,none⟩=some (.int .i64 s.flg)∧w.cell? ⟨b,o+6,none⟩=some bv)∧Bytes w bv s.body
def Sgs (w:World) (v:Value) (ss:List (Sg × Value)):Prop :=
 (ss=[]∧∃ a cap,v = .slice a 0 cap) ∨
 ∃ b off len cap,v = .slice (some ⟨b,off,none⟩) len cap∧len≤cap∧cap≤maxLen∧ss.length=len∧∀ i (h:i < ss.length),SgCells w b (off+i * 7) ss[i].1 ss[i].2
theorem SgCells.lt {w:World} {b o:Nat} {s:Sg} {bv:Value} (h:SgCells w b o s bv):b < w.heap.size:=by
 rcases Nat.lt_or_ge b w.heap.size with h1|h1
 ·exact h1
 ·have:=h.1.1;simp [World.cell?,Array.getElem?_eq_none h1] at this
theorem SgCells.below {w w':World} {b o:Nat} {s:Sg} {bv:Value} (h:SgCells w b o s bv) (hb:Below w.heap.size w w'):SgCells w' b o s bv:=by
 have hl:=h.lt
 obtain ⟨⟨h0,h1,h2,h3,h4,h5,h6⟩,h8⟩:=h
 refine ⟨⟨?_,?_,?_,?_,?_,?_,?_⟩,h8.below (Nat.le_refl _) hb⟩
 ·rw [hb.cell (p:=⟨b,o,none⟩) hl];exact h0
 ·rw [hb.cell (p:=⟨b,o+1,none⟩) hl];exact h1
 ·rw [hb.cell (p:=⟨b,o+2,none⟩) hl];exact h2
 ·rw [hb.cell (p:=⟨b,o+3,none⟩) hl];exact h3
 ·rw [hb.cell (p:=⟨b,o+4,none⟩) hl];exact h4
 ·rw [hb.cell (p:=⟨b,o+5,none⟩) hl];exact h5
 ·rw [hb.cell (p:=⟨b,o+6,none⟩) hl];exact h6
theorem choose_seg {α:Type} {P:Nat→α→Prop}:∀ (n:Nat),(∀ i,i < n→∃ a,P i a)→∃ l:List α,l.length=n∧∀ i (h:i < l.length),P i l[i]
 | 0,_=>⟨[],rfl,fun i h=>by simp at h⟩
 | n+1,H=>by
   obtain ⟨l,hl,hp⟩:=choose_seg n (fun i hi=>H i (by omega))
   obtain ⟨a,ha⟩:=H n (by omega)
   refine ⟨l++[a],by simp [hl],fun i hi=>?_⟩
   by_cases h:i < l.length
   ·rw [List.getElem_append_left h];exact hp i h
   ·have e:i=n:=by simp at hi;omega
    subst e
    subst hl
    simpa using ha
theorem mem_weightsSg {H:Type} {P:Program} {e:TypeId}:∀ {l:List (DataW H)} {d:DataW H},d ∈ l→∀ n ∈ d.weights P e,n ∈ DataW.weightsAll P e l
 | [],d,h,n,hn=>by cases h
 | a :: l,d,h,n,hn=>by
   rcases List.mem_cons.1 h with rfl|h
   ·simp only [DataW.weightsAll,List.mem_append];exact .inl hn
   ·simp only [DataW.weightsAll,List.mem_append];exact .inr (mem_weightsSg h n hn)
theorem add_lit7 (b off i:Nat):Addr.add ⟨b,off,none⟩ i=⟨b,off+i,none⟩:=by by_cases hi0:i=0 <;> simp [Addr.add,hi0]
set_option maxRecDepth 100000 in
theorem open_sgcells {H:Type} {enc:TypeId × Value→H} {W:World} {fuel:Nat} {cs:List Value} {y:DataW H × List MemPlace} (hf:DataW.trod enc Tryz.prog W 0 (fun _=>true) true fuel 41 cs=some y)
  (hw:∀ n ∈ y.1.weights Tryz.prog 41,n≤reachBytes):∃ (s:Sg) (bv:Value),cs=[.int .i64 s.frm,.int .i64 s.too,.int .i64 s.seq,.int .i64 s.ack,.int .i64 s.win,.int .i64 s.flg,bv]∧Bytes W bv s.body:=by
 obtain ⟨c0,c1,c2,c3,c4,c5,c6,y0,y1,y2,y3,y4,y5,y6,n,e,hx,h0,h1,h2,h3,h4,h5,h6⟩:=open_struct7 Tryz.underlying41 (by kernel_rfl) Tryz.cellsSg hf
 have hw6:∀ n ∈ y6.1.weights Tryz.prog 39,n≤reachBytes:=by
  intro m hm
  refine hw m ?_
  rw [hx]
  simp only [DataW.weights,Tryz.underlying41]
  exact DataW.weights_mem_each (j:=6) rfl rfl m hm
 obtain ⟨n0,e0,_,_⟩:=DataW.trod_int Tryz.underlying3 h0
 obtain ⟨n1,e1,_,_⟩:=DataW.trod_int Tryz.underlying3 h1
 obtain ⟨n2,e2,_,_⟩:=DataW.trod_int Tryz.underlying3 h2
 obtain ⟨n3,e3,_,_⟩:=DataW.trod_int Tryz.underlying3 h3
 obtain ⟨n4,e4,_,_⟩:=DataW.trod_int Tryz.underlying3 h4
 obtain ⟨n5,e5,_,_⟩:=DataW.trod_int Tryz.underlying3 h5
 obtain ⟨bv,zs,e6,hb⟩:=open_body h6 hw6
 simp only [List.cons.injEq,and_true] at e0 e1 e2 e3 e4 e5 e6
 subst e0 e1 e2 e3 e4 e5 e6
 exact ⟨{ frm:=n0,too:=n1,seq:=n2,ack:=n3,win:=n4,flg:=n5,body:=zs },_,e,hb⟩
set_option maxRecDepth 100000 in
theorem open_sgs {H:Type} {enc:TypeId × Value→H} {W:World} {a:Option Addr} {len cap:Nat} {d:DataW H} {p:List MemPlace} {ts:List TypeId} {ds:List (DataW H)} {j:Nat}
  (h:DataW.Trod enc Tryz.prog W 0 (fun _=>true) true 24 (Value.slice a len cap) d p)
  (hsz:(DataW.weightsEach Tryz.prog ts ds).all (·≤reachBytes)=true) (ht:ts[j]? = some 24) (hd:ds[j]? = some d):∃ ps,Sgs W (.slice a len cap) ps:=by
 obtain ⟨fuel,hf⟩:=h
 rcases open_slice Tryz.underlying24 hf with ⟨hcs,_⟩|⟨x,l,c,m,n,D,Pl,hcs,_,hl,hm,hmm,hx,hall⟩
 ·simp [Value.cells] at hcs
  obtain ⟨rfl,rfl,rfl⟩:=hcs
  exact ⟨[],.inl ⟨rfl,_,_,rfl⟩⟩
 ·simp [Value.cells] at hcs
  obtain ⟨rfl,rfl,rfl⟩:=hcs
  have hmc:m=cap:=by simpa using hmm
  subst hmc
  simp only [Prod.mk.injEq] at hx
  obtain ⟨rfl,_⟩:=hx
  by_cases h0:len=0
  ·subst h0
   exact ⟨[],.inl ⟨rfl,_,_,rfl⟩⟩
  have hw:∀ i,i < len→∀ n ∈ (D i).weights Tryz.prog 41,n≤reachBytes:=by
   intro i hi n hn
   have h1:n ∈ DataW.weightsAll Tryz.prog 41 ((List.range len).map D):=mem_weightsSg (List.mem_map.2 ⟨i,by simpa using hi,rfl⟩) n hn
   have h2:n ∈ (DataW.slice ((List.range len).map D) ((List.range (m - len)).map fun j=>D (len+j))).weights Tryz.prog 24:=by
    simp only [DataW.weights,Tryz.underlying24]
    exact List.mem_cons_of_mem _ (List.mem_append_left _ h1)
   have:=List.all_eq_true.1 hsz _ (DataW.weights_mem_each ht hd n h2)
   simpa using this
  obtain ⟨b,off,spot⟩:=x
  have hspot:spot=none:=by
   obtain ⟨cs',h1,_⟩:=hall 0 (by omega)
   rw [Tryz.cellsSg] at h1
   obtain ⟨_,hlen,hc⟩:=World.cells?_some h1
   have:=hc 0 (by omega)
   rw [List.getElem?_eq_getElem (by omega)] at this
   simpa [Addr.add] using World.cell?_spot this
  subst hspot
  have hone:∀ i,i < len→∃ q:Sg × Value,SgCells W b (off+i * 7) q.1 q.2:=by
   intro i hi
   obtain ⟨cs',h1,h2⟩:=hall i (by omega)
   rw [Tryz.cellsSg] at h1
   obtain ⟨_,hlen,hc⟩:=World.cells?_some h1
   obtain ⟨q,bv,e,hb⟩:=open_sgcells h2 (hw i hi)
   subst e
   refine ⟨(q,bv),⟨?_,?_,?_,?_,?_,?_,?_⟩,hb⟩
   ·have:=hc 0 (by omega);rw [add_lit7,add_lit7] at this;exact this
   ·have:=hc 1 (by omega);rw [add_lit7,add_lit7] at this;exact this
   ·have:=hc 2 (by omega);rw [add_lit7,add_lit7] at this;exact this
   ·have:=hc 3 (by omega);rw [add_lit7,add_lit7] at this;exact this
   ·have:=hc 4 (by omega);rw [add_lit7,add_lit7] at this;exact this
   ·have:=hc 5 (by omega);rw [add_lit7,add_lit7] at this;exact this
   ·have:=hc 6 (by omega);rw [add_lit7,add_lit7] at this;exact this
  obtain ⟨ps,hps,hp⟩:=choose_seg len hone
  exact ⟨ps,.inr ⟨b,off,len,m,rfl,hl,hm,hps,hp⟩⟩
end Go.Proofs.YtkhheooofcpfdaaGreatDoor
namespace Go.Proofs.YtkhheooofcpfdaaGreatDoor
open Go.ChangeShapes Go.WideShapes Go.ChangeAt Go.RowKit Go.Joins Go.Deep
set_option linter.unusedVariables false
def FlCells (w:World) (b o:Nat) (f:Fl):Prop :=
 w.cell? ⟨b,o,none⟩=some (.int .i64 f.key.kind)∧w.cell? ⟨b,o+1,none⟩=some (.int .i64 f.key.src)∧w.cell? ⟨b,o+2,none⟩=some (.int .i64 f.key.frm)∧w.cell? ⟨b,o+3,none⟩=some (.int .i64 f.key.dst)∧w.cell? ⟨b,o+4,none⟩=some (.int .i64 f.key.too)∧w.cell? ⟨b,o+5,none⟩=some (.int .i64 f.st)∧w.cell? ⟨b,o+6,none⟩=some (.int .i64 f.unt)∧w.cell? ⟨b,o+7,none⟩=some (.int .i64 f.stp)∧w.cell? ⟨b,o+8,none⟩=some (.int .i64 f.h0)∧w.cell? ⟨b,o+9,none⟩=some (.int .i64 f.h1)∧w.cell? ⟨b,o+10,none⟩=some (.int .i64 f.w0)∧w.cell? ⟨b,o+11,none⟩=some (.int .i64 f.w1)∧w.cell? ⟨b,o+12,none⟩=some (.bool f.d0)∧w.cell? ⟨b,o+13,none⟩=some (.bool f.d1)∧w.cell? ⟨b,o+14,none⟩=some (.int .i64 f.num)
def Fls (w:World) (v:Value) (fs:List Fl):Prop :=
 (fs=[]∧∃ a cap,v = .slice a 0 cap) ∨
 ∃ b off len cap,v = .slice (some ⟨b,off,none⟩) len cap∧len≤cap∧cap≤maxLen∧fs.length=len∧∀ i (h:i < fs.length),FlCells w b (off+i * 15) fs[i]
theorem FlCells.lt {w:World} {b o:Nat} {f:Fl} (h:FlCells w b o f):b < w.heap.size:=by
 rcases Nat.lt_or_ge b w.heap.size with h1|h1
 ·exact h1
 ·have:=h.1;simp [World.cell?,Array.getElem?_eq_none h1] at this
theorem FlCells.blk {w w':World} {b o:Nat} {f:Fl} (h:FlCells w b o f) (hb:w'.heap[b]? = w.heap[b]?):FlCells w' b o f:=by
 have hc:∀ i,w'.cell? ⟨b,i,none⟩=w.cell? ⟨b,i,none⟩:=fun i=>by simp [World.cell?,hb]
 obtain ⟨h0,h1,h2,h3,h4,h5,h6,h7,h8,h9,h10,h11,h12,h13,h14⟩:=h
 exact ⟨(hc _).trans h0,(hc _).trans h1,(hc _).trans h2,(hc _).trans h3,(hc _).trans h4,(hc _).trans h5,(hc _).trans h6,(hc _).trans h7,(hc _).trans h8,(hc _).trans h9,(hc _).trans h10,(hc _).trans h11,(hc _).trans h12,(hc _).trans h13,(hc _).trans h14⟩
theorem FlCells.below {w w':World} {b o:Nat} {f:Fl} (h:FlCells w b o f) (hb:Below w.heap.size w w'):FlCells w' b o f:=h.blk (hb.block _ h.lt)
theorem Fls.below {w w':World} {v:Value} {fs:List Fl} (h:Fls w v fs) (hb:Below w.heap.size w w'):Fls w' v fs:=by
 rcases h with h|⟨b,off,len,cap,e,h1,h2,h3,h4⟩
 ·exact .inl h
 ·exact .inr ⟨b,off,len,cap,e,h1,h2,h3,fun i hi=>(h4 i hi).below hb⟩
set_option maxRecDepth 100000 in
theorem open_fls {H:Type} {enc:TypeId × Value→H} {W:World} {a:Option Addr} {len cap:Nat} {d:DataW H} {p:List MemPlace} {ts:List TypeId} {ds:List (DataW H)} {j:Nat}
  (h:DataW.Trod enc Tryz.prog W 0 (fun _=>true) true 23 (Value.slice a len cap) d p)
  (hsz:(DataW.weightsEach Tryz.prog ts ds).all (·≤reachBytes)=true) (ht:ts[j]? = some 23) (hd:ds[j]? = some d):∃ ps,Fls W (.slice a len cap) ps:=by
 obtain ⟨fuel,hf⟩:=h
 rcases open_slice Tryz.underlying23 hf with ⟨hcs,_⟩|⟨x,l,c,m,n,D,Pl,hcs,_,hl,hm,hmm,hx,hall⟩
 ·simp [Value.cells] at hcs
  obtain ⟨rfl,rfl,rfl⟩:=hcs
  exact ⟨[],.inl ⟨rfl,_,_,rfl⟩⟩
 ·simp [Value.cells] at hcs
  obtain ⟨rfl,rfl,rfl⟩:=hcs
  have hmc:m=cap:=by simpa using hmm
  subst hmc
  by_cases h0:len=0
  ·subst h0
   exact ⟨[],.inl ⟨rfl,_,_,rfl⟩⟩
  obtain ⟨b,off,spot⟩:=x
  have hspot:spot=none:=by
   obtain ⟨cs',h1,_⟩:=hall 0 (by omega)
   rw [Tryz.cellsFl] at h1
   obtain ⟨_,hlen,hc⟩:=World.cells?_some h1
   have:=hc 0 (by omega)
   rw [List.getElem?_eq_getElem (by omega)] at this
   simpa [Addr.add] using World.cell?_spot this
  subst hspot
  have hone:∀ i,i < len→∃ q:Fl,FlCells W b (off+i * 15) q:=by
   intro i hi
   obtain ⟨cs',h1,h2⟩:=hall i (by omega)
   rw [Tryz.cellsFl] at h1
   obtain ⟨_,hlen,hc⟩:=World.cells?_some h1
   obtain ⟨q,e⟩:=open_flcells h2
   subst e
   refine ⟨q,?_,?_,?_,?_,?_,?_,?_,?_,?_,?_,?_,?_,?_,?_,?_⟩
   ·have:=hc 0 (by omega);rw [add_lit7,add_lit7] at this;exact this
   ·have:=hc 1 (by omega);rw [add_lit7,add_lit7] at this;exact this
   ·have:=hc 2 (by omega);rw [add_lit7,add_lit7] at this;exact this
   ·have:=hc 3 (by omega);rw [add_lit7,add_lit7] at this;exact this
   ·have:=hc 4 (by omega);rw [add_lit7,add_lit7] at this;exact this
   ·have:=hc 5 (by omega);rw [add_lit7,add_lit7] at this;exact this
   ·have:=hc 6 (by omega);rw [add_lit7,add_lit7] at this;exact this
   ·have:=hc 7 (by omega);rw [add_lit7,add_lit7] at this;exact this
   ·have:=hc 8 (by omega);rw [add_lit7,add_lit7] at this;exact this
   ·have:=hc 9 (by omega);rw [add_lit7,add_lit7] at this;exact this
   ·have:=hc 10 (by omega);rw [add_lit7,add_lit7] at this;exact this
   ·have:=hc 11 (by omega);rw [add_lit7,add_lit7] at this;exact this
   ·have:=hc 12 (by omega);rw [add_lit7,add_lit7] at this;exact this
   ·have:=hc 13 (by omega);rw [add_lit7,add_lit7] at this;exact this
   ·have:=hc 14 (by omega);rw [add_lit7,add_lit7] at this;exact this
  obtain ⟨ps,hps,hp⟩:=choose_seg len hone
  exact ⟨ps,.inr ⟨b,off,len,m,rfl,hl,hm,hps,hp⟩⟩
end Go.Proofs.YtkhheooofcpfdaaGreatDoor
namespace Go.Proofs.YtkhheooofcpfdaaGreatDoor
open Go.ChangeShapes Go.WideShapes Go.ChangeAt Go.RowKit Go.Joins Go.Deep
set_option linter.unusedVariables false
def Numz (w:World) (v:Value) (zs:List Int):Prop :=
 (zs=[]∧∃ a cap,v = .slice a 0 cap) ∨
 ∃ b off len cap,v = .slice (some ⟨b,off,none⟩) len cap∧len≤cap∧cap≤maxLen∧zs.length=len∧b < w.heap.size∧zs.length≤140737488355328∧(∀ i (h:i < zs.length),w.cell? ⟨b,off+i,none⟩=some (.int .i64 zs[i]))∧∀ z ∈ zs,(Lit.int .i64 z).wf=true
def Rowz (w:World) (v:Value) (ss:List (List Int × Value)):Prop :=
 (ss=[]∧∃ a cap,v = .slice a 0 cap) ∨
 ∃ b off len cap,v = .slice (some ⟨b,off,none⟩) len cap∧len≤cap∧cap≤maxLen∧ss.length=len∧b < w.heap.size∧∀ i (h:i < ss.length),w.cell? ⟨b,off+i,none⟩=some ss[i].2∧Numz w ss[i].2 ss[i].1
theorem Numz.len {w:World} {v:Value} {zs:List Int} (h:Numz w v zs):∃ a cap,v = .slice a zs.length cap:=by
 rcases h with ⟨rfl,a,cap,rfl⟩|⟨b,off,len,cap,rfl,_,_,rfl,_⟩
 ·exact ⟨a,cap,rfl⟩
 ·exact ⟨_,_,rfl⟩
theorem Rowz.len {w:World} {v:Value} {ss:List (List Int × Value)} (h:Rowz w v ss):∃ a cap,v = .slice a ss.length cap:=by
 rcases h with ⟨rfl,a,cap,rfl⟩|⟨b,off,len,cap,rfl,_,_,rfl,_⟩
 ·exact ⟨a,cap,rfl⟩
 ·exact ⟨_,_,rfl⟩
theorem Numz.below {w w':World} {v:Value} {zs:List Int} (h:Numz w v zs) (hb:Below w.heap.size w w'):Numz w' v zs:=by
 rcases h with h|⟨b,off,len,cap,h1,h2,h3,h4,h5,h6,h7,h8⟩
 ·exact .inl h
 ·exact .inr ⟨b,off,len,cap,h1,h2,h3,h4,Nat.lt_of_lt_of_le h5 hb.size,h6,fun i hi=>(hb.cell (p:=⟨b,off+i,none⟩) h5).trans (h7 i hi),h8⟩
theorem Rowz.below {w w':World} {v:Value} {ss:List (List Int × Value)} (h:Rowz w v ss) (hb:Below w.heap.size w w'):Rowz w' v ss:=by
 rcases h with h|⟨b,off,len,cap,h1,h2,h3,h4,h5,h6⟩
 ·exact .inl h
 ·exact .inr ⟨b,off,len,cap,h1,h2,h3,h4,Nat.lt_of_lt_of_le h5 hb.size,fun i hi=>⟨(hb.cell (p:=⟨b,off+i,none⟩) h5).trans (h6 i hi).1,(h6 i hi).2.below hb⟩⟩
theorem Numz.at {w:World} {a:Option Addr} {zs:List Int} {n cap:Nat} (h:Numz w (.slice a n cap) zs) (hz:0 < zs.length):∃ g off,a=some ⟨g,off,none⟩∧g < w.heap.size∧zs.length≤cap∧cap≤maxLen∧∀ i (hi:i < zs.length),w.cell? ⟨g,off+i,none⟩=some (.int .i64 zs[i]):=by
 rcases h with ⟨rfl,_⟩|⟨b,off,len,cap',h1,h2,h3,rfl,h5,h6,h7,h8⟩
 ·simp at hz
 ·simp only [Value.slice.injEq] at h1
  obtain ⟨rfl,rfl,rfl⟩:=h1
  exact ⟨b,off,rfl,h5,h2,h3,h7⟩
theorem Numz.wf {w:World} {v:Value} {zs:List Int} (h:Numz w v zs):∀ z ∈ zs,(Lit.int .i64 z).wf=true:=by
 rcases h with ⟨rfl,_⟩|⟨b,off,len,cap',h1,h2,h3,rfl,h5,h6,h7,h8⟩
 ·simp
 ·exact h8
theorem Numz.many {w:World} {v:Value} {zs:List Int} (h:Numz w v zs):zs.length≤140737488355328:=by
 rcases h with ⟨rfl,_⟩|⟨b,off,len,cap',h1,h2,h3,rfl,h5,h6,h7,h8⟩
 ·simp
 ·exact h6
theorem Rowz.at {w:World} {a:Option Addr} {ss:List (List Int × Value)} {n cap:Nat} (h:Rowz w (.slice a n cap) ss) (hz:0 < ss.length):∃ g off,a=some ⟨g,off,none⟩∧g < w.heap.size∧ss.length≤cap∧cap≤maxLen∧∀ i (hi:i < ss.length),w.cell? ⟨g,off+i,none⟩=some ss[i].2∧Numz w ss[i].2 ss[i].1:=by
 rcases h with ⟨rfl,_⟩|⟨b,off,len,cap',h1,h2,h3,rfl,h5,h6⟩
 ·simp at hz
 ·simp only [Value.slice.injEq] at h1
  obtain ⟨rfl,rfl,rfl⟩:=h1
  exact ⟨b,off,rfl,h5,h2,h3,h6⟩
theorem choose_row {α:Type} {P:Nat→α→Prop}:∀ (n:Nat),(∀ i,i < n→∃ a,P i a)→∃ l:List α,l.length=n∧∀ i (h:i < l.length),P i l[i]
 | 0,_=>⟨[],rfl,fun i h=>by simp at h⟩
 | n+1,H=>by
   obtain ⟨l,hl,hp⟩:=choose_row n (fun i hi=>H i (by omega))
   obtain ⟨a,ha⟩:=H n (by omega)
   refine ⟨l++[a],by simp [hl],fun i hi=>?_⟩
   by_cases h:i < l.length
   ·rw [List.getElem_append_left h];exact hp i h
   ·have e:i=n:=by simp at hi;omega
    subst e
    subst hl
    simpa using ha
theorem mem_weightsRow {H:Type} {P:Program} {e:TypeId}:∀ {l:List (DataW H)} {d:DataW H},d ∈ l→∀ n ∈ d.weights P e,n ∈ DataW.weightsAll P e l
 | [],d,h,n,hn=>by cases h
 | a :: l,d,h,n,hn=>by
   rcases List.mem_cons.1 h with rfl|h
   ·simp only [DataW.weightsAll,List.mem_append];exact .inl hn
   ·simp only [DataW.weightsAll,List.mem_append];exact .inr (mem_weightsRow h n hn)
theorem add_litR (b off i:Nat):Addr.add ⟨b,off,none⟩ i=⟨b,off+i,none⟩:=by by_cases hi0:i=0 <;> simp [Addr.add,hi0]
theorem open_numz {H:Type} {enc:TypeId × Value→H} {W:World} {fuel:Nat} {cs:List Value} {y:DataW H × List MemPlace} (hf:DataW.trod enc Tryz.prog W 0 (fun _=>true) true fuel 35 cs=some y)
  (hw:∀ n ∈ y.1.weights Tryz.prog 35,n≤reachBytes):∃ bv zs,cs=[bv]∧Numz W bv zs:=by
 rcases open_ints Tryz.underlying35 Tryz.underlying3 (by kernel_rfl) hf with ⟨hcs,_⟩|⟨x,len,cap,zs,hcs,_,hl,hm,hz,hx,hcell,hwz⟩
 ·exact ⟨_,[],hcs,.inl ⟨rfl,_,_,rfl⟩⟩
 ·have hz':zs.length=cap:=by simpa using hz
  subst hx
  have hb:=hw _ (by simp only [DataW.weights,Tryz.underlying35];exact List.mem_cons_self)
  rw [show Tryz.prog.bytesOf 3=8 by kernel_rfl] at hb
  have hcap:cap * 8≤reachBytes:=by simpa [lits,hz',Nat.min_eq_left hl,Nat.add_sub_cancel' hl] using hb
  have hcb:reachBytes < 2 ^ 47:=reachBytes_lt
  refine ⟨_,zs.take len,hcs,?_⟩
  by_cases h0:len=0
  ·subst h0
   exact .inl ⟨by simp,_,_,rfl⟩
  ·obtain ⟨b,off,spot⟩:=x
   have hc:=hcell 0 (by omega)
   have hspot:spot=none:=by simpa [Addr.add] using World.cell?_spot hc
   subst hspot
   have hlt:b < W.heap.size:=by
    rcases Nat.lt_or_ge b W.heap.size with h1|h1
    ·exact h1
    ·simp [World.cell?,Addr.add,Array.getElem?_eq_none h1] at hc
   refine .inr ⟨b,off,len,cap,rfl,hl,hm,by simp;omega,hlt,by simp;omega,fun i hi=>?_,fun n hn=>hwz n (List.mem_of_mem_take hn)⟩
   have hi':i < len:=by simp at hi;omega
   have:=hcell i (by omega)
   rw [add_litR] at this
   rw [this]
   congr 2
   have hiz:i < zs.length:=by omega
   simp [List.getD,List.getElem?_eq_getElem hiz]
theorem Tryz.cellsIi:Tryz.prog.cellsOf 35=1:=by kernel_rfl
set_option maxRecDepth 100000 in
theorem open_rowz {H:Type} {enc:TypeId × Value→H} {W:World} {a:Option Addr} {len cap:Nat} {d:DataW H} {p:List MemPlace} {ts:List TypeId} {ds:List (DataW H)} {j:Nat}
  (h:DataW.Trod enc Tryz.prog W 0 (fun _=>true) true 22 (Value.slice a len cap) d p)
  (hsz:(DataW.weightsEach Tryz.prog ts ds).all (·≤reachBytes)=true) (ht:ts[j]? = some 22) (hd:ds[j]? = some d):∃ ps,Rowz W (.slice a len cap) ps∧ps.length≤140737488355328:=by
 obtain ⟨fuel,hf⟩:=h
 rcases open_slice Tryz.underlying22 hf with ⟨hcs,_⟩|⟨x,l,c,m,n,D,Pl,hcs,_,hl,hm,hmm,hx,hall⟩
 ·simp [Value.cells] at hcs
  obtain ⟨rfl,rfl,rfl⟩:=hcs
  exact ⟨[],.inl ⟨rfl,_,_,rfl⟩,by simp⟩
 ·simp [Value.cells] at hcs
  obtain ⟨rfl,rfl,rfl⟩:=hcs
  have hmc:m=cap:=by simpa using hmm
  subst hmc
  simp only [Prod.mk.injEq] at hx
  obtain ⟨rfl,_⟩:=hx
  have hbk:=sized_slice hsz ht hd Tryz.underlying22
  have hcb:reachBytes < 2 ^ 47:=reachBytes_lt
  rw [show Tryz.prog.bytesOf 35=24 by kernel_rfl] at hbk
  have hlen:len≤140737488355328:=by simp at hbk;omega
  by_cases h0:len=0
  ·subst h0
   exact ⟨[],.inl ⟨rfl,_,_,rfl⟩,by simp⟩
  have hw:∀ i,i < len→∀ n ∈ (D i).weights Tryz.prog 35,n≤reachBytes:=by
   intro i hi n hn
   have h1:n ∈ DataW.weightsAll Tryz.prog 35 ((List.range len).map D):=mem_weightsRow (List.mem_map.2 ⟨i,by simpa using hi,rfl⟩) n hn
   have h2:n ∈ (DataW.slice ((List.range len).map D) ((List.range (m - len)).map fun j=>D (len+j))).weights Tryz.prog 22:=by
    simp only [DataW.weights,Tryz.underlying22]
    exact List.mem_cons_of_mem _ (List.mem_append_left _ h1)
   have:=List.all_eq_true.1 hsz _ (DataW.weights_mem_each ht hd n h2)
   simpa using this
  obtain ⟨b,off,spot⟩:=x
  have hspot:spot=none:=by
   obtain ⟨cs',h1,_⟩:=hall 0 (by omega)
   rw [Tryz.cellsIi] at h1
   obtain ⟨_,hlen,hc⟩:=World.cells?_some h1
   have:=hc 0 (by omega)
   rw [List.getElem?_eq_getElem (by omega)] at this
   simpa [Addr.add] using World.cell?_spot this
  subst hspot
  have hone:∀ i,i < len→∃ q:List Int × Value,W.cell? ⟨b,off+i,none⟩=some q.2∧Numz W q.2 q.1:=by
   intro i hi
   obtain ⟨cs',h1,h2⟩:=hall i (by omega)
   rw [Tryz.cellsIi] at h1
   obtain ⟨_,hlen,hc⟩:=World.cells?_some h1
   obtain ⟨bv,zs,e,hb⟩:=open_numz h2 (hw i hi)
   subst e
   refine ⟨(zs,bv),?_,hb⟩
   have:=hc 0 (by omega);rw [add_litR,add_litR] at this
   simpa using this
  obtain ⟨ps,hps,hp⟩:=choose_row len hone
  refine ⟨ps,.inr ⟨b,off,len,m,rfl,hl,hm,hps,?_,hp⟩,by omega⟩
  have hc:=(hp 0 (by omega)).1
  rcases Nat.lt_or_ge b W.heap.size with h1|h1
  ·exact h1
  ·simp [World.cell?,Array.getElem?_eq_none h1] at hc
end Go.Proofs.YtkhheooofcpfdaaGreatDoor
