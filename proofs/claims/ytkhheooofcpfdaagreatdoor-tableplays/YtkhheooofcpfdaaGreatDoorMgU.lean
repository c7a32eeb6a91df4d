/- What errors.As, plain.Told and portsame.Error return of an error that is nil or an Errno, where the package variable errors.errorType holds the handle of the type error. -/
import Derived.Test.YtkhheooofcpfdaaGreatDoorProg
import Derived.WalkKit
import Derived.LaidEql
import Derived.Stop.Asserts
import Derived.RowKitTokens
import Derived.Below
import Derived.Test.YtkhheooofcpfdaaGreatDoorMgE
import Derived.Test.YtkhheooofcpfdaaGreatDoorMgD
import Derived.Lay
import Derived.LaidSub
import Derived.LaidHandle
import Derived.Lib.LaidTab
import Derived.ProofKit
import Derived.OpenShut
import Derived.ShutString
import Derived.ChangeOld
import Derived.SizedLaws
import Derived.LaidLaws
import Derived.Deep.DeepHandedRow
namespace Go.Proofs.YtkhheooofcpfdaaGreatDoor
open Go.RowKit Go.Extern.Stop Go.Stop Go.Extern
set_option linter.unusedVariables false
/-! ### Closed facts on the model's entries for internal/reflectlite at this dump's numbers -/
theorem Tryz.asValueOfP (t:Addr) (w:World):(ReflectliteValue.unpack (.iface 98 (.pointer (some t)))).run Tryz.prog w
  = .ok (.agg #[.pointer (some ⟨2,98,none⟩),.pointer (some ⟨w.heap.size,0,none⟩),.int .u64 150]) (w.alloc (.cells #[.pointer (some t)] 98)):=by kernel_rfl
theorem Tryz.asTypeP (a : Addr) (w : World) : (ReflectliteValue.methodAny (ReflectliteValue.valueError "reflectlite.Value.Type" 0) (fun t _ _ _ => ReflectliteType.toType t) #[.agg #[.pointer (some ⟨2, 98, none⟩), .pointer (some a), .int .u64 150]]).run Tryz.prog w
  = .ok (.iface 150 (.agg #[.pointer (some ⟨2,98,none⟩)])) w:=by kernel_rfl
theorem Tryz.asMethodKind (h : Value) (w : World) : (Go.method 310 150 (.agg #[h]) "Kind").run Tryz.prog w = .ok (144, h) w := by kernel_rfl
theorem Tryz.asKindP (w:World):((ReflectliteType.abiMethod fun t=>(fun a:Nat=>Value.int IntKind.u8 (a:Int)) <$> Rtype.kind t) #[.pointer (some ⟨2,98,none⟩)]).run Tryz.prog w = .ok (.int .u8 22) w:=by kernel_rfl
theorem Tryz.asKindE (w:World):((ReflectliteType.abiMethod fun t=>(fun a:Nat=>Value.int IntKind.u8 (a:Int)) <$> Rtype.kind t) #[.pointer (some ⟨2,71,none⟩)]).run Tryz.prog w = .ok (.int .u8 2) w:=by kernel_rfl
theorem Tryz.asPartsP (a:Addr) (w:World):(ReflectliteValue.parts (.agg #[.pointer (some ⟨2,98,none⟩),.pointer (some a),.int .u64 150])).run Tryz.prog w = .ok (some (98,a,150)) w:=by kernel_rfl
theorem Tryz.asIsNilP (a p:Addr) (W:World) (ha:W.cell? a=some (.pointer (some p))) :
  (ReflectliteValue.method (ReflectliteValue.valueError "reflectlite.Value.IsNil" 0) ReflectliteValue.isNil #[.agg #[.pointer (some ⟨2, 98, none⟩), .pointer (some a), .int .u64 150]]).run Tryz.prog W = .ok (.bool false) W := by
 change (Bind.bind (ReflectliteValue.parts (.agg #[.pointer (some ⟨2,98,none⟩),.pointer (some a),.int .u64 150])) _:Sem Value).run _ _=_
 simp only [Sem.run_bind,Tryz.asPartsP,Result.andThen]
 simp [ReflectliteValue.isNil,loadVar,isAgg,underlying,Tryz.underlying98,ha,Result.andThen]
theorem Tryz.asMethodElem (h : Value) (w : World) : (Go.method 310 150 (.agg #[h]) "Elem").run Tryz.prog w = .ok (154, .agg #[h]) w := by kernel_rfl
theorem Tryz.asMethodImplements (h : Value) (w : World) : (Go.method 310 150 (.agg #[h]) "Implements").run Tryz.prog w = .ok (155, .agg #[h]) w := by kernel_rfl
theorem Tryz.asMethodAssignableTo (h : Value) (w : World) : (Go.method 310 150 (.agg #[h]) "AssignableTo").run Tryz.prog w = .ok (152, .agg #[h]) w := by kernel_rfl
theorem Tryz.asElemP (w:World):(ReflectliteType.method ReflectliteType.elem #[.agg #[.pointer (some ⟨2,98,none⟩)]]).run Tryz.prog w = .ok (.iface 150 (.agg #[.pointer (some ⟨2,71,none⟩)])) w:=by kernel_rfl
theorem Tryz.asImplementsE (w : World) : (ReflectliteType.relation "Implements" ReflectliteType.implements_ #[.agg #[.pointer (some ⟨2, 71, none⟩)], .iface 150 (.agg #[.pointer (some ⟨2, 27, none⟩)])]).run Tryz.prog w = .ok (.bool true) w := by kernel_rfl
theorem Tryz.asTypeOfE (v:Value) (w:World):(ReflectliteType.typeOf #[.iface 71 v]).run Tryz.prog w = .ok (.iface 150 (.agg #[.pointer (some ⟨2,71,none⟩)])) w:=by kernel_rfl
theorem Tryz.asAssignableE (w : World) : (ReflectliteType.relation "AssignableTo" ReflectliteType.assignableTo #[.agg #[.pointer (some ⟨2, 71, none⟩)], .iface 150 (.agg #[.pointer (some ⟨2, 71, none⟩)])]).run Tryz.prog w = .ok (.bool true) w := by kernel_rfl
theorem Tryz.asValueOfE (k:Int) (w:World):(ReflectliteValue.unpack (.iface 71 (.int .i64 k))).run Tryz.prog w
  = .ok (.agg #[.pointer (some ⟨2,71,none⟩),.pointer (some ⟨w.heap.size,0,none⟩),.int .u64 130]) (w.alloc (.cells #[.int .i64 k] 71)):=by kernel_rfl
theorem Tryz.asElemOfP (w:World):(Rtype.elem? 98).run Tryz.prog w = .ok (some 71) w:=by kernel_rfl
theorem Tryz.asMkE (p:Addr) (w:World):(ReflectliteValue.mk 71 p ReflectliteValue.flagAddr).run Tryz.prog w = .ok (.agg #[.pointer (some ⟨2,71,none⟩),.pointer (some p),.int .u64 386]) w:=by kernel_rfl
theorem Tryz.asElemVP (a p:Addr) (W:World) (ha:W.cell? a=some (.pointer (some p))) :
  (ReflectliteValue.method (ReflectliteValue.valueError "reflectlite.Value.Elem" 0) ReflectliteValue.elem #[.agg #[.pointer (some ⟨2, 98, none⟩), .pointer (some a), .int .u64 150]]).run Tryz.prog W
   = .ok (.agg #[.pointer (some ⟨2,71,none⟩),.pointer (some p),.int .u64 386]) W:=by
 change (Bind.bind (ReflectliteValue.parts (.agg #[.pointer (some ⟨2,98,none⟩),.pointer (some a),.int .u64 150])) _:Sem Value).run _ _=_
 simp only [Sem.run_bind,Tryz.asPartsP,Result.andThen]
 simp [ReflectliteValue.elem,loadVar,isAgg,underlying,Tryz.underlying98,ha,Result.andThen,Tryz.asElemOfP,Tryz.asMkE]
theorem Tryz.asPartsEa (a:Addr) (w:World):(ReflectliteValue.parts (.agg #[.pointer (some ⟨2,71,none⟩),.pointer (some a),.int .u64 386])).run Tryz.prog w = .ok (some (71,a,386)) w:=by kernel_rfl
theorem Tryz.asPartsE (a:Addr) (w:World):(ReflectliteValue.parts (.agg #[.pointer (some ⟨2,71,none⟩),.pointer (some a),.int .u64 130])).run Tryz.prog w = .ok (some (71,a,130)) w:=by kernel_rfl
theorem Tryz.asDirectE (w:World):(Rtype.directlyAssignable 71 71).run Tryz.prog w = .ok true w:=by kernel_rfl
theorem Tryz.asSetE (ta b:Addr) (k:Int) (old:Value) (W:World) (hb:W.cell? b=some (.int .i64 k)) (ht:W.cell? ta=some old) (hf:W.frozen? ta=false) :
  (ReflectliteValue.set #[.agg #[.pointer (some ⟨2,71,none⟩),.pointer (some ta),.int .u64 386],.agg #[.pointer (some ⟨2,71,none⟩),.pointer (some b),.int .u64 130]]).run Tryz.prog W
   = .ok (.tuple #[]) (W.setCell ta (.int .i64 k)):=by
 change (Bind.bind (ReflectliteValue.parts (.agg #[.pointer (some ⟨2,71,none⟩),.pointer (some ta),.int .u64 386])) (fun p=>Bind.bind (ReflectliteValue.parts (.agg #[.pointer (some ⟨2,71,none⟩),.pointer (some b),.int .u64 130])) _):Sem Value).run _ _=_
 simp only [Sem.run_bind,Tryz.asPartsEa,Tryz.asPartsE,Result.andThen]
 simp [ReflectliteValue.flagAddr,loadVar,isAgg,underlying,Tryz.underlying71,hb,Result.andThen,Tryz.asDirectE,storeVar,Value.cells,storeCells,Addr.add]
 rw [run_store Tryz.prog W ta _ _ (by rfl)]
 simp [ht,hf]
def ErrLaid (w:World):Prop:=w.cell? ⟨0,0,none⟩=some (.iface 150 (.agg #[.pointer (some ⟨2,27,none⟩)]))
set_option maxHeartbeats 4000000 in
theorem as_errno (k:Int) (t:Addr) (old:Value) (w:World) (hg0:ErrLaid w) (ht0:w.cell? t=some old) (hf0:w.frozen? t=false) :
  Calls Tryz.prog 46 #[.iface 71 (.int .i64 k),.iface 98 (.pointer (some t))] w fun ev w'=>ev = .returned (.bool true)∧w'=((((w.alloc (.cells #[.pointer (some t)] 98)).alloc (.cells #[.pointer (some ⟨2,98,none⟩),.pointer (some ⟨w.heap.size,0,none⟩),.int .u64 150] 120)).alloc (.cells #[.pointer (some ⟨2,98,none⟩),.pointer (some ⟨w.heap.size,0,none⟩),.int .u64 150] 120)).alloc (.cells #[.int .i64 k] 71)).setCell t (.int .i64 k):=by
 have hg:w.cell? ⟨0,0,none⟩=some (.iface 150 (.agg #[.pointer (some ⟨2,27,none⟩)])):=hg0
 have x1:=@run_callFunc_extern Tryz.prog 74 _ (fun args=>ReflectliteValue.unpack (args.getD 0 (.tuple #[]))) Tryz.func74 (by kernel_rfl) (by kernel_rfl) (by kernel_rfl) (by kernel_rfl)
 have x2 := @run_callFunc_extern Tryz.prog 75 _ (ReflectliteValue.methodAny (ReflectliteValue.valueError "reflectlite.Value.Type" 0) (fun t _ _ _ => ReflectliteType.toType t)) Tryz.func75 (by kernel_rfl) (by kernel_rfl) (by kernel_rfl) (by kernel_rfl)
 have x3 := @run_callFunc_extern Tryz.prog 76 _ (ReflectliteValue.method (ReflectliteValue.valueError "reflectlite.Value.IsNil" 0) ReflectliteValue.isNil) Tryz.func76 (by kernel_rfl) (by kernel_rfl) (by kernel_rfl) (by kernel_rfl)
 have x4:=@run_callFunc_extern Tryz.prog 144 _ (ReflectliteType.abiMethod fun t=>do pure (.int .u8 (← Rtype.kind t))) Tryz.func144 (by kernel_rfl) (by kernel_rfl) (by kernel_rfl) (by kernel_rfl)
 have x5:=@run_callFunc_extern Tryz.prog 154 _ (ReflectliteType.method ReflectliteType.elem) Tryz.func154 (by kernel_rfl) (by kernel_rfl) (by kernel_rfl) (by kernel_rfl)
 have x6 := @run_callFunc_extern Tryz.prog 155 _ (ReflectliteType.relation "Implements" ReflectliteType.implements_) Tryz.func155 (by kernel_rfl) (by kernel_rfl) (by kernel_rfl) (by kernel_rfl)
 have x7:=@run_callFunc_extern Tryz.prog 100 _ ReflectliteType.typeOf Tryz.func100 (by kernel_rfl) (by kernel_rfl) (by kernel_rfl) (by kernel_rfl)
 have x8 := @run_callFunc_extern Tryz.prog 152 _ (ReflectliteType.relation "AssignableTo" ReflectliteType.assignableTo) Tryz.func152 (by kernel_rfl) (by kernel_rfl) (by kernel_rfl) (by kernel_rfl)
 have x9 := @run_callFunc_extern Tryz.prog 101 _ (ReflectliteValue.method (ReflectliteValue.valueError "reflectlite.Value.Elem" 0) ReflectliteValue.elem) Tryz.func101 (by kernel_rfl) (by kernel_rfl) (by kernel_rfl) (by kernel_rfl)
 have x10:=@run_callFunc_extern Tryz.prog 102 _ ReflectliteValue.set Tryz.func102 (by kernel_rfl) (by kernel_rfl) (by kernel_rfl) (by kernel_rfl)
 have y1:=Tryz.asTypeOfE
 have y2:=Tryz.asMethodAssignableTo
 have y3:=Tryz.asAssignableE
 have y4:=Tryz.asValueOfE
 have y5:=Tryz.asValueOfP
 have y6:=Tryz.asTypeP
 have y7:=Tryz.asMethodKind
 have y8:=Tryz.asMethodElem
 have y9:=Tryz.asMethodImplements
 have y10:=Tryz.asKindP
 have y11:=Tryz.asKindE
 have y12:=Tryz.asElemP
 have y13:=Tryz.asImplementsE
 have n8:=Tryz.asIsNilP ⟨w.heap.size,0,none⟩ t ((w.alloc (.cells #[.pointer (some t)] 98)).alloc (.cells #[.pointer (some ⟨2,98,none⟩),.pointer (some ⟨w.heap.size,0,none⟩),.int .u64 150] 120)) (by simp)
 have hlt:0 < w.heap.size:=by
  rcases Nat.lt_or_ge 0 w.heap.size with h|h
  ·exact h
  ·simp [World.cell?,Array.getElem?_eq_none h] at hg
 have hg2:((w.alloc (.cells #[.pointer (some t)] 98)).alloc (.cells #[.pointer (some ⟨2,98,none⟩),.pointer (some ⟨w.heap.size,0,none⟩),.int .u64 150] 120)).cell? ⟨0,0,none⟩=some (.iface 150 (.agg #[.pointer (some ⟨2,27,none⟩)])):=by
  rw [World.cell?_alloc_lt _ _ ⟨0,0,none⟩ (by simp <;> omega),World.cell?_alloc_lt _ _ ⟨0,0,none⟩ hlt];exact hg
 have htl:t.block < w.heap.size:=by
  rcases Nat.lt_or_ge t.block w.heap.size with h|h
  ·exact h
  ·simp [World.cell?,Array.getElem?_eq_none h] at ht0
 have el:=Tryz.asElemVP ⟨w.heap.size,0,none⟩ t (((w.alloc (.cells #[.pointer (some t)] 98)).alloc (.cells #[.pointer (some ⟨2,98,none⟩),.pointer (some ⟨w.heap.size,0,none⟩),.int .u64 150] 120)).alloc (.cells #[.pointer (some ⟨2,98,none⟩),.pointer (some ⟨w.heap.size,0,none⟩),.int .u64 150] 120)) (by rw [World.cell?_alloc_lt _ _ ⟨w.heap.size,0,none⟩ (by simp;omega)];simp)
 have st:=Tryz.asSetE t ⟨w.heap.size+1+1+1,0,none⟩ k old ((((w.alloc (.cells #[.pointer (some t)] 98)).alloc (.cells #[.pointer (some ⟨2,98,none⟩),.pointer (some ⟨w.heap.size,0,none⟩),.int .u64 150] 120)).alloc (.cells #[.pointer (some ⟨2,98,none⟩),.pointer (some ⟨w.heap.size,0,none⟩),.int .u64 150] 120)).alloc (.cells #[.int .i64 k] 71))
  (by rw [World.cell?_alloc_at _ _ _ _ (by simp)];rfl)
  (by rw [World.cell?_alloc_lt _ _ t (by simp;omega),World.cell?_alloc_lt _ _ t (by simp;omega),World.cell?_alloc_lt _ _ t (by simp;omega),World.cell?_alloc_lt _ _ t htl];exact ht0)
  (by rw [World.frozen?_alloc_old _ _ t (by simp;omega),World.frozen?_alloc_old _ _ t (by simp;omega),World.frozen?_alloc_old _ _ t (by simp;omega),World.frozen?_alloc_old _ _ t (Nat.ne_of_lt htl)];exact hf0)
 clear hg0
 go_enter Tryz.func46,Tryz.ntmps46
 go_wp2
 refine wp_loop_rounds 1 ?_
 rw [rounds_succ]
 go_wp2
 go_ret
 exact ⟨rfl,rfl⟩
end Go.Proofs.YtkhheooofcpfdaaGreatDoor
namespace Go.Proofs.YtkhheooofcpfdaaGreatDoor
open Go.ChangeShapes Go.WideShapes Go.ChangeAt Go.RowKit
set_option linter.unusedVariables false
def tabsLaid : List (String × DataW Unit) := [("portcullis/track.lives", Rows.laid_portcullis_track_lives)]
def doorLaid : List (String × DataW Unit) := [("portcullis/track.lives", Rows.laid_portcullis_track_lives), ("errors.errorType", Rows.laid_errors_errorType)]
theorem doorVar : Tryz.prog.globalNamed "errors.errorType" = some 0 := by kernel_rfl
theorem doorRtype : (Tryz.prog.cutTypes.find? (·.1 == "internal/reflectlite.rtype")).map (·.2) = some 150 := by kernel_rfl
theorem doorOne:((List.range 210).filter fun t=>Tryz.prog.rowNamed t [101,114,114,111,114])=[27]:=by kernel_rfl
theorem doorSize:Tryz.prog.types.size=210:=by kernel_rfl
theorem list20 {α:Type} {cs:List α} (h:cs.length=20):∃ c0 c1 c2 c3 c4 c5 c6 c7 c8 c9 c10 c11 c12 c13 c14 c15 c16 c17 c18 c19,cs=[c0,c1,c2,c3,c4,c5,c6,c7,c8,c9,c10,c11,c12,c13,c14,c15,c16,c17,c18,c19]:=by
 match cs,h with
 | [c0,c1,c2,c3,c4,c5,c6,c7,c8,c9,c10,c11,c12,c13,c14,c15,c16,c17,c18,c19],_=>exact ⟨c0,c1,c2,c3,c4,c5,c6,c7,c8,c9,c10,c11,c12,c13,c14,c15,c16,c17,c18,c19,rfl⟩
theorem list4 {α:Type} {cs:List α} (h:cs.length=4):∃ c0 c1 c2 c3,cs=[c0,c1,c2,c3]:=by
 match cs,h with
 | [c0,c1,c2,c3],_=>exact ⟨c0,c1,c2,c3,rfl⟩
theorem var_cells {P:Program} {W:World} {name:String} {g:Nat} {cs:Array Value} (hg:P.globalNamed name=some g) (h:W.var? P name=some cs):∃ ty fz,W.heap[g]? = some (.cells cs ty fz):=by
 simp only [World.var?,hg,Option.bind_some] at h
 split at h <;> simp_all
set_option maxRecDepth 100000 in
theorem lives_rows {H:Type} {enc:TypeId × Value→H} {w:World} {base:Nat} {sp:Nat→Bool} {held:Bool} {fuel:Nat} {cs:List Value} {p:List MemPlace}
  (h:DataW.trod enc Tryz.prog w base sp held fuel 168 cs=some (.agg [.agg [.lit (.int .i64 0),.lit (.int .i64 0),.lit (.int .i64 0),.lit (.int .i64 0),.lit (.int .i64 0)],.agg [.lit (.int .i64 0),.lit (.int .i64 30),.lit (.int .i64 300),.lit (.int .i64 60),.lit (.int .i64 10)],.agg [.lit (.int .i64 0),.lit (.int .i64 30),.lit (.int .i64 60),.lit (.int .i64 0),.lit (.int .i64 0)],.agg [.lit (.int .i64 0),.lit (.int .i64 10),.lit (.int .i64 20),.lit (.int .i64 0),.lit (.int .i64 0)]],p)):cs=[.int .i64 0,.int .i64 0,.int .i64 0,.int .i64 0,.int .i64 0,.int .i64 0,.int .i64 30,.int .i64 300,.int .i64 60,.int .i64 10,.int .i64 0,.int .i64 30,.int .i64 60,.int .i64 0,.int .i64 0,.int .i64 0,.int .i64 10,.int .i64 20,.int .i64 0,.int .i64 0]:=by
 obtain ⟨xs,m,_,hx,hl,hlen,hf⟩:=DataW.trod_array Tryz.underlying168 h
 obtain ⟨c0,c1,c2,c3,c4,c5,c6,c7,c8,c9,c10,c11,c12,c13,c14,c15,c16,c17,c18,c19,rfl⟩:=list20 (hl.trans (show Tryz.prog.cellsOf 168=20 by kernel_rfl))
 obtain ⟨y0,y1,y2,y3,rfl⟩:=list4 hlen
 simp only [List.map_cons,List.map_nil,Prod.mk.injEq,DataW.agg.injEq,List.cons.injEq,and_true] at hx
 obtain ⟨⟨e0,e1,e2,e3⟩,_⟩:=hx
 have hc:Tryz.prog.cellsOf 167=5:=by kernel_rfl
 have hi:Tryz.prog.cellsOf 3=1:=by kernel_rfl
 have f0:=hf 0 (by omega)
 have f1:=hf 1 (by omega)
 have f2:=hf 2 (by omega)
 have f3:=hf 3 (by omega)
 rw [hc] at f0 f1 f2 f3
 obtain ⟨a0,b0⟩:=y0
 obtain ⟨a1,b1⟩:=y1
 obtain ⟨a2,b2⟩:=y2
 obtain ⟨a3,b3⟩:=y3
 simp only at e0 e1 e2 e3
 subst e0 e1 e2 e3
 have g0:=Lib.cells_of_tab (k:=.i64) (zs:=[0,0,0,0,0]) Tryz.underlying167 Tryz.underlying3 hi hc f0
 have g1:=Lib.cells_of_tab (k:=.i64) (zs:=[0,30,300,60,10]) Tryz.underlying167 Tryz.underlying3 hi hc f1
 have g2:=Lib.cells_of_tab (k:=.i64) (zs:=[0,30,60,0,0]) Tryz.underlying167 Tryz.underlying3 hi hc f2
 have g3:=Lib.cells_of_tab (k:=.i64) (zs:=[0,10,20,0,0]) Tryz.underlying167 Tryz.underlying3 hi hc f3
 simp at g0 g1 g2 g3
 obtain ⟨rfl,rfl,rfl,rfl,rfl⟩:=g0
 obtain ⟨rfl,rfl,rfl,rfl,rfl⟩:=g1
 obtain ⟨rfl,rfl,rfl,rfl,rfl⟩:=g2
 obtain ⟨rfl,rfl,rfl,rfl,rfl⟩:=g3
 rfl
theorem lives_of_met {W:World} (h:laidMet Tryz.prog tabsLaid W):Lives W:=by
 obtain ⟨ps,⟨g',t',cs,fuel,p,q,hg',ht',hvar,hd,_,_⟩,_⟩:=h
 obtain rfl := Option.some.inj ((show Tryz.prog.globalNamed "portcullis/track.lives" = some 1 by kernel_rfl).symm.trans hg')
 obtain rfl:=Option.some.inj ((show (Tryz.prog.globals[1]?).map (·.type)=some 168 by kernel_rfl).symm.trans ht')
 have hc:=lives_rows hd
 obtain ⟨ty, fz, hh⟩ := var_cells (show Tryz.prog.globalNamed "portcullis/track.lives" = some 1 by kernel_rfl) hvar
 refine ⟨ty,fz,?_⟩
 rw [hh,← Array.toArray_toList (xs:=cs),hc]
theorem parts_of_laid {W : World} (h : laidMetH Tryz.prog doorLaid W) : laidMet Tryz.prog tabsLaid W ∧ handlesMet Tryz.prog [("errors.errorType", Rows.laid_errors_errorType)] W := h
theorem lives_of_laid {W:World} (h:laidMetH Tryz.prog doorLaid W):Lives W:=lives_of_met (parts_of_laid h).1
theorem errLaid_of_laid {W:World} (h:laidMetH Tryz.prog doorLaid W):ErrLaid W:=by
 obtain ⟨name,u,ty,e1,e2,e3,e4,e5⟩:=(parts_of_laid h).2 _ (List.mem_singleton.2 rfl)
 have en:name=[101,114,114,111,114]:=(Option.some.inj e1).symm
 subst en
 obtain rfl:=Option.some.inj (doorRtype.symm.trans e2)
 have hm:ty ∈ (List.range 210).filter fun t=>Tryz.prog.rowNamed t [101,114,114,111,114]:=List.mem_filter.2 ⟨List.mem_range.2 (by rw [← doorSize];exact e3),e4⟩
 rw [doorOne] at hm
 obtain rfl:=List.mem_singleton.1 hm
 have hh:typeHandle Tryz.prog 27 = .pointer (some ⟨2,27,none⟩):=by kernel_rfl
 rw [hh] at e5
 unfold ErrLaid
 simpa using World.var?_cell doorVar e5 0
theorem doorWorld_met (os:Os) (args:Array Value):laidMetH Tryz.prog doorLaid ((({ World.holding Tryz.prog os ⟨#[],#[],[]⟩ with heap:=(World.holding Tryz.prog os ⟨#[],#[],[]⟩).heap.modify 0 (fun|.cells _ t frozen=>.cells #[.iface 150 (.agg #[.pointer (some ⟨2,27,none⟩)])] t frozen|o=>o) }:World).layVars Tryz.prog tabsLaid).forCall (fun _ _=>0) ⟨#[],args,[]⟩).memory:=by
 refine laidMetH_of_parts ?_ (by kernel_rfl)
 have e:(doorLaid.filter fun x=>x.2.handleName?.isNone)=tabsLaid:=by kernel_rfl
 rw [e]
 have e1:(tabsLaid.filter fun x=>(tabsLaid.map (·.1)).contains x.1)=tabsLaid:=by kernel_rfl
 have e2:(tabsLaid.filter fun x=>!(tabsLaid.map (·.1)).contains x.1)=[]:=by kernel_rfl
 have h:laidMet Tryz.prog tabsLaid (({ World.holding Tryz.prog os ⟨#[],#[],[]⟩ with heap:=(World.holding Tryz.prog os ⟨#[],#[],[]⟩).heap.modify 0 (fun|.cells _ t frozen=>.cells #[.iface 150 (.agg #[.pointer (some ⟨2,27,none⟩)])] t frozen|o=>o) }:World).layVars Tryz.prog tabsLaid):=laidMet_layVars (w0:=({ World.holding Tryz.prog os ⟨#[],#[],[]⟩ with heap:=(World.holding Tryz.prog os ⟨#[],#[],[]⟩).heap.modify 0 (fun|.cells _ t frozen=>.cells #[.iface 150 (.agg #[.pointer (some ⟨2,27,none⟩)])] t frozen|o=>o) }:World)) (tabsLaid.map (·.1)) [] (by rw [e1]) (by rw [e1];kernel_rfl) (by rw [e1];kernel_rfl) (by rw [e2];exact LaidIn.none)
 exact h.of_heap (by simp [World.memory,World.forCall,Input.heap])
end Go.Proofs.YtkhheooofcpfdaaGreatDoor
namespace Go.Proofs.YtkhheooofcpfdaaGreatDoor
open Go.RowKit
set_option linter.unusedVariables false
theorem ErrLaid.lt {w:World} (h:ErrLaid w):0 < w.heap.size:=by
 rcases Nat.lt_or_ge 0 w.heap.size with h1|h1
 ·exact h1
 ·unfold ErrLaid at h;simp [World.cell?,Array.getElem?_eq_none h1] at h
theorem ErrLaid.below {w w':World} (h:ErrLaid w) (hb:Below w.heap.size w w'):ErrLaid w':=by
 have e:=hb.cell (p:=⟨0,0,none⟩) h.lt
 unfold ErrLaid at *
 rw [e];exact h
def ErrVal (v:Value) (k:Int):Prop:=(v = .nilIface∧k=0)∨v = .iface 71 (.int .i64 k)
theorem told_nil (w:World) :
  Calls Tryz.prog 24 #[.nilIface] w fun e w'=>e = .returned (.int .i64 0)∧w'=w:=by
 go_enter Tryz.func24,Tryz.ntmps24
 go_wp2
 go_ret
 exact ⟨rfl,rfl⟩
set_option maxHeartbeats 1000000 in
theorem told_errno (k:Int) (w:World) (hg:ErrLaid w) :
  Calls Tryz.prog 24 #[.iface 71 (.int .i64 k)] w fun e w'=>e = .returned (.int .i64 k)∧Below w.heap.size w w':=by
 have b1:Below w.heap.size w (w.alloc (.cells #[.int .i64 0] 71)):=(Below.refl _ _).alloc (Nat.le_refl _) _
 have hg1:=hg.below b1
 go_enter Tryz.func24,Tryz.ntmps24
 go_wp2_with (go_at_call 46;refine (as_errno k ⟨w.heap.size,0,none⟩ (.int .i64 0) _ hg1 (by simp) (by simp)).mono ?_;rintro e w' ⟨rfl,rfl⟩)
 go_ret
 refine ⟨rfl,?_⟩
 exact (((((Below.refl _ _).alloc (Nat.le_refl _) _).alloc (by simp) _).alloc (by simp;omega) _).alloc (by simp;omega) _).alloc (by simp;omega) _
theorem told_val {v:Value} {k:Int} (h:ErrVal v k) (w:World) (hg:ErrLaid w) :
  Calls Tryz.prog 24 #[v] w fun e w'=>e = .returned (.int .i64 k)∧Below w.heap.size w w':=by
 rcases h with ⟨rfl,rfl⟩|rfl
 ·refine (told_nil w).mono ?_
  rintro e w' ⟨rfl,rfl⟩
  exact ⟨rfl,Below.refl _ _⟩
 ·exact told_errno k w hg
theorem error_val {v:Value} {k:Int} (h:ErrVal v k) (n:Int) (w:World) (hg:ErrLaid w) :
  Calls Tryz.prog 5 #[v,.int .i64 n] w fun e w'=>e = .returned (.bool (k == n))∧Below w.heap.size w w':=by
 go_enter Tryz.func5,Tryz.ntmps5
 go_wp2_with (go_at_call 24;refine (told_val h w hg).mono ?_;rintro e w' ⟨rfl,hb⟩)
 go_ret
 exact ⟨rfl,hb⟩
end Go.Proofs.YtkhheooofcpfdaaGreatDoor
