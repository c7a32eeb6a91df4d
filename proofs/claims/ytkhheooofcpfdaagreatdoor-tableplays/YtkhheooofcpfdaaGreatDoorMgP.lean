/- A map whose elements are held as they are, told as the list of its entries in whatever order ('MapIs'): look-up, store, delete, len, what is struck by a predicate; a map stays while other blocks turn. No program is named. -/
import Derived.Maps.RangeWalk
import Derived.Maps.OwnSet
import Derived.Maps.OwnOps
import Derived.Maps.Ext
import Derived.Lib.SlMapFilter
import Derived.Test.YtkhheooofcpfdaaGreatDoorMgA
import Derived.DeepKeys4
import Derived.WalkKit
namespace Go.Proofs.YtkhheooofcpfdaaGreatDoor
open Go.RowKit Go.Maps
set_option linter.unusedVariables false
def rawR (v:Value):Option (DataW Value × List MemPlace):=some (.held v,[])
def heldL (l:List (Lit × Value)):List (Lit × DataW Value):=l.map fun x=>(x.1,.held x.2)
def MapIs (P:Program) (k:TypeId) (w:World) (b:Nat) (l:List (Lit × Value)):Prop :=
 ∃ es,w.ownsMap P k rawR b l.length (.map es)∧es.Perm (heldL l)
section
variable {P:Program} {k t e:TypeId} {w:World} {b n:Nat} {l:List (Lit × Value)}
theorem ownsMap_exact {es:List (Lit × DataW Value)} (h:w.ownsMap P k rawR b n (.map es)):w.ownsMap P k rawR b es.length (.map es):=by
 obtain ⟨xs,clock,hb,F,hs,hD⟩:=h
 refine ⟨xs,clock,hb,F,?_,hD⟩
 injection hD with hD
 rw [hD,length_sorted];simp
theorem mapIs_of {es:List (Lit × DataW Value)} (h:w.ownsMap P k rawR b n (.map es)) (hp:es.Perm (heldL l)):MapIs P k w b l:=by
 have e:es.length=l.length:=by rw [hp.length_eq];simp [heldL]
 exact ⟨es,e ▸ ownsMap_exact h,hp⟩
theorem MapIs.made (P:Program) (k:TypeId) (w:World):MapIs P k (w.alloc (.map #[] 0)) w.heap.size []:=⟨[],World.ownsMap_made w P k rawR,.refl _⟩
theorem MapIs.lt (h:MapIs P k w b l):b < w.heap.size:=by obtain ⟨es,h1,_⟩:=h;exact h1.lt
theorem MapIs.kept {w':World} {row:Option Nat} (h:MapIs P k w b l) (hg:w.grownBy w' row) (hne:some b≠row):MapIs P k w' b l:=by
 obtain ⟨es,h1,h2⟩:=h;exact ⟨es,h1.kept hg hne,h2⟩
theorem MapIs.block {w':World} (h:MapIs P k w b l) (hb:w'.heap[b]? = w.heap[b]?):MapIs P k w' b l:=by
 obtain ⟨es,⟨xs,clock,h1,r⟩,h2⟩:=h;exact ⟨es,⟨xs,clock,hb.trans h1,r⟩,h2⟩
theorem MapIs.not_cells {cs:Array Value} {T:TypeId} {z:Nat × Nat} (h:MapIs P k w b l) (hc:w.heap[b]? = some (.cells cs T z)):False:=by
 obtain ⟨es,⟨xs,clock,h1,r⟩,h2⟩:=h;rw [hc] at h1;cases h1
theorem heldL_mem {x:Lit × Value}:(x.1,DataW.held x.2) ∈ heldL l ↔ x ∈ l:=by
 unfold heldL
 simp only [List.mem_map,Prod.mk.injEq,DataW.held.injEq]
 constructor
 ·rintro ⟨y,hy,h1,h2⟩;rw [show x=y from Prod.ext h1.symm h2.symm];exact hy
 ·intro h;exact ⟨x,h,rfl,rfl⟩
theorem MapIs.apart (h:MapIs P k w b l) (K:Keyed P k):l.Pairwise (fun p q=>p.1≠q.1):=by
 obtain ⟨es,h1,h2⟩:=h
 obtain ⟨es',e,hp⟩:=h1.tidy K
 injection e with e
 subst e
 have:=(h2.pairwise_iff (R:=fun p q:Lit × DataW Value=>p.1≠q.1) (fun {_ _} h=>Ne.symm h)).1 hp
 unfold heldL at this
 rw [List.pairwise_map] at this
 exact this
theorem MapIs.isKey (h:MapIs P k w b l) (K:Keyed P k):∀ x ∈ l,WideAt.IsKeyLit x.1:=by
 intro x hx
 obtain ⟨es,h1,h2⟩:=h
 obtain ⟨es',e,_,hk⟩:=h1.entries K
 injection e with e
 subst e
 exact hk _ (h2.mem_iff.2 (heldL_mem.2 hx))
theorem atKey_mem {es:List (Lit × DataW Value)} {kl:Lit} {z d:DataW Value} (hk:WideAt.IsKeyLit kl) (ha:es.Pairwise (fun p q=>p.1≠q.1)) (hm:(kl,d) ∈ es):(DataW.map es).atKey kl z=d:=by
 unfold DataW.atKey
 simp only
 induction es with
 | nil=>cases hm
 | cons a r ih =>
  rw [List.pairwise_cons] at ha
  by_cases hc:a.1.sameKey kl=true
  ·rw [List.find?_cons_of_pos (p:=fun p:Lit × DataW Value=>p.1.sameKey kl) hc]
   have e:=WideAt.sameKey_eq hc
   rcases List.mem_cons.1 hm with h|h
   ·rw [← h]
   ·exact absurd e (ha.1 _ h)
  ·rw [List.find?_cons_of_neg (p:=fun p:Lit × DataW Value=>p.1.sameKey kl) hc]
   rcases List.mem_cons.1 hm with h|h
   ·exfalso;apply hc;rw [← h];exact WideAt.sameKey_self hk
   ·exact ih ha.2 h
theorem atKey_none {es:List (Lit × DataW Value)} {kl:Lit} {z:DataW Value} (hm:∀ p ∈ es,p.1≠kl):(DataW.map es).atKey kl z=z:=by
 unfold DataW.atKey
 simp only
 rw [List.find?_eq_none.2 (fun p hp hc=>hm p hp (WideAt.sameKey_eq hc))]
theorem MapIs.look (h:MapIs P k w b l) (K:Keyed P k) (ht:P.underlying t=some (.map k e)) {z:Value} (hz:(zeroValue e).run P w = .ok z w) {key:Value} {kl:Lit} (hkey:keyOf P k key=some kl) {v:Value} (hv:(kl,v) ∈ l) :
  (Instr.lookup t (.map (some b)) key false).run P w = .ok v w:=by
 obtain ⟨es,h1,h2⟩:=h
 obtain ⟨u,ps,hr,hR⟩:=h1.lookup K ht hz (zd:=.held z) (zp:=[]) rfl hkey
 obtain ⟨es',e,hp⟩:=h1.tidy K
 injection e with e
 subst e
 rw [atKey_mem (K.key hkey) hp (h2.mem_iff.2 (heldL_mem (x:=(kl,v)).2 hv))] at hR
 unfold rawR at hR
 simp only [Option.some.injEq,Prod.mk.injEq,DataW.held.injEq] at hR
 rw [hr,hR.1]
theorem MapIs.look_no (h:MapIs P k w b l) (K:Keyed P k) (ht:P.underlying t=some (.map k e)) {z:Value} (hz:(zeroValue e).run P w = .ok z w) {key:Value} {kl:Lit} (hkey:keyOf P k key=some kl) (hv:∀ x ∈ l,x.1≠kl) :
  (Instr.lookup t (.map (some b)) key false).run P w = .ok z w:=by
 obtain ⟨es,h1,h2⟩:=h
 obtain ⟨u,ps,hr,hR⟩:=h1.lookup K ht hz (zd:=.held z) (zp:=[]) rfl hkey
 rw [atKey_none (fun p hp=>by
  have:=h2.mem_iff.1 hp
  unfold heldL at this
  obtain ⟨x,hx,rfl⟩:=List.mem_map.1 this
  exact hv x hx)] at hR
 unfold rawR at hR
 simp only [Option.some.injEq,Prod.mk.injEq,DataW.held.injEq] at hR
 rw [hr,hR.1]
theorem heldL_filter (f:Lit→Bool) (l:List (Lit × Value)):(heldL l).filter (fun p=>f p.1)=heldL (l.filter fun x=>f x.1):=by
 unfold heldL;rw [List.filter_map];rfl
theorem MapIs.store (h:MapIs P k w b l) (K:Keyed P k) (ht:P.underlying t=some (.map k e)) (hn:l.length < maxLen) {key:Value} {kl:Lit} (hkey:keyOf P k key=some kl) (v:Value) :
  ∃ w',(Instr.mapUpdate t (.map (some b)) key v).run P w = .ok () w'∧MapIs P k w' b ((kl,v) :: l.filter fun x=>!x.1.sameKey kl)∧w.grownBy w' (some b):=by
 obtain ⟨es,h1,h2⟩:=h
 obtain ⟨w',hr,ho,hg⟩:=h1.update K ht hn hkey (val:=v) (d:=.held v) (ps:=[]) rfl
 refine ⟨w',hr,mapIs_of ho ?_,hg⟩
 refine (WideShapes.insert_perm _ _).trans ?_
 refine List.Perm.cons _ ((h2.filter _).trans ?_)
 rw [heldL_filter (fun x=>!x.sameKey kl)]
 exact .refl _
theorem MapIs.drop (h:MapIs P k w b l) (K:Keyed P k) (ht:P.underlying t=some (.map k e)) {key:Value} {kl:Lit} (hkey:keyOf P k key=some kl) (ty:TypeId) :
  ∃ w',(Builtin.delete_ #[t,k] ty #[.map (some b),key]).run P w = .ok (.tuple #[]) w'∧MapIs P k w' b (l.filter fun x=>!x.1.sameKey kl)∧w.grownBy w' (some b):=by
 obtain ⟨es,h1,h2⟩:=h
 obtain ⟨w',hr,ho,hg⟩:=h1.drop K ht hkey ty
 refine ⟨w',hr,mapIs_of ho ?_,hg.grown⟩
 refine (h2.filter _).trans ?_
 rw [heldL_filter (fun x=>!x.sameKey kl)]
theorem MapIs.len (h:MapIs P k w b l) (ht:P.underlying t=some (.map k e)) (ty:TypeId):(Builtin.len_ #[t] ty #[.map (some b)]).run P w = .ok (.int .i64 l.length) w:=by
 obtain ⟨es,h1,h2⟩:=h
 rw [h1.len ht ty]
 have e:Maps.size (DataW.map es)=l.length:=by show es.length=_;rw [h2.length_eq];simp [heldL]
 rw [e]
theorem MapIs.struck {w':World} {n:Nat} {pd:Lit→DataW Value→Bool} {es:List (Lit × DataW Value)} (hp:es.Perm (heldL l)) (h:w'.ownsMap P k rawR b n (Lib.deleteFuncD pd (.map es))):MapIs P k w' b (l.filter fun x=>!pd x.1 (.held x.2)):=by
 refine mapIs_of h ((hp.filter _).trans ?_)
 unfold heldL;rw [List.filter_map];exact .refl _
end
section
variable {P:Program} (w:World) {ops:Array Oper} {rest:List Oper} {o:Oper} {a:Act} {Q:Exit→Act→World→Prop}
theorem wpList_mapDrop (hg:o.guard=none) (m x:Operand) (t k:TypeId) (hop:o.op=Op.call { callee:=Callee.builtin Builtin.delete,args:=#[m,x],argTypes:=#[t,k] })
  (e:TypeId) (K:Keyed P k) (ht:P.underlying t=some (.map k e)) (b:Nat) (l:List (Lit × Value))
  (hm:a.eval m = .map (some b)) (h:MapIs P k w b l) (key:Value) (kl:Lit) (hx:a.eval x=key) (hkey:keyOf P k key=some kl)
  (hK:∀ w',MapIs P k w' b (l.filter fun x=>!x.1.sameKey kl)→w.grownBy w' (some b)→wpList P ops Q rest (a.put o.dst (.tuple #[])) w'):wpList P ops Q (o :: rest) a w:=by
 refine wpList_plain hg fun K' hK'=>?_
 obtain ⟨w',hrun,r1,r2⟩:=h.drop K ht hkey o.type
 unfold Oper.wp
 simp [execOp,hop,resolve,invoke,builtin,hm,hx,hrun,Result.andThen]
 exact hK' _ _ (hK w' r1 r2)
end
end Go.Proofs.YtkhheooofcpfdaaGreatDoor
namespace Go.Proofs.YtkhheooofcpfdaaGreatDoor
open Go.RowKit Go.Maps
set_option linter.unusedVariables false
def KyOk (k:Ky):Prop:=(Lit.int .i64 k.kind).wf=true∧(Lit.int .i64 k.src).wf=true∧(Lit.int .i64 k.frm).wf=true∧(Lit.int .i64 k.dst).wf=true∧(Lit.int .i64 k.too).wf=true
theorem KyOk.turn {k:Ky} (h:KyOk k):KyOk (turnK k):=⟨h.1,h.2.2.2.1,h.2.2.2.2,h.2.1,h.2.2.1⟩
theorem KyOk.first {k:Ky} (h:KyOk k):KyOk (firstK k):=by
 unfold firstK
 split
 ·exact h.turn
 ·exact h
theorem Tryz.laidOutK:laidOutB Tryz.prog=true:=by kernel_rfl
theorem Tryz.rowKey:(37:TypeId) < Tryz.prog.types.size:=of_decide_eq_true (by kernel_rfl)
theorem Tryz.cellsKey:Tryz.prog.cellsOf 37=5:=by kernel_rfl
theorem Tryz.cellsIntK:Tryz.prog.cellsOf 3=1:=by kernel_rfl
theorem Tryz.deepKey:Tryz.prog.keyType 37=true:=by kernel_rfl
theorem Tryz.wideKey:(match Tryz.prog.underlying 37 with|some (.array _ _)|some (.struct _)=>true|_=>false)=true:=by kernel_rfl
set_option maxRecDepth 100000 in
theorem lawK:Keyed Tryz.prog 37:=Keyed.of_law (deep_law_laid Tryz.laidOutK (m:=2) (by omega) Tryz.rowKey (by kernel_rfl) Tryz.wideKey)
theorem Tryz.someTypesK:1≤Tryz.prog.types.size:=Nat.lt_of_le_of_lt (Nat.zero_le _) Tryz.rowKey
theorem keyK_ex {n:Ky} (h:KyOk n):∃ l,keyOf Tryz.prog 37 (keyV n)=some l:=by
 obtain ⟨wa,wb,wc,wd,we⟩:=h
 have hf:(keyV n).formed Tryz.prog 37=true:=by
  simp [keyV,Value.formed,Tryz.underlying37,Tryz.cellsKey]
 have hint:∀ (d:Nat) (x:Int),(Lit.int .i64 x).wf=true→Tryz.prog.keyLits (d+1) 3 [.int .i64 x]=some [.int .i64 x]:=by
  intro d x hx
  unfold Program.keyLits
  rw [Tryz.underlying3]
  simp [hx]
 have hst:∀ d:Nat,Tryz.prog.keyLits (d+1+1) 37 [.int .i64 n.kind,.int .i64 n.src,.int .i64 n.frm,.int .i64 n.dst,.int .i64 n.too]=some [.int .i64 n.kind,.int .i64 n.src,.int .i64 n.frm,.int .i64 n.dst,.int .i64 n.too]:=by
  intro d
  unfold Program.keyLits
  rw [Tryz.underlying37]
  simp [Tryz.cellsKey,Tryz.cellsIntK,hint d _ wa,hint d _ wb,hint d _ wc,hint d _ wd,hint d _ we]
 have hl:∃ ls,Tryz.prog.keyLits (Tryz.prog.types.size+1) 37 (keyV n).cells.toList=some ls:=by
  have e:Tryz.prog.types.size+1=Tryz.prog.types.size - 1+1+1:=by have:=Tryz.someTypesK;omega
  rw [e]
  exact ⟨_,hst _⟩
 obtain ⟨ls,hl⟩:=hl
 refine ⟨.string (keyBytes ls),?_⟩
 unfold keyOf
 rw [Tryz.underlying37]
 simp only [Tryz.deepKey,hf,Bool.and_self,if_true,hl,Option.map_some]
noncomputable def litK (n:Ky):Lit:=(keyOf Tryz.prog 37 (keyV n)).getD .nil
theorem keyK {n:Ky} (h:KyOk n):keyOf Tryz.prog 37 (keyV n)=some (litK n):=by
 obtain ⟨l,hl⟩:=keyK_ex h
 unfold litK;rw [hl];rfl
theorem keyV_inj {a b:Ky} (h:keyV a=keyV b):a=b:=by
 obtain ⟨a1,a2,a3,a4,a5⟩:=a
 obtain ⟨b1,b2,b3,b4,b5⟩:=b
 simpa [keyV] using h
theorem litK_inj {a b:Ky} (ha:KyOk a) (hb:KyOk b) (h:litK a=litK b):a=b:=by
 have h1:=keyK ha
 have h2:=keyK hb
 rw [h] at h1
 exact keyV_inj (lawK.inj h1 h2)
section
variable {P:Program} {k t e:TypeId} {w:World} {b:Nat} {l:List (Lit × Value)}
theorem MapIs.look_ok (h:MapIs P k w b l) (K:Keyed P k) (ht:P.underlying t=some (.map k e)) {z:Value} (hz:(zeroValue e).run P w = .ok z w) {key:Value} {kl:Lit} (hkey:keyOf P k key=some kl) {v:Value} (hv:(kl,v) ∈ l) :
  (Instr.lookup t (.map (some b)) key true).run P w = .ok (.tuple #[v,.bool true]) w:=by
 obtain ⟨es,h1,h2⟩:=h
 obtain ⟨u,ps,hr,hR⟩:=h1.look_ok K ht hz (zd:=.held z) (zp:=[]) rfl hkey
 obtain ⟨es',e,hp⟩:=h1.tidy K
 injection e with e
 subst e
 have hm:=h2.mem_iff.2 (heldL_mem (x:=(kl,v)).2 hv)
 rw [atKey_mem (K.key hkey) hp hm] at hR
 unfold rawR at hR
 simp only [Option.some.injEq,Prod.mk.injEq,DataW.held.injEq] at hR
 have hh:Maps.has (DataW.map es) kl=true:=by
  unfold Maps.has
  simp only [List.any_eq_true]
  exact ⟨_,hm,WideAt.sameKey_self (K.key hkey)⟩
 rw [hr,hR.1,hh]
theorem MapIs.look_ok_no (h:MapIs P k w b l) (K:Keyed P k) (ht:P.underlying t=some (.map k e)) {z:Value} (hz:(zeroValue e).run P w = .ok z w) {key:Value} {kl:Lit} (hkey:keyOf P k key=some kl) (hv:∀ x ∈ l,x.1≠kl) :
  (Instr.lookup t (.map (some b)) key true).run P w = .ok (.tuple #[z,.bool false]) w:=by
 obtain ⟨es,h1,h2⟩:=h
 obtain ⟨u,ps,hr,hR⟩:=h1.look_ok K ht hz (zd:=.held z) (zp:=[]) rfl hkey
 have hn:∀ p ∈ es,p.1≠kl:=fun p hp=>by
  have:=h2.mem_iff.1 hp
  unfold heldL at this
  obtain ⟨x,hx,rfl⟩:=List.mem_map.1 this
  exact hv x hx
 rw [atKey_none hn] at hR
 unfold rawR at hR
 simp only [Option.some.injEq,Prod.mk.injEq,DataW.held.injEq] at hR
 have hh:Maps.has (DataW.map es) kl=false:=by
  unfold Maps.has
  rw [List.any_eq_false]
  exact fun p hp hc=>hn p hp (WideAt.sameKey_eq hc)
 rw [hr,hR.1,hh]
end
end Go.Proofs.YtkhheooofcpfdaaGreatDoor
namespace Go.Proofs.YtkhheooofcpfdaaGreatDoor
set_option linter.unusedVariables false
instance:DecidableEq Ky:=fun a b =>
 if h:a.kind=b.kind∧a.src=b.src∧a.frm=b.frm∧a.dst=b.dst∧a.too=b.too then
  isTrue (by obtain ⟨a1,a2,a3,a4,a5⟩:=a;obtain ⟨b1,b2,b3,b4,b5⟩:=b;obtain ⟨h1,h2,h3,h4,h5⟩:=h;simp only at h1 h2 h3 h4 h5;subst h1;subst h2;subst h3;subst h4;subst h5;rfl)
 else isFalse (by rintro rfl;exact h ⟨rfl,rfl,rfl,rfl,rfl⟩)
structure Tb where
 max:Int
 now:Int
 fs:List Fl
def timE (t:Tb) (now:Int):Int:=if now < 0∨1000000 < now then 1 else if now < t.now then 6 else 0
def goneB (now:Int) (f:Fl):Bool:=decide (f.unt≤now)
def leftL (now:Int) (fs:List Fl):List Fl:=fs.filter fun f=>!goneB now f
def hasK (fs:List Fl) (k:Ky):Bool:=fs.any fun f=>decide (firstK f.key=firstK k)
def tbE (t:Tb) (k:Ky) (s:Sg) (rule now:Int):Int :=
 if ¬ timE t now=0 then timE t now else if ¬ begE k s rule now=0 then begE k s rule now else if hasK (leftL now t.fs) k=true then 7 else if t.max≤((leftL now t.fs).length:Int) then 4 else 0
def tbS (t:Tb) (k:Ky) (s:Sg) (rule now:Int):Tb :=
 if tbE t k s rule now=0 then { max:=t.max,now:=now,fs:=begG k s rule now :: leftL now t.fs } else t
def tbF (t:Tb) (k:Ky) (s:Sg) (rule now:Int):Fl:=if tbE t k s rule now=0 then begG k s rule now else zeroF
theorem hasK_of {fs:List Fl} {k:Ky} (h:hasK fs k=true):∃ f ∈ fs,firstK f.key=firstK k:=by
 unfold hasK at h
 obtain ⟨f,hf,h⟩:=List.any_eq_true.1 h
 exact ⟨f,hf,by simpa using h⟩
theorem hasK_not {fs:List Fl} {k:Ky} (h:hasK fs k=false):∀ f ∈ fs,¬ firstK f.key=firstK k:=by
 unfold hasK at h
 intro f hf
 have:=List.any_eq_false.1 h f hf
 simpa using this
theorem timE_ok {t:Tb} {now:Int} (h:timE t now=0):0≤now∧now≤1000000∧t.now≤now:=by
 unfold timE at h
 split at h
 ·cases h
 split at h
 ·cases h
 ·omega
structure TbOk (t:Tb):Prop where
 mx:1≤t.max∧t.max≤30
 nw:0≤t.now∧t.now≤1000000
 ap:t.fs.Pairwise fun f g=>firstK f.key≠firstK g.key
 le:(t.fs.length:Int)≤t.max
theorem TbOk.begun {t:Tb} (h:TbOk t) (k:Ky) (s:Sg) (rule now:Int):TbOk (tbS t k s rule now):=by
 unfold tbS
 split
 case isFalse=>exact h
 rename_i he
 unfold tbE at he
 split at he
 ·contradiction
 rename_i ht
 split at he
 ·contradiction
 split at he
 ·cases he
 rename_i hh
 split at he
 ·cases he
 rename_i hl
 have ht':=timE_ok (Decidable.of_not_not ht)
 refine ⟨h.mx,⟨ht'.1,ht'.2.1⟩,?_,?_⟩
 ·show (begG k s rule now :: leftL now t.fs).Pairwise _
  rw [List.pairwise_cons]
  refine ⟨fun g hg=>?_,h.ap.filter _⟩
  have:=hasK_not (by simpa using hh) g hg
  exact fun e=>this e.symm
 ·show ((begG k s rule now :: leftL now t.fs).length:Int)≤t.max
  simp only [List.length_cons]
  omega
/-! ### the table that gets full -/
def fuK (i:Int):Ky:={ kind:=2,src:=1,frm:=i,dst:=2,too:=9 }
def fuS (i:Int):Sg:={ frm:=i,too:=9,seq:=0,ack:=0,win:=0,flg:=0,body:=[] }
theorem fuK_first (i:Int):firstK (fuK i)=fuK i:=by simp [firstK,fuK]
theorem fuK_beg {i now:Int} (h0:0≤i) (h1:i≤65535) (n0:0≤now) (n1:now≤1000000):begE (fuK i) (fuS i) 0 now=0:=by
 have e:sdE (fuK i) (fuS i) 0 now=0:=by
  unfold sdE
  rw [if_neg (by rw [inR_yes n0 n1];decide)]
  have hs:sgErr (fuK i).kind (fuS i) (fuK i).src (fuK i).dst=0:=by
   unfold sgErr
   have e1:(isK (fuK i).kind && upB (fuK i).src 4294967295 && upB (fuK i).dst 4294967295 && fitB (fuK i).kind (fuS i))=true:=by
    simp [isK,upB,fitB,frmB,seqM,fuK,fuS];exact decide_eq_true ⟨h0,h1⟩
   rw [if_neg (by rw [e1];decide),if_neg (by simp [lackB,fuK,fuS]),if_neg (by simp [hdN,fuK,fuS])]
  rw [if_neg (fun h=>h hs),if_neg (by simp [ofB,fuK,fuS])]
 unfold begE
 rw [if_neg (by decide),if_neg (fun h=>h e),if_neg (by simp [fuK])]
structure Full (max now:Int) (i:Nat) (t:Tb):Prop where
 mx:t.max=max
 nw:t.now≤now
 ln:t.fs.length=i
 al:∀ f ∈ t.fs,f.unt=now+30∧∃ j:Int,0≤j∧j < i∧f.key=fuK j
theorem Full.left {max now:Int} {i:Nat} {t:Tb} (h:Full max now i t) {d:Int} (hd:d < 30):leftL (now+d) t.fs=t.fs:=by
 unfold leftL
 rw [List.filter_eq_self]
 intro f hf
 have:=(h.al f hf).1
 simp [goneB];omega
theorem Full.none {max now:Int} {i:Nat} {t:Tb} (h:Full max now i t) {k:Int} (hk:(i:Int)≤k):hasK t.fs (fuK k)=false:=by
 cases hh:hasK t.fs (fuK k)
 ·rfl
 ·obtain ⟨f,hf,e⟩:=hasK_of hh
  obtain ⟨j,j0,j1,ej⟩:=(h.al f hf).2
  rw [ej,fuK_first,fuK_first] at e
  have:j=k:=congrArg Ky.frm e
  omega
theorem Full.begin {max now:Int} {i:Nat} {t:Tb} (h:Full max now i t) (hi:(i:Int) < max) (hm:max≤30) (n0:0≤now) (n1:now≤900000) :
  tbE t (fuK i) (fuS i) 0 now=0∧Full max now (i+1) (tbS t (fuK i) (fuS i) 0 now):=by
 have ht:timE t now=0:=by
  unfold timE
  rw [if_neg (by omega),if_neg (by have:=h.nw;omega)]
 have hb:=fuK_beg (i:=i) (now:=now) (by omega) (by omega) n0 (by omega)
 have hl:=h.left (d:=0) (by omega)
 rw [Int.add_zero] at hl
 have e:tbE t (fuK i) (fuS i) 0 now=0:=by
  unfold tbE
  rw [if_neg (fun x=>x ht),if_neg (fun x=>x hb),hl,if_neg (by rw [h.none (Int.le_refl _)];decide),if_neg (by have:=h.ln;have:=h.mx;omega)]
 refine ⟨e,?_⟩
 unfold tbS
 rw [if_pos e,hl]
 refine ⟨h.mx,Int.le_refl _,by simp [h.ln],fun f hf=>?_⟩
 rcases List.mem_cons.1 hf with rfl|hf
 ·exact ⟨by simp [begG,fuK,lifeI],i,by omega,by omega,rfl⟩
 ·obtain ⟨a,j,b,c,d⟩:=h.al f hf
  exact ⟨a,j,b,by omega,d⟩
theorem Full.full {max now:Int} {t:Tb} {n:Nat} (h:Full max now n t) (hn:(n:Int)=max) (hm:max≤30) (n0:0≤now) (n1:now≤900000) :
  tbE t (fuK 100) (fuS 100) 0 (now+29)=4:=by
 have ht:timE t (now+29)=0:=by
  unfold timE
  rw [if_neg (by omega),if_neg (by have:=h.nw;omega)]
 have hb:=fuK_beg (i:=100) (now:=now+29) (by omega) (by omega) (by omega) (by omega)
 have hl:=h.left (d:=29) (by omega)
 unfold tbE
 rw [if_neg (fun x=>x ht),if_neg (fun x=>x hb),hl,if_neg (by rw [h.none (by omega)];decide),if_pos (by have:=h.ln;have:=h.mx;omega)]
theorem Full.over {max now:Int} {t:Tb} {n:Nat} (h:Full max now n t) (hm:1≤max) (n0:0≤now) (n1:now≤900000) :
  tbE t (fuK 100) (fuS 100) 0 (now+30)=0∧(tbS t (fuK 100) (fuS 100) 0 (now+30)).fs.length=1:=by
 have ht:timE t (now+30)=0:=by
  unfold timE
  rw [if_neg (by omega),if_neg (by have:=h.nw;omega)]
 have hb:=fuK_beg (i:=100) (now:=now+30) (by omega) (by omega) (by omega) (by omega)
 have hl:leftL (now+30) t.fs=[]:=by
  unfold leftL
  rw [List.filter_eq_nil_iff]
  intro f hf
  have:=(h.al f hf).1
  simp [goneB];omega
 have e:tbE t (fuK 100) (fuS 100) 0 (now+30)=0:=by
  unfold tbE
  rw [if_neg (fun x=>x ht),if_neg (fun x=>x hb),hl,if_neg (by decide),if_neg (by have:=h.mx;simp;omega)]
 refine ⟨e,?_⟩
 unfold tbS
 rw [if_pos e,hl];rfl
end Go.Proofs.YtkhheooofcpfdaaGreatDoor
