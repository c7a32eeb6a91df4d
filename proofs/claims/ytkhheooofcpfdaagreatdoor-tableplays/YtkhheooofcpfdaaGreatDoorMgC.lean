/- Where a row of the call's own lies behind an append: where it lay, or in the newest block. A law on the walk's append that says so beside what the library's says. -/
import Derived.Test.YtkhheooofcpfdaaGreatDoorProg
import Derived.Laws.AppendOwn
import Derived.Laws.OwnMore
import Derived.OneCell
import Derived.WalkKit
import Derived.Below
import Derived.WalkSmall
import Derived.Test.YtkhheooofcpfdaaGreatDoorMgB
import Derived.Test.YtkhheooofcpfdaaGreatDoorMgA
import Derived.ChangeKeysEq
namespace Go.Proofs.YtkhheooofcpfdaaGreatDoor
open Go.RowKit
set_option linter.unusedVariables false
theorem run_append_where {P:Program} (w:World) (base:Nat) (t ty e:TypeId) (i:TypeInfo) (z:Value) (ht:P.underlying t=some (.slice e)) (hi:P.info? e=some i) (hz:i.zero=some z)
  (v:Value) (n:Nat) (xs:List Value) (hown:w.ownsRow base e i.size v n xs)
  (a:Addr) (m c:Nat) (news:List Value) (hl:news.length=m * i.size) (hnews:∀ j u,news[j]? = some u→w.cell? (a.add j)=some u) (h1:∀ u ∈ news,u.oneCell'=true)
  (h63:n+m≤maxLen) (hbytes:(n+m) * i.bytes≤140737488355328) {v':Value} {w':World} (hr':(Builtin.append_ #[t,t] ty #[v,.slice (some a) m c]).run P w = .ok v' w') :
  v'.ownBlock=v.ownBlock∨v'.ownBlock=some w.heap.size:=by
 have hsmall:n+m≤9223372036854775807:=by simp only [maxLen] at h63;omega
 rcases hown.2 with ⟨rfl,rfl⟩|⟨g,cap,cur,rfl,hbg,hg,hnc,hcm,hcs,htake⟩
 ·by_cases hm:m=0
  ·subst hm
   have hn:news=[]:=List.eq_nil_of_length_eq_zero (by simpa using hl)
   subst hn
   have hr:(Builtin.append_ #[t,t] ty #[.slice none 0 0,.slice (some a) 0 c]).run P w = .ok (.slice none 0 0) w:=by
    simp [Builtin.append_,run_underlying ht,sizeOf,typeInfo,hi,Builtin.lenOf,Builtin.firstCells,loadCells,loadCellsFrom]
   rw [hr] at hr'
   injection hr' with e1 e2
   subst e1;exact .inl rfl
  ·have hr:=run_append_nil (P:=P) w t ty e i z ht hi hz a m c news hl hnews (by omega) (by omega) (by have hb:=hbytes;simp only [Nat.zero_add] at hb;omega)
   rw [hr] at hr'
   injection hr' with e1 e2
   subst e1;exact .inr rfl
 ·by_cases hroom:n+m≤cap
  ·have hfit:n * i.size+news.length≤cur.size:=by rw [hl,hcs,← Nat.add_mul];exact Nat.mul_le_mul_right _ hroom
   have hr:=run_append_room (P:=P) w t ty e i ht hi g n cap cur hg a m c news hl hnews h1 hroom hfit
   rw [hr] at hr'
   injection hr' with e1 e2
   subst e1;exact .inl rfl
  ·have holds:∀ j u,xs[j]? = some u→w.cell? ((⟨g,0,none⟩:Addr).add j)=some u:=hown.cells (g:=g) rfl
   have hr:=run_append_grow (P:=P) w t ty e i z ht hi hz ⟨g,0,none⟩ n cap xs hown.1 holds a m c news hl hnews (by omega) (by omega) (growslice_fits (by omega) hbytes)
   rw [hr] at hr'
   injection hr' with e1 e2
   subst e1;exact .inr rfl
theorem wpList_append_at {P:Program} {w:World} {ops:Array Oper} {rest:List Oper} {o:Oper} {a:Act} {Q:Exit→Act→World→Prop} (hgd:o.guard=none) (s x:Operand) (t:TypeId)
  (ho:o.op = .call { callee:=.builtin .append,args:=#[s,x],argTypes:=#[t,t] })
  (base:Nat) (e:TypeId) (i:TypeInfo) (z:Value) (size bytes:Nat) (ht:P.underlying t=some (.slice e)) (hi:P.info? e=some i) (hz:i.zero=some z)
  (hsize:i.size=size) (hby:i.bytes=bytes) (hzs:z.cells.size=size) (hsz:0 < size)
  (v:Value) (n:Nat) (xs:List Value) (hs:a.eval s=v) (hown:w.ownsRow base e size v n xs)
  (ad:Addr) (m c:Nat) (news:List Value) (hx:a.eval x = .slice (some ad) m c) (hl:news.length=m * size) (hnews:∀ j u,news[j]? = some u→w.cell? (ad.add j)=some u) (h1:∀ u ∈ news,u.oneCell'=true)
  (h63:n+m≤maxLen) (hbytes:(n+m) * bytes≤140737488355328) (hbase:base≤w.heap.size)
  (h:∀ v' w',w'.ownsRow base e size v' (n+m) (xs++news)→w.grownBy w' v.ownBlock→(v'.ownBlock=v.ownBlock∨v'.ownBlock=some w.heap.size)→wpList P ops Q rest (a.put o.dst v') w'):wpList P ops Q (o :: rest) a w:=by
 refine wpList_plain hgd fun K hK=>?_
 obtain ⟨v',w',hr,h2,h3,_⟩:=run_append_own (P:=P) w base t o.type e i z size bytes ht hi hz hsize hby hzs hsz v n xs hown ad m c news hl hnews h1 h63 hbytes hbase
 have h4:=run_append_where w base t o.type e i z ht hi hz v n xs (by rw [hsize];exact hown) ad m c news (by rw [hsize];exact hl) hnews h1 h63 (by rw [hby];exact hbytes) hr
 unfold Oper.wp execOp
 simp only [ho,resolve,invoke,builtin,Sem.run_bind,Sem.run_pure,Result.andThen_ok,List.map_toArray,List.map_cons,List.map_nil,hs,hx,hr]
 exact hK _ _ (h v' w' h2 h3 h4)
end Go.Proofs.YtkhheooofcpfdaaGreatDoor
namespace Go.Proofs.YtkhheooofcpfdaaGreatDoor
open Go.RowKit
set_option linter.unusedVariables false
def Grew (v v':Value) (w w':World):Prop:=w.grownBy w' v.ownBlock∧(v'.ownBlock=v.ownBlock∨∃ k,v'.ownBlock=some k∧w.heap.size≤k)
theorem Grew.refl (v:Value) (w:World):Grew v v w w:=⟨⟨rfl,rfl,rfl,Nat.le_refl _,fun _ _ _=>rfl⟩,.inl rfl⟩
theorem Grew.trans {v v' v'':Value} {w w' w'':World} (h:Grew v v' w w') (k:Grew v' v'' w' w''):Grew v v'' w w'':=by
 obtain ⟨g1,e1⟩:=h
 obtain ⟨g2,e2⟩:=k
 refine ⟨⟨g2.os.trans g1.os,g2.tape.trans g1.tape,g2.output.trans g1.output,Nat.le_trans g1.size g2.size,fun i hi hne=>?_⟩,?_⟩
 ·rw [g2.block i (Nat.lt_of_lt_of_le hi g1.size) (fun he=>?_),g1.block i hi hne]
  rcases e1 with e1|⟨k,e1,hk⟩
  ·rw [e1] at he;exact hne he
  ·rw [e1] at he;simp only [Option.some.injEq] at he;omega
 ·rcases e2 with e2|⟨k,e2,hk⟩
  ·rw [e2];exact e1
  ·exact .inr ⟨k,e2,Nat.le_trans g1.size hk⟩
theorem Grew.below {v v':Value} {w w' w0:World} {B:Nat} (h:Grew v v' w w') (hb:Below B w0 w) (hB:B≤w.heap.size) (hv:∀ k,v.ownBlock=some k→B≤k):Below B w0 w':=hb.grown h.1 hB hv
theorem wpList_append_byte {w:World} {ops:Array Oper} {rest:List Oper} {o:Oper} {a:Act} {Q:Exit→Act→World→Prop} (hgd:o.guard=none) (s x:Operand)
  (ho:o.op = .call { callee:=.builtin .append,args:=#[s,x],argTypes:=#[39,39] })
  (base:Nat) (v:Value) (cur:List Int) (hs:a.eval s=v) (hown:OwnB w base v cur) (y:Int) (hy:0≤y∧y≤255) (hx:a.eval x = .slice (some ⟨w.heap.size,0,none⟩) 1 1)
  (hlen:cur.length≤1000000) (hbase:base≤w.heap.size)
  (h:∀ v' w',OwnB w' base v' (cur++[y])→Grew v v' w w'→wpList Tryz.prog ops Q rest (a.put o.dst v') w') :
  wpList Tryz.prog ops Q (o :: rest) a (w.alloc (.cells #[.int .u8 y] 5)):=by
 obtain ⟨i0,hi,hz0,hz1,hz2⟩:=info_parts Tryz.infoU8
 refine wpList_append_at hgd s x 39 ho base 5 i0 (.int .u8 0) 1 1 Tryz.underlying39 hi hz0 hz1 hz2 rfl (by decide) v cur.length (cur.map (Value.int .u8)) hs (hown.alloc _).1 ⟨w.heap.size,0,none⟩ 1 1 [.int .u8 y] hx rfl ?_ ?_ (by unfold maxLen;omega) (by omega) (by simp;omega) ?_
 ·intro j u hj
  match j,hj with
  | 0,hj=>simp at hj;subst hj;simp [Addr.add]
 ·intro u hu;simp at hu;subst hu;rfl
 ·intro v' w' h1 h2 h3
  refine h v' w' ⟨?_,?_⟩ ⟨⟨h2.os,h2.tape,h2.output,Nat.le_trans (by simp) h2.size,fun i hi hne=>?_⟩,?_⟩
  ·rw [List.length_append,List.map_append];exact h1
  ·intro z hz
   rcases List.mem_append.1 hz with h'|h'
   ·exact hown.2 z h'
   ·rw [List.mem_singleton.1 h'];exact hy
  ·rw [h2.block i (by simp;omega) hne]
   exact Below.heap_alloc w _ i hi
  ·rcases h3 with h3|h3
   ·exact .inl h3
   ·exact .inr ⟨_,h3,by simp⟩
theorem OwnB.beside {w w':World} {base b':Nat} {t v v':Value} {zs ys:List Int} (h:OwnB w base t zs) (hv:OwnB w b' v ys) (hlt:∀ k,v.ownBlock=some k→k < base) (hg:w.grownBy w' v.ownBlock):OwnB w' base t zs:=by
 refine ⟨h.1.kept hg ?_,h.2⟩
 rcases ht:t.ownBlock with _|k
 ·exact .inl rfl
 ·refine .inr (fun he=>?_)
  have h1:=(h.1.lt k ht).1
  have h2:=hlt k (by rw [← he])
  omega
theorem OwnB.block_ge {w:World} {base:Nat} {v:Value} {zs:List Int} (h:OwnB w base v zs):∀ k,v.ownBlock=some k→base≤k:=fun k hk=>(h.1.lt k hk).1
theorem OwnB.apart {w w':World} {base:Nat} {t:Value} {zs:List Int} {row:Option Nat} (h:OwnB w base t zs) (hg:w.grownBy w' row) (hne:∀ k,t.ownBlock=some k→row=some k→False):OwnB w' base t zs:=by
 refine ⟨h.1.kept hg ?_,h.2⟩
 rcases ht:t.ownBlock with _|k
 ·exact .inl rfl
 ·exact .inr (fun he=>hne k ht he.symm)
end Go.Proofs.YtkhheooofcpfdaaGreatDoor
namespace Go.Proofs.YtkhheooofcpfdaaGreatDoor
open Go.RowKit
set_option linter.unusedVariables false
theorem OwnB.stay {w w':World} {base B:Nat} {v:Value} {zs:List Int} (h:OwnB w base v zs) (hB:w.heap.size≤B) (hb:Below B w w'):OwnB w' base v zs:=by
 refine ⟨⟨h.1.1,?_⟩,h.2⟩
 rcases h.1.2 with h0|⟨k,cp,cur,h1,h2,h3,h4⟩
 ·exact .inl h0
 ·refine .inr ⟨k,cp,cur,h1,h2,?_,h4⟩
  have hlt:k < w.heap.size:=by
   rcases Nat.lt_or_ge k w.heap.size with h|h
   ·exact h
   ·simp [Array.getElem?_eq_none h] at h3
  rw [hb.block k (by omega)];exact h3
def segV (p:Sg) (bv:Value):Value:=.agg #[.int .i64 p.frm,.int .i64 p.too,.int .i64 p.seq,.int .i64 p.ack,.int .i64 p.win,.int .i64 p.flg,bv]
def SgAt (w:World) (b:Nat) (p:Sg) (bv:Value):Prop:=w.heap[b]? = some (.cells #[.int .i64 p.frm,.int .i64 p.too,.int .i64 p.seq,.int .i64 p.ack,.int .i64 p.win,.int .i64 p.flg,bv] 41 (0,0))
theorem SgAt.lt {w:World} {b:Nat} {p:Sg} {bv:Value} (h:SgAt w b p bv):b < w.heap.size:=by
 rcases Nat.lt_or_ge b w.heap.size with h1|h1
 ·exact h1
 ·unfold SgAt at h;simp [Array.getElem?_eq_none h1] at h
theorem SgAt.new (w:World) (p:Sg) (bv:Value):SgAt (w.alloc (.cells #[.int .i64 p.frm,.int .i64 p.too,.int .i64 p.seq,.int .i64 p.ack,.int .i64 p.win,.int .i64 p.flg,bv] 41)) w.heap.size p bv:=heap_alloc_new w _
theorem SgAt.zero (w:World):SgAt (w.alloc (.cells #[.int .i64 0,.int .i64 0,.int .i64 0,.int .i64 0,.int .i64 0,.int .i64 0,.slice none 0 0] 41)) w.heap.size zeroS (.slice none 0 0):=heap_alloc_new w _
theorem SgAt.drewN {w:World} {b:Nat} {p:Sg} {bv:Value} (h:SgAt w b p bv) (n:Nat):SgAt (w.drewN n) b p bv:=h
theorem SgAt.same {w w':World} {b:Nat} {p:Sg} {bv:Value} (h:SgAt w b p bv) (hs:Same w w'):SgAt w' b p bv:=by
 obtain ⟨n,rfl⟩:=hs;exact h
theorem SgAt.below {w w':World} {b B:Nat} {p:Sg} {bv:Value} (h:SgAt w b p bv) (hB:b < B) (hb:Below B w w'):SgAt w' b p bv:=by
 unfold SgAt;rw [hb.block b hB];exact h
theorem SgAt.only {w w':World} {b g:Nat} {p:Sg} {bv:Value} (h:SgAt w b p bv) (hne:b≠g) (ho:Only g w w'):SgAt w' b p bv:=by
 unfold SgAt;rw [ho.block b hne];exact h
theorem SgAt.alloc {w:World} {b:Nat} {p:Sg} {bv:Value} (h:SgAt w b p bv) (o:Obj):SgAt (w.alloc o) b p bv:=h.below h.lt ((Below.refl _ _).alloc (Nat.le_refl _) _)
theorem SgAt.free {w:World} {b:Nat} {p:Sg} {bv:Value} (h:SgAt w b p bv) (j:Nat):w.frozen? ⟨b,j,none⟩=false:=frozen_of_row w b j _ _ h
theorem SgAt.cells {w:World} {b:Nat} {p:Sg} {bv:Value} (h:SgAt w b p bv) :
  w.cell? ⟨b,0,none⟩=some (.int .i64 p.frm)∧w.cell? ⟨b,1,none⟩=some (.int .i64 p.too)∧w.cell? ⟨b,2,none⟩=some (.int .i64 p.seq)∧w.cell? ⟨b,3,none⟩=some (.int .i64 p.ack)∧w.cell? ⟨b,4,none⟩=some (.int .i64 p.win)∧w.cell? ⟨b,5,none⟩=some (.int .i64 p.flg)∧w.cell? ⟨b,6,none⟩=some bv:=by
 refine ⟨?_,?_,?_,?_,?_,?_,?_⟩ <;> (rw [cell_of_row w b _ _ _ _ h];rfl)
theorem set7_0 (x0 x1 x2 x3 x4 x5 x6 y:Value):(#[x0,x1,x2,x3,x4,x5,x6]:Array Value).setIfInBounds 0 y = #[y,x1,x2,x3,x4,x5,x6]:=rfl
theorem set7_1 (x0 x1 x2 x3 x4 x5 x6 y:Value):(#[x0,x1,x2,x3,x4,x5,x6]:Array Value).setIfInBounds 1 y = #[x0,y,x2,x3,x4,x5,x6]:=rfl
theorem set7_2 (x0 x1 x2 x3 x4 x5 x6 y:Value):(#[x0,x1,x2,x3,x4,x5,x6]:Array Value).setIfInBounds 2 y = #[x0,x1,y,x3,x4,x5,x6]:=rfl
theorem set7_3 (x0 x1 x2 x3 x4 x5 x6 y:Value):(#[x0,x1,x2,x3,x4,x5,x6]:Array Value).setIfInBounds 3 y = #[x0,x1,x2,y,x4,x5,x6]:=rfl
theorem set7_4 (x0 x1 x2 x3 x4 x5 x6 y:Value):(#[x0,x1,x2,x3,x4,x5,x6]:Array Value).setIfInBounds 4 y = #[x0,x1,x2,x3,y,x5,x6]:=rfl
theorem set7_5 (x0 x1 x2 x3 x4 x5 x6 y:Value):(#[x0,x1,x2,x3,x4,x5,x6]:Array Value).setIfInBounds 5 y = #[x0,x1,x2,x3,x4,y,x6]:=rfl
theorem set7_6 (x0 x1 x2 x3 x4 x5 x6 y:Value):(#[x0,x1,x2,x3,x4,x5,x6]:Array Value).setIfInBounds 6 y = #[x0,x1,x2,x3,x4,x5,y]:=rfl
theorem SgAt.store {w:World} {b:Nat} {p:Sg} {bv:Value} (h:SgAt w b p bv) (q:Sg) (v:Value) :
  ∃ w',(((((((w.setCell ⟨b,0,none⟩ (.int .i64 q.frm)).setCell ⟨b,1,none⟩ (.int .i64 q.too)).setCell ⟨b,2,none⟩ (.int .i64 q.seq)).setCell ⟨b,3,none⟩ (.int .i64 q.ack)).setCell ⟨b,4,none⟩ (.int .i64 q.win)).setCell ⟨b,5,none⟩ (.int .i64 q.flg)).setCell ⟨b,6,none⟩ v)=w'∧SgAt w' b q v∧Only b w w':=by
 refine ⟨_,rfl,?_,((((((((Only.refl _ _).setCell _ _).setCell _ _).setCell _ _).setCell _ _).setCell _ _).setCell _ _).setCell _ _)⟩
 have e0:=heap_setCell_same _ b 0 _ _ (.int .i64 q.frm) h
 rw [set7_0] at e0
 have e1:=heap_setCell_same _ b 1 _ _ (.int .i64 q.too) e0
 rw [set7_1] at e1
 have e2:=heap_setCell_same _ b 2 _ _ (.int .i64 q.seq) e1
 rw [set7_2] at e2
 have e3:=heap_setCell_same _ b 3 _ _ (.int .i64 q.ack) e2
 rw [set7_3] at e3
 have e4:=heap_setCell_same _ b 4 _ _ (.int .i64 q.win) e3
 rw [set7_4] at e4
 have e5:=heap_setCell_same _ b 5 _ _ (.int .i64 q.flg) e4
 rw [set7_5] at e5
 have e6:=heap_setCell_same _ b 6 _ _ v e5
 rw [set7_6] at e6
 exact e6
theorem SgAt.store_frm {w:World} {b:Nat} {p:Sg} {bv:Value} (h:SgAt w b p bv) (n:Int):∃ w',w.setCell ⟨b,0,none⟩ (.int .i64 n)=w'∧SgAt w' b { p with frm:=n } bv∧Only b w w':=by
 refine ⟨_,rfl,?_,(Only.refl _ _).setCell _ _⟩
 have e:=heap_setCell_same _ b 0 _ _ (.int .i64 n) h
 rw [set7_0] at e
 exact e
theorem SgAt.store_too {w:World} {b:Nat} {p:Sg} {bv:Value} (h:SgAt w b p bv) (n:Int):∃ w',w.setCell ⟨b,1,none⟩ (.int .i64 n)=w'∧SgAt w' b { p with too:=n } bv∧Only b w w':=by
 refine ⟨_,rfl,?_,(Only.refl _ _).setCell _ _⟩
 have e:=heap_setCell_same _ b 1 _ _ (.int .i64 n) h
 rw [set7_1] at e
 exact e
theorem SgAt.of {w:World} {b:Nat} {p q:Sg} {bv:Value} (h:SgAt w b p bv) (h0:p.frm=q.frm) (h1:p.too=q.too) (h2:p.seq=q.seq) (h3:p.ack=q.ack) (h4:p.win=q.win) (h5:p.flg=q.flg):SgAt w b q bv:=by
 unfold SgAt at *;rw [← h0,← h1,← h2,← h3,← h4,← h5];exact h
theorem KyAt.zero (w:World):KyAt (w.alloc (.cells #[.int .i64 0,.int .i64 0,.int .i64 0,.int .i64 0,.int .i64 0] 37)) w.heap.size zeroY:=heap_alloc_new w _
theorem KyAt.same {w w':World} {b:Nat} {p:Ky} (h:KyAt w b p) (hs:Same w w'):KyAt w' b p:=by
 obtain ⟨n,rfl⟩:=hs;exact h
theorem KyAt.only {w w':World} {b g:Nat} {p:Ky} (h:KyAt w b p) (hne:b≠g) (ho:Only g w w'):KyAt w' b p:=by
 unfold KyAt;rw [ho.block b hne];exact h
theorem set5_0 (x0 x1 x2 x3 x4 y:Value):(#[x0,x1,x2,x3,x4]:Array Value).setIfInBounds 0 y = #[y,x1,x2,x3,x4]:=rfl
theorem set5_1 (x0 x1 x2 x3 x4 y:Value):(#[x0,x1,x2,x3,x4]:Array Value).setIfInBounds 1 y = #[x0,y,x2,x3,x4]:=rfl
theorem set5_2 (x0 x1 x2 x3 x4 y:Value):(#[x0,x1,x2,x3,x4]:Array Value).setIfInBounds 2 y = #[x0,x1,y,x3,x4]:=rfl
theorem set5_3 (x0 x1 x2 x3 x4 y:Value):(#[x0,x1,x2,x3,x4]:Array Value).setIfInBounds 3 y = #[x0,x1,x2,y,x4]:=rfl
theorem set5_4 (x0 x1 x2 x3 x4 y:Value):(#[x0,x1,x2,x3,x4]:Array Value).setIfInBounds 4 y = #[x0,x1,x2,x3,y]:=rfl
theorem KyAt.store {w:World} {b:Nat} {p:Ky} (h:KyAt w b p) (q:Ky) :
  ∃ w',(((((w.setCell ⟨b,0,none⟩ (.int .i64 q.kind)).setCell ⟨b,1,none⟩ (.int .i64 q.src)).setCell ⟨b,2,none⟩ (.int .i64 q.frm)).setCell ⟨b,3,none⟩ (.int .i64 q.dst)).setCell ⟨b,4,none⟩ (.int .i64 q.too))=w'∧KyAt w' b q∧Only b w w':=by
 refine ⟨_,rfl,?_,((((((Only.refl _ _).setCell _ _).setCell _ _).setCell _ _).setCell _ _).setCell _ _)⟩
 have e0:=heap_setCell_same _ b 0 _ _ (.int .i64 q.kind) h
 rw [set5_0] at e0
 have e1:=heap_setCell_same _ b 1 _ _ (.int .i64 q.src) e0
 rw [set5_1] at e1
 have e2:=heap_setCell_same _ b 2 _ _ (.int .i64 q.frm) e1
 rw [set5_2] at e2
 have e3:=heap_setCell_same _ b 3 _ _ (.int .i64 q.dst) e2
 rw [set5_3] at e3
 have e4:=heap_setCell_same _ b 4 _ _ (.int .i64 q.too) e3
 rw [set5_4] at e4
 exact e4
theorem KyAt.store_frm {w:World} {b:Nat} {p:Ky} (h:KyAt w b p) (n:Int):∃ w',w.setCell ⟨b,2,none⟩ (.int .i64 n)=w'∧KyAt w' b { p with frm:=n }∧Only b w w':=by
 refine ⟨_,rfl,?_,(Only.refl _ _).setCell _ _⟩
 have e:=heap_setCell_same _ b 2 _ _ (.int .i64 n) h
 rw [set5_2] at e
 exact e
theorem KyAt.store_too {w:World} {b:Nat} {p:Ky} (h:KyAt w b p) (n:Int):∃ w',w.setCell ⟨b,4,none⟩ (.int .i64 n)=w'∧KyAt w' b { p with too:=n }∧Only b w w':=by
 refine ⟨_,rfl,?_,(Only.refl _ _).setCell _ _⟩
 have e:=heap_setCell_same _ b 4 _ _ (.int .i64 n) h
 rw [set5_4] at e
 exact e
theorem KyAt.of {w:World} {b:Nat} {p q:Ky} (h:KyAt w b p) (h0:p.kind=q.kind) (h1:p.src=q.src) (h2:p.frm=q.frm) (h3:p.dst=q.dst) (h4:p.too=q.too):KyAt w b q:=by
 unfold KyAt at *;rw [← h0,← h1,← h2,← h3,← h4];exact h
end Go.Proofs.YtkhheooofcpfdaaGreatDoor
namespace Go.Proofs.YtkhheooofcpfdaaGreatDoor
open Go.RowKit
set_option linter.unusedVariables false
def flV (p:Fl):Value:=.agg #[.int .i64 p.key.kind,.int .i64 p.key.src,.int .i64 p.key.frm,.int .i64 p.key.dst,.int .i64 p.key.too,.int .i64 p.st,.int .i64 p.unt,.int .i64 p.stp,.int .i64 p.h0,.int .i64 p.h1,.int .i64 p.w0,.int .i64 p.w1,.bool p.d0,.bool p.d1,.int .i64 p.num]
def FlAt (w:World) (b:Nat) (p:Fl):Prop:=w.heap[b]? = some (.cells #[.int .i64 p.key.kind,.int .i64 p.key.src,.int .i64 p.key.frm,.int .i64 p.key.dst,.int .i64 p.key.too,.int .i64 p.st,.int .i64 p.unt,.int .i64 p.stp,.int .i64 p.h0,.int .i64 p.h1,.int .i64 p.w0,.int .i64 p.w1,.bool p.d0,.bool p.d1,.int .i64 p.num] 45 (0,0))
theorem FlAt.lt {w:World} {b:Nat} {p:Fl} (h:FlAt w b p):b < w.heap.size:=by
 rcases Nat.lt_or_ge b w.heap.size with h1|h1
 ·exact h1
 ·unfold FlAt at h;simp [Array.getElem?_eq_none h1] at h
theorem FlAt.new (w:World) (p:Fl):FlAt (w.alloc (.cells #[.int .i64 p.key.kind,.int .i64 p.key.src,.int .i64 p.key.frm,.int .i64 p.key.dst,.int .i64 p.key.too,.int .i64 p.st,.int .i64 p.unt,.int .i64 p.stp,.int .i64 p.h0,.int .i64 p.h1,.int .i64 p.w0,.int .i64 p.w1,.bool p.d0,.bool p.d1,.int .i64 p.num] 45)) w.heap.size p:=heap_alloc_new w _
theorem FlAt.zero (w:World):FlAt (w.alloc (.cells #[.int .i64 0,.int .i64 0,.int .i64 0,.int .i64 0,.int .i64 0,.int .i64 0,.int .i64 0,.int .i64 0,.int .i64 0,.int .i64 0,.int .i64 0,.int .i64 0,.bool false,.bool false,.int .i64 0] 45)) w.heap.size zeroF:=heap_alloc_new w _
theorem FlAt.drewN {w:World} {b:Nat} {p:Fl} (h:FlAt w b p) (n:Nat):FlAt (w.drewN n) b p:=h
theorem FlAt.drew {w:World} {b:Nat} {p:Fl} (h:FlAt w b p):FlAt w.drew b p:=h
theorem FlAt.same {w w':World} {b:Nat} {p:Fl} (h:FlAt w b p) (hs:Same w w'):FlAt w' b p:=by
 obtain ⟨n,rfl⟩:=hs;exact h
theorem FlAt.below {w w':World} {b B:Nat} {p:Fl} (h:FlAt w b p) (hB:b < B) (hb:Below B w w'):FlAt w' b p:=by
 unfold FlAt;rw [hb.block b hB];exact h
theorem FlAt.only {w w':World} {b g:Nat} {p:Fl} (h:FlAt w b p) (hne:b≠g) (ho:Only g w w'):FlAt w' b p:=by
 unfold FlAt;rw [ho.block b hne];exact h
theorem FlAt.alloc {w:World} {b:Nat} {p:Fl} (h:FlAt w b p) (o:Obj):FlAt (w.alloc o) b p:=h.below h.lt ((Below.refl _ _).alloc (Nat.le_refl _) _)
theorem FlAt.free {w:World} {b:Nat} {p:Fl} (h:FlAt w b p) (j:Nat):w.frozen? ⟨b,j,none⟩=false:=frozen_of_row w b j _ _ h
theorem FlAt.cells {w:World} {b:Nat} {p:Fl} (h:FlAt w b p) :
  w.cell? ⟨b,0,none⟩=some (.int .i64 p.key.kind)∧w.cell? ⟨b,1,none⟩=some (.int .i64 p.key.src)∧w.cell? ⟨b,2,none⟩=some (.int .i64 p.key.frm)∧w.cell? ⟨b,3,none⟩=some (.int .i64 p.key.dst)∧w.cell? ⟨b,4,none⟩=some (.int .i64 p.key.too)∧w.cell? ⟨b,5,none⟩=some (.int .i64 p.st)∧w.cell? ⟨b,6,none⟩=some (.int .i64 p.unt)∧w.cell? ⟨b,7,none⟩=some (.int .i64 p.stp)∧w.cell? ⟨b,8,none⟩=some (.int .i64 p.h0)∧w.cell? ⟨b,9,none⟩=some (.int .i64 p.h1)∧w.cell? ⟨b,10,none⟩=some (.int .i64 p.w0)∧w.cell? ⟨b,11,none⟩=some (.int .i64 p.w1)∧w.cell? ⟨b,12,none⟩=some (.bool p.d0)∧w.cell? ⟨b,13,none⟩=some (.bool p.d1)∧w.cell? ⟨b,14,none⟩=some (.int .i64 p.num):=by
 refine ⟨?_,?_,?_,?_,?_,?_,?_,?_,?_,?_,?_,?_,?_,?_,?_⟩ <;> (rw [cell_of_row w b _ _ _ _ h];rfl)
theorem FlAt.frees {w:World} {b:Nat} {p:Fl} (h:FlAt w b p):w.frozen? ⟨b,0,none⟩=false∧w.frozen? ⟨b,1,none⟩=false∧w.frozen? ⟨b,2,none⟩=false∧w.frozen? ⟨b,3,none⟩=false∧w.frozen? ⟨b,4,none⟩=false∧w.frozen? ⟨b,5,none⟩=false∧w.frozen? ⟨b,6,none⟩=false∧w.frozen? ⟨b,7,none⟩=false∧w.frozen? ⟨b,8,none⟩=false∧w.frozen? ⟨b,9,none⟩=false∧w.frozen? ⟨b,10,none⟩=false∧w.frozen? ⟨b,11,none⟩=false∧w.frozen? ⟨b,12,none⟩=false∧w.frozen? ⟨b,13,none⟩=false∧w.frozen? ⟨b,14,none⟩=false :=
 ⟨h.free 0,h.free 1,h.free 2,h.free 3,h.free 4,h.free 5,h.free 6,h.free 7,h.free 8,h.free 9,h.free 10,h.free 11,h.free 12,h.free 13,h.free 14⟩
theorem set15_0 (x0 x1 x2 x3 x4 x5 x6 x7 x8 x9 x10 x11 x12 x13 x14 y:Value):(#[x0,x1,x2,x3,x4,x5,x6,x7,x8,x9,x10,x11,x12,x13,x14]:Array Value).setIfInBounds 0 y = #[y,x1,x2,x3,x4,x5,x6,x7,x8,x9,x10,x11,x12,x13,x14]:=rfl
theorem set15_1 (x0 x1 x2 x3 x4 x5 x6 x7 x8 x9 x10 x11 x12 x13 x14 y:Value):(#[x0,x1,x2,x3,x4,x5,x6,x7,x8,x9,x10,x11,x12,x13,x14]:Array Value).setIfInBounds 1 y = #[x0,y,x2,x3,x4,x5,x6,x7,x8,x9,x10,x11,x12,x13,x14]:=rfl
theorem set15_2 (x0 x1 x2 x3 x4 x5 x6 x7 x8 x9 x10 x11 x12 x13 x14 y:Value):(#[x0,x1,x2,x3,x4,x5,x6,x7,x8,x9,x10,x11,x12,x13,x14]:Array Value).setIfInBounds 2 y = #[x0,x1,y,x3,x4,x5,x6,x7,x8,x9,x10,x11,x12,x13,x14]:=rfl
theorem set15_3 (x0 x1 x2 x3 x4 x5 x6 x7 x8 x9 x10 x11 x12 x13 x14 y:Value):(#[x0,x1,x2,x3,x4,x5,x6,x7,x8,x9,x10,x11,x12,x13,x14]:Array Value).setIfInBounds 3 y = #[x0,x1,x2,y,x4,x5,x6,x7,x8,x9,x10,x11,x12,x13,x14]:=rfl
theorem set15_4 (x0 x1 x2 x3 x4 x5 x6 x7 x8 x9 x10 x11 x12 x13 x14 y:Value):(#[x0,x1,x2,x3,x4,x5,x6,x7,x8,x9,x10,x11,x12,x13,x14]:Array Value).setIfInBounds 4 y = #[x0,x1,x2,x3,y,x5,x6,x7,x8,x9,x10,x11,x12,x13,x14]:=rfl
theorem set15_5 (x0 x1 x2 x3 x4 x5 x6 x7 x8 x9 x10 x11 x12 x13 x14 y:Value):(#[x0,x1,x2,x3,x4,x5,x6,x7,x8,x9,x10,x11,x12,x13,x14]:Array Value).setIfInBounds 5 y = #[x0,x1,x2,x3,x4,y,x6,x7,x8,x9,x10,x11,x12,x13,x14]:=rfl
theorem set15_6 (x0 x1 x2 x3 x4 x5 x6 x7 x8 x9 x10 x11 x12 x13 x14 y:Value):(#[x0,x1,x2,x3,x4,x5,x6,x7,x8,x9,x10,x11,x12,x13,x14]:Array Value).setIfInBounds 6 y = #[x0,x1,x2,x3,x4,x5,y,x7,x8,x9,x10,x11,x12,x13,x14]:=rfl
theorem set15_7 (x0 x1 x2 x3 x4 x5 x6 x7 x8 x9 x10 x11 x12 x13 x14 y:Value):(#[x0,x1,x2,x3,x4,x5,x6,x7,x8,x9,x10,x11,x12,x13,x14]:Array Value).setIfInBounds 7 y = #[x0,x1,x2,x3,x4,x5,x6,y,x8,x9,x10,x11,x12,x13,x14]:=rfl
theorem set15_8 (x0 x1 x2 x3 x4 x5 x6 x7 x8 x9 x10 x11 x12 x13 x14 y:Value):(#[x0,x1,x2,x3,x4,x5,x6,x7,x8,x9,x10,x11,x12,x13,x14]:Array Value).setIfInBounds 8 y = #[x0,x1,x2,x3,x4,x5,x6,x7,y,x9,x10,x11,x12,x13,x14]:=rfl
theorem set15_9 (x0 x1 x2 x3 x4 x5 x6 x7 x8 x9 x10 x11 x12 x13 x14 y:Value):(#[x0,x1,x2,x3,x4,x5,x6,x7,x8,x9,x10,x11,x12,x13,x14]:Array Value).setIfInBounds 9 y = #[x0,x1,x2,x3,x4,x5,x6,x7,x8,y,x10,x11,x12,x13,x14]:=rfl
theorem set15_10 (x0 x1 x2 x3 x4 x5 x6 x7 x8 x9 x10 x11 x12 x13 x14 y:Value):(#[x0,x1,x2,x3,x4,x5,x6,x7,x8,x9,x10,x11,x12,x13,x14]:Array Value).setIfInBounds 10 y = #[x0,x1,x2,x3,x4,x5,x6,x7,x8,x9,y,x11,x12,x13,x14]:=rfl
theorem set15_11 (x0 x1 x2 x3 x4 x5 x6 x7 x8 x9 x10 x11 x12 x13 x14 y:Value):(#[x0,x1,x2,x3,x4,x5,x6,x7,x8,x9,x10,x11,x12,x13,x14]:Array Value).setIfInBounds 11 y = #[x0,x1,x2,x3,x4,x5,x6,x7,x8,x9,x10,y,x12,x13,x14]:=rfl
theorem set15_12 (x0 x1 x2 x3 x4 x5 x6 x7 x8 x9 x10 x11 x12 x13 x14 y:Value):(#[x0,x1,x2,x3,x4,x5,x6,x7,x8,x9,x10,x11,x12,x13,x14]:Array Value).setIfInBounds 12 y = #[x0,x1,x2,x3,x4,x5,x6,x7,x8,x9,x10,x11,y,x13,x14]:=rfl
theorem set15_13 (x0 x1 x2 x3 x4 x5 x6 x7 x8 x9 x10 x11 x12 x13 x14 y:Value):(#[x0,x1,x2,x3,x4,x5,x6,x7,x8,x9,x10,x11,x12,x13,x14]:Array Value).setIfInBounds 13 y = #[x0,x1,x2,x3,x4,x5,x6,x7,x8,x9,x10,x11,x12,y,x14]:=rfl
theorem set15_14 (x0 x1 x2 x3 x4 x5 x6 x7 x8 x9 x10 x11 x12 x13 x14 y:Value):(#[x0,x1,x2,x3,x4,x5,x6,x7,x8,x9,x10,x11,x12,x13,x14]:Array Value).setIfInBounds 14 y = #[x0,x1,x2,x3,x4,x5,x6,x7,x8,x9,x10,x11,x12,x13,y]:=rfl
theorem FlAt.store {w:World} {b:Nat} {p:Fl} (h:FlAt w b p) (q:Fl) :
  ∃ w',(((((((((((((((w.setCell ⟨b,0,none⟩ (.int .i64 q.key.kind)).setCell ⟨b,1,none⟩ (.int .i64 q.key.src)).setCell ⟨b,2,none⟩ (.int .i64 q.key.frm)).setCell ⟨b,3,none⟩ (.int .i64 q.key.dst)).setCell ⟨b,4,none⟩ (.int .i64 q.key.too)).setCell ⟨b,5,none⟩ (.int .i64 q.st)).setCell ⟨b,6,none⟩ (.int .i64 q.unt)).setCell ⟨b,7,none⟩ (.int .i64 q.stp)).setCell ⟨b,8,none⟩ (.int .i64 q.h0)).setCell ⟨b,9,none⟩ (.int .i64 q.h1)).setCell ⟨b,10,none⟩ (.int .i64 q.w0)).setCell ⟨b,11,none⟩ (.int .i64 q.w1)).setCell ⟨b,12,none⟩ (.bool q.d0)).setCell ⟨b,13,none⟩ (.bool q.d1)).setCell ⟨b,14,none⟩ (.int .i64 q.num))=w'∧FlAt w' b q∧Only b w w':=by
 refine ⟨_,rfl,?_,((((((((((((((((Only.refl _ _).setCell _ _).setCell _ _).setCell _ _).setCell _ _).setCell _ _).setCell _ _).setCell _ _).setCell _ _).setCell _ _).setCell _ _).setCell _ _).setCell _ _).setCell _ _).setCell _ _).setCell _ _)⟩
 have e0:=heap_setCell_same _ b 0 _ _ (.int .i64 q.key.kind) h
 rw [set15_0] at e0
 have e1:=heap_setCell_same _ b 1 _ _ (.int .i64 q.key.src) e0
 rw [set15_1] at e1
 have e2:=heap_setCell_same _ b 2 _ _ (.int .i64 q.key.frm) e1
 rw [set15_2] at e2
 have e3:=heap_setCell_same _ b 3 _ _ (.int .i64 q.key.dst) e2
 rw [set15_3] at e3
 have e4:=heap_setCell_same _ b 4 _ _ (.int .i64 q.key.too) e3
 rw [set15_4] at e4
 have e5:=heap_setCell_same _ b 5 _ _ (.int .i64 q.st) e4
 rw [set15_5] at e5
 have e6:=heap_setCell_same _ b 6 _ _ (.int .i64 q.unt) e5
 rw [set15_6] at e6
 have e7:=heap_setCell_same _ b 7 _ _ (.int .i64 q.stp) e6
 rw [set15_7] at e7
 have e8:=heap_setCell_same _ b 8 _ _ (.int .i64 q.h0) e7
 rw [set15_8] at e8
 have e9:=heap_setCell_same _ b 9 _ _ (.int .i64 q.h1) e8
 rw [set15_9] at e9
 have e10:=heap_setCell_same _ b 10 _ _ (.int .i64 q.w0) e9
 rw [set15_10] at e10
 have e11:=heap_setCell_same _ b 11 _ _ (.int .i64 q.w1) e10
 rw [set15_11] at e11
 have e12:=heap_setCell_same _ b 12 _ _ (.bool q.d0) e11
 rw [set15_12] at e12
 have e13:=heap_setCell_same _ b 13 _ _ (.bool q.d1) e12
 rw [set15_13] at e13
 have e14:=heap_setCell_same _ b 14 _ _ (.int .i64 q.num) e13
 rw [set15_14] at e14
 exact e14
theorem FlAt.wipe {w:World} {b:Nat} {p:Fl} (h:FlAt w b p) :
  ∃ w',(((((((((((((((w.setCell ⟨b,0,none⟩ (.int .i64 0)).setCell ⟨b,1,none⟩ (.int .i64 0)).setCell ⟨b,2,none⟩ (.int .i64 0)).setCell ⟨b,3,none⟩ (.int .i64 0)).setCell ⟨b,4,none⟩ (.int .i64 0)).setCell ⟨b,5,none⟩ (.int .i64 0)).setCell ⟨b,6,none⟩ (.int .i64 0)).setCell ⟨b,7,none⟩ (.int .i64 0)).setCell ⟨b,8,none⟩ (.int .i64 0)).setCell ⟨b,9,none⟩ (.int .i64 0)).setCell ⟨b,10,none⟩ (.int .i64 0)).setCell ⟨b,11,none⟩ (.int .i64 0)).setCell ⟨b,12,none⟩ (.bool false)).setCell ⟨b,13,none⟩ (.bool false)).setCell ⟨b,14,none⟩ (.int .i64 0))=w'∧FlAt w' b zeroF∧Only b w w':=h.store zeroF
theorem FlAt.store_st {w:World} {b:Nat} {p:Fl} (h:FlAt w b p) (n:Int):∃ w',w.setCell ⟨b,5,none⟩ (.int .i64 n)=w'∧FlAt w' b { p with st:=n }∧Only b w w':=by
 refine ⟨_,rfl,?_,(Only.refl _ _).setCell _ _⟩
 have e:=heap_setCell_same _ b 5 _ _ (.int .i64 n) h
 rw [set15_5] at e
 exact e
theorem FlAt.store_unt {w:World} {b:Nat} {p:Fl} (h:FlAt w b p) (n:Int):∃ w',w.setCell ⟨b,6,none⟩ (.int .i64 n)=w'∧FlAt w' b { p with unt:=n }∧Only b w w':=by
 refine ⟨_,rfl,?_,(Only.refl _ _).setCell _ _⟩
 have e:=heap_setCell_same _ b 6 _ _ (.int .i64 n) h
 rw [set15_6] at e
 exact e
theorem FlAt.store_stp {w:World} {b:Nat} {p:Fl} (h:FlAt w b p) (n:Int):∃ w',w.setCell ⟨b,7,none⟩ (.int .i64 n)=w'∧FlAt w' b { p with stp:=n }∧Only b w w':=by
 refine ⟨_,rfl,?_,(Only.refl _ _).setCell _ _⟩
 have e:=heap_setCell_same _ b 7 _ _ (.int .i64 n) h
 rw [set15_7] at e
 exact e
theorem FlAt.store_h0 {w:World} {b:Nat} {p:Fl} (h:FlAt w b p) (n:Int):∃ w',w.setCell ⟨b,8,none⟩ (.int .i64 n)=w'∧FlAt w' b { p with h0:=n }∧Only b w w':=by
 refine ⟨_,rfl,?_,(Only.refl _ _).setCell _ _⟩
 have e:=heap_setCell_same _ b 8 _ _ (.int .i64 n) h
 rw [set15_8] at e
 exact e
theorem FlAt.store_h1 {w:World} {b:Nat} {p:Fl} (h:FlAt w b p) (n:Int):∃ w',w.setCell ⟨b,9,none⟩ (.int .i64 n)=w'∧FlAt w' b { p with h1:=n }∧Only b w w':=by
 refine ⟨_,rfl,?_,(Only.refl _ _).setCell _ _⟩
 have e:=heap_setCell_same _ b 9 _ _ (.int .i64 n) h
 rw [set15_9] at e
 exact e
theorem FlAt.store_w0 {w:World} {b:Nat} {p:Fl} (h:FlAt w b p) (n:Int):∃ w',w.setCell ⟨b,10,none⟩ (.int .i64 n)=w'∧FlAt w' b { p with w0:=n }∧Only b w w':=by
 refine ⟨_,rfl,?_,(Only.refl _ _).setCell _ _⟩
 have e:=heap_setCell_same _ b 10 _ _ (.int .i64 n) h
 rw [set15_10] at e
 exact e
theorem FlAt.store_w1 {w:World} {b:Nat} {p:Fl} (h:FlAt w b p) (n:Int):∃ w',w.setCell ⟨b,11,none⟩ (.int .i64 n)=w'∧FlAt w' b { p with w1:=n }∧Only b w w':=by
 refine ⟨_,rfl,?_,(Only.refl _ _).setCell _ _⟩
 have e:=heap_setCell_same _ b 11 _ _ (.int .i64 n) h
 rw [set15_11] at e
 exact e
theorem FlAt.store_d0 {w:World} {b:Nat} {p:Fl} (h:FlAt w b p) (n:Bool):∃ w',w.setCell ⟨b,12,none⟩ (.bool n)=w'∧FlAt w' b { p with d0:=n }∧Only b w w':=by
 refine ⟨_,rfl,?_,(Only.refl _ _).setCell _ _⟩
 have e:=heap_setCell_same _ b 12 _ _ (.bool n) h
 rw [set15_12] at e
 exact e
theorem FlAt.store_d1 {w:World} {b:Nat} {p:Fl} (h:FlAt w b p) (n:Bool):∃ w',w.setCell ⟨b,13,none⟩ (.bool n)=w'∧FlAt w' b { p with d1:=n }∧Only b w w':=by
 refine ⟨_,rfl,?_,(Only.refl _ _).setCell _ _⟩
 have e:=heap_setCell_same _ b 13 _ _ (.bool n) h
 rw [set15_13] at e
 exact e
end Go.Proofs.YtkhheooofcpfdaaGreatDoor
namespace Go.Proofs.YtkhheooofcpfdaaGreatDoor
open Go.RowKit
set_option linter.unusedVariables false
theorem Tryz.keyHeld:Tryz.prog.stoodInHeld 37=false:=by kernel_rfl
theorem Tryz.keyFields:Tryz.prog.underlying 37=some (.struct (Tryz.prog.fieldsOf 37)):=by kernel_rfl
end Go.Proofs.YtkhheooofcpfdaaGreatDoor
namespace Go.Proofs.YtkhheooofcpfdaaGreatDoor
open Go.RowKit
set_option linter.unusedVariables false
theorem Tryz.ar2Guard:Tryz.prog.eqGuardType Tryz.prog.depth 42=false:=by kernel_rfl
theorem Tryz.ab2Guard:Tryz.prog.eqGuardType Tryz.prog.depth 43=false:=by kernel_rfl
theorem Tryz.infoIntE:(Tryz.prog.info? 3).map (fun i=>(i.zero,i.size,i.bytes))=some (some (.int .i64 0),1,8):=by kernel_rfl
theorem Tryz.infoBoolE:(Tryz.prog.info? 4).map (fun i=>(i.zero,i.size,i.bytes))=some (some (.bool false),1,1):=by kernel_rfl
theorem Tryz.ar2EqualD (n:Nat) (a b c d:Int) (w:World):(Op.equalIn (n+2) 42 (.agg #[.int .i64 a,.int .i64 b]) (.agg #[.int .i64 c,.int .i64 d])).run Tryz.prog w = .ok (a == c && b == d) w:=by
 obtain ⟨i0,hi,hz0,hz1,hz2⟩:=info_parts Tryz.infoIntE
 have h:=run_equalIn_array (P:=Tryz.prog) w (n+1) #[.int .i64 a,.int .i64 b] #[.int .i64 c,.int .i64 d] Tryz.underlying42 hi
 refine h.trans ?_
 rw [show List.range 2=[0,1] from rfl,show Tryz.prog.cellsOf 3=1 by kernel_rfl]
 simp [Op.eqItems,part,isAgg,underlying,Tryz.underlying3,Result.andThen,run_equalIn_int (P:=Tryz.prog) _ n 3 .i64 .i64 _ _ Tryz.underlying3]
 by_cases h1:a=c <;> by_cases h2:b=d <;> simp [h1,h2]
theorem Tryz.ab2EqualD (n:Nat) (a b c d:Bool) (w:World):(Op.equalIn (n+2) 43 (.agg #[.bool a,.bool b]) (.agg #[.bool c,.bool d])).run Tryz.prog w = .ok (a == c && b == d) w:=by
 obtain ⟨i0,hi,hz0,hz1,hz2⟩:=info_parts Tryz.infoBoolE
 have h:=run_equalIn_array (P:=Tryz.prog) w (n+1) #[.bool a,.bool b] #[.bool c,.bool d] Tryz.underlying43 hi
 refine h.trans ?_
 rw [show List.range 2=[0,1] from rfl,show Tryz.prog.cellsOf 4=1 by kernel_rfl]
 simp [Op.eqItems,part,isAgg,underlying,Tryz.underlying4,Result.andThen,run_equalIn_bool (P:=Tryz.prog) _ n 4 _ _ Tryz.underlying4]
 cases a <;> cases b <;> cases c <;> cases d <;> rfl
theorem Tryz.ar2Neq (a b c d:Int) (w:World):(binOp .neq 42 (.agg #[.int .i64 a,.int .i64 b]) (.agg #[.int .i64 c,.int .i64 d])).run Tryz.prog w = .ok (.bool (!(a == c && b == d))) w:=by
 rw [run_neq_struct,Tryz.ar2EqualD 9998];rfl
theorem Tryz.ab2Neq (a b c d:Bool) (w:World):(binOp .neq 43 (.agg #[.bool a,.bool b]) (.agg #[.bool c,.bool d])).run Tryz.prog w = .ok (.bool (!(a == c && b == d))) w:=by
 rw [run_neq_struct,Tryz.ab2EqualD 9998];rfl
theorem Tryz.keyEqualD (n:Nat) (a b c d e:Int) (w:World):(Op.equalIn (n+2) 37 (.agg #[.int .i64 a,.int .i64 b,.int .i64 c,.int .i64 d,.int .i64 e]) (.agg #[.int .i64 a,.int .i64 b,.int .i64 c,.int .i64 d,.int .i64 e])).run Tryz.prog w = .ok true w:=by
 have h:=run_equalIn_agg (P:=Tryz.prog) w (n+1) 37 #[.int .i64 a,.int .i64 b,.int .i64 c,.int .i64 d,.int .i64 e] #[.int .i64 a,.int .i64 b,.int .i64 c,.int .i64 d,.int .i64 e] Tryz.keyFields Tryz.keyHeld
 refine h.trans ?_
 simp [Program.fieldsOf,Tryz.underlying37,Op.eqFields,part,isAgg,underlying,Tryz.underlying3,Result.andThen,run_equalIn_int (P:=Tryz.prog) _ n 3 .i64 .i64 _ _ Tryz.underlying3]
theorem Tryz.flGuard:Tryz.prog.eqGuardType Tryz.prog.depth 45=false:=by kernel_rfl
theorem Tryz.flHeld:Tryz.prog.stoodInHeld 45=false:=by kernel_rfl
theorem Tryz.flFields:Tryz.prog.underlying 45=some (.struct (Tryz.prog.fieldsOf 45)):=by kernel_rfl
theorem Tryz.flEqual (p:Fl) (w:World):(Op.equalIn 10000 45 (.agg #[.int .i64 p.key.kind,.int .i64 p.key.src,.int .i64 p.key.frm,.int .i64 p.key.dst,.int .i64 p.key.too,.int .i64 p.st,.int .i64 p.unt,.int .i64 p.stp,.int .i64 p.h0,.int .i64 p.h1,.int .i64 p.w0,.int .i64 p.w1,.bool p.d0,.bool p.d1,.int .i64 p.num]) (.agg #[.int .i64 p.key.kind,.int .i64 p.key.src,.int .i64 p.key.frm,.int .i64 p.key.dst,.int .i64 p.key.too,.int .i64 p.st,.int .i64 p.unt,.int .i64 p.stp,.int .i64 p.h0,.int .i64 p.h1,.int .i64 p.w0,.int .i64 p.w1,.bool p.d0,.bool p.d1,.int .i64 p.num])).run Tryz.prog w = .ok true w:=by
 have h:=run_equalIn_agg (P:=Tryz.prog) w 9999 45 #[.int .i64 p.key.kind,.int .i64 p.key.src,.int .i64 p.key.frm,.int .i64 p.key.dst,.int .i64 p.key.too,.int .i64 p.st,.int .i64 p.unt,.int .i64 p.stp,.int .i64 p.h0,.int .i64 p.h1,.int .i64 p.w0,.int .i64 p.w1,.bool p.d0,.bool p.d1,.int .i64 p.num] #[.int .i64 p.key.kind,.int .i64 p.key.src,.int .i64 p.key.frm,.int .i64 p.key.dst,.int .i64 p.key.too,.int .i64 p.st,.int .i64 p.unt,.int .i64 p.stp,.int .i64 p.h0,.int .i64 p.h1,.int .i64 p.w0,.int .i64 p.w1,.bool p.d0,.bool p.d1,.int .i64 p.num] Tryz.flFields Tryz.flHeld
 refine h.trans ?_
 simp [Program.fieldsOf,Tryz.underlying45,Op.eqFields,part,isAgg,underlying,Tryz.underlying3,Tryz.underlying37,Tryz.underlying42,Tryz.underlying43,Result.andThen,run_equalIn_int (P:=Tryz.prog) _ 9998 3 .i64 .i64 _ _ Tryz.underlying3,Tryz.keyEqualD 9997,Tryz.ar2EqualD 9997,Tryz.ab2EqualD 9997]
theorem Tryz.flNeq (p:Fl) (w:World):(binOp .neq 45 (.agg #[.int .i64 p.key.kind,.int .i64 p.key.src,.int .i64 p.key.frm,.int .i64 p.key.dst,.int .i64 p.key.too,.int .i64 p.st,.int .i64 p.unt,.int .i64 p.stp,.int .i64 p.h0,.int .i64 p.h1,.int .i64 p.w0,.int .i64 p.w1,.bool p.d0,.bool p.d1,.int .i64 p.num]) (.agg #[.int .i64 p.key.kind,.int .i64 p.key.src,.int .i64 p.key.frm,.int .i64 p.key.dst,.int .i64 p.key.too,.int .i64 p.st,.int .i64 p.unt,.int .i64 p.stp,.int .i64 p.h0,.int .i64 p.h1,.int .i64 p.w0,.int .i64 p.w1,.bool p.d0,.bool p.d1,.int .i64 p.num])).run Tryz.prog w = .ok (.bool false) w:=by
 rw [run_neq_struct,Tryz.flEqual];rfl
theorem Tryz.flEql (p:Fl) (w:World):(binOp .eql 45 (.agg #[.int .i64 p.key.kind,.int .i64 p.key.src,.int .i64 p.key.frm,.int .i64 p.key.dst,.int .i64 p.key.too,.int .i64 p.st,.int .i64 p.unt,.int .i64 p.stp,.int .i64 p.h0,.int .i64 p.h1,.int .i64 p.w0,.int .i64 p.w1,.bool p.d0,.bool p.d1,.int .i64 p.num]) (.agg #[.int .i64 p.key.kind,.int .i64 p.key.src,.int .i64 p.key.frm,.int .i64 p.key.dst,.int .i64 p.key.too,.int .i64 p.st,.int .i64 p.unt,.int .i64 p.stp,.int .i64 p.h0,.int .i64 p.h1,.int .i64 p.w0,.int .i64 p.w1,.bool p.d0,.bool p.d1,.int .i64 p.num])).run Tryz.prog w = .ok (.bool true) w:=by
 rw [run_eql_struct,Tryz.flEqual];rfl
end Go.Proofs.YtkhheooofcpfdaaGreatDoor
