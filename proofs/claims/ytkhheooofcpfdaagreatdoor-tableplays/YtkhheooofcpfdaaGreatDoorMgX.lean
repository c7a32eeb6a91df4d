/- What the reference's round, Near, Turn, Ahead and First return (package portref1), and Near of package seg, for every input. -/
import Derived.Test.YtkhheooofcpfdaaGreatDoorSegFst
import Derived.Test.YtkhheooofcpfdaaGreatDoorMgG
import Derived.Test.YtkhheooofcpfdaaGreatDoorMgQ
import Derived.Test.YtkhheooofcpfdaaGreatDoorMgC
import Derived.Test.YtkhheooofcpfdaaGreatDoorTblCmp
import Derived.Test.YtkhheooofcpfdaaGreatDoorTrkChk
import Derived.Test.YtkhheooofcpfdaaGreatDoorMgR
import Derived.Test.YtkhheooofcpfdaaGreatDoorMhN
import Derived.Test.YtkhheooofcpfdaaGreatDoorMhQ
import Derived.Test.YtkhheooofcpfdaaGreatDoorMgM
import Derived.Deep.DeepMust
import Derived.Deep.DeepCutAuto
namespace Go.Proofs.YtkhheooofcpfdaaGreatDoor
open Go.RowKit
set_option linter.unusedVariables false
theorem refTurn_any (k:Ky) (w:World) :
  Calls Tryz.prog 9 #[keyV k] w fun e w'=>e = .returned (keyV (turnK k))∧Below w.heap.size w w':=by
 unfold keyV turnK
 go_enter Tryz.func9,Tryz.ntmps9
 go_wp2
 exact bodyPost_ret (v:=.agg #[.int .i64 k.kind,.int .i64 k.dst,.int .i64 k.too,.int .i64 k.src,.int .i64 k.frm]) (by simp [results,Tryz.results9,go_sem]) rfl ⟨rfl,((Below.refl _ _).alloc (Nat.le_refl _) _).alloc (by simp) _⟩
theorem refAhead_raw (kind src frm dst too:Int) (w:World) :
  Calls Tryz.prog 41 #[.agg #[.int .i64 kind,.int .i64 dst,.int .i64 too,.int .i64 src,.int .i64 frm],.agg #[.int .i64 kind,.int .i64 src,.int .i64 frm,.int .i64 dst,.int .i64 too]] w fun e w' =>
   e = .returned (.bool (decide (dst < src∨(dst=src∧too < frm))))∧Below w.heap.size w w':=by
 have b1:Below w.heap.size w ((w.alloc (.cells #[.int .i64 kind,.int .i64 dst,.int .i64 too,.int .i64 src,.int .i64 frm] 37)).alloc (.cells #[.int .i64 kind,.int .i64 src,.int .i64 frm,.int .i64 dst,.int .i64 too] 37)):=((Below.refl _ _).alloc (Nat.le_refl _) _).alloc (by simp) _
 have B1:Hid _:=b1
 clear b1
 obtain ⟨r,HR⟩:∃ r,Hid (r=decide (dst < src∨(dst=src∧too < frm))):=⟨_,rfl⟩
 rw [← HR.out]
 by_cases h1:dst=src
 ·have e1:(dst != src)=false:=by simp [h1]
  have e2:(src != dst)=false:=by simp [h1]
  by_cases h2:too=frm
  ·have e3:(too != frm)=false:=by simp [h2]
   have e4:decide (frm < too)=false:=by simp [h2]
   have e4':¬ frm < too:=by omega
   have E:Hid (false=r):=by show false=r;rw [HR.out];simp;omega
   clear h1 h2
   go_enter Tryz.func41,Tryz.ntmps41
   go_wp2
   go_ret
   exact ⟨ret_bool E.out,B1.out⟩
  ·have e3:(too != frm)=true:=by simpa using h2
   have E:Hid (decide (too < frm)=r):=by show decide (too < frm)=r;rw [HR.out,decide_eq_decide];omega
   clear h1 h2
   go_enter Tryz.func41,Tryz.ntmps41
   go_wp2
   go_ret
   exact ⟨ret_bool E.out,B1.out⟩
 ·have e1:(dst != src)=true:=by simpa using h1
  have E:Hid (decide (dst < src)=r):=by show decide (dst < src)=r;rw [HR.out,decide_eq_decide];omega
  clear h1
  go_enter Tryz.func41,Tryz.ntmps41
  go_wp2
  go_ret
  exact ⟨ret_bool E.out,B1.out⟩
set_option maxRecDepth 100000 in
set_option maxHeartbeats 4000000 in
theorem refFirst_any (k:Ky) (w:World) :
  Calls Tryz.prog 53 #[keyV k] w fun e w'=>e = .returned (keyV (firstK k))∧Below w.heap.size w w':=by
 have hK:=KyAt.new w k
 have hS:KdS w k ((w.alloc (.cells #[.int .i64 k.kind,.int .i64 k.src,.int .i64 k.frm,.int .i64 k.dst,.int .i64 k.too] 37)).alloc (.cells #[.int .i64 0,.int .i64 0,.int .i64 0,.int .i64 0,.int .i64 0] 37)):=by
  refine ⟨hK.alloc _,?_,((Below.refl _ _).alloc (Nat.le_refl _) _).alloc (by simp) _⟩
  have:=KyAt.zero (w.alloc (.cells #[.int .i64 k.kind,.int .i64 k.src,.int .i64 k.frm,.int .i64 k.dst,.int .i64 k.too] 37))
  rw [show (w.alloc (.cells #[.int .i64 k.kind,.int .i64 k.src,.int .i64 k.frm,.int .i64 k.dst,.int .i64 k.too] 37)).heap.size=w.heap.size+1 by simp] at this
  exact this
 obtain ⟨f,HF⟩:∃ f,Hid (f=firstK k):=⟨_,rfl⟩
 rw [← HF.out]
 have hA:=fun W=>refAhead_raw k.kind k.src k.frm k.dst k.too W
 obtain ⟨r,HR⟩:∃ r,Hid (r=decide (k.dst < k.src∨(k.dst=k.src∧k.too < k.frm))):=⟨_,rfl⟩
 rw [← HR.out] at hA
 have hT:∀ W,Calls Tryz.prog 9 #[.agg #[.int .i64 k.kind,.int .i64 k.src,.int .i64 k.frm,.int .i64 k.dst,.int .i64 k.too]] W fun e w'=>e = .returned (.agg #[.int .i64 k.kind,.int .i64 k.dst,.int .i64 k.too,.int .i64 k.src,.int .i64 k.frm])∧Below W.heap.size W w':=fun W=>refTurn_any k W
 unfold keyV at *
 clear hK
 go_enter Tryz.func53,Tryz.ntmps53
 go_upto_region 1 with fail
 obtain ⟨W1,hW1⟩:∃ W1,(w.alloc (.cells #[.int .i64 k.kind,.int .i64 k.src,.int .i64 k.frm,.int .i64 k.dst,.int .i64 k.too] 37)).alloc (.cells #[.int .i64 0,.int .i64 0,.int .i64 0,.int .i64 0,.int .i64 0] 37)=W1:=⟨_,rfl⟩
 rw [hW1] at hS ⊢
 clear hW1
 obtain ⟨c0,c1,c2,c3,c4⟩:=hS.1.cells
 go_upto_region 2 with (go_at_call 9;refine (hT _).mono ?_;rintro e w2 ⟨rfl,b2⟩)
 have hS2:KdS w k w2:=⟨hS.1.below hS.1.lt b2,hS.2.1.below hS.2.1.lt b2,hS.2.2.trans (b2.mono hS.2.2.size)⟩
 have hS3:=hS2.alloc (.cells #[.int .i64 k.kind,.int .i64 k.dst,.int .i64 k.too,.int .i64 k.src,.int .i64 k.frm] 37)
 have t3:=KyAt.new w2 { kind:=k.kind,src:=k.dst,frm:=k.too,dst:=k.src,too:=k.frm }
 obtain ⟨W3,hW3⟩:∃ W3,w2.alloc (.cells #[.int .i64 k.kind,.int .i64 k.dst,.int .i64 k.too,.int .i64 k.src,.int .i64 k.frm] 37)=W3:=⟨_,rfl⟩
 obtain ⟨T,hTt⟩:∃ T,T=w2.heap.size:=⟨_,rfl⟩
 simp only at t3
 rw [hW3] at hS3 t3 ⊢
 rw [← hTt] at t3 ⊢
 clear hW3 hTt hS hS2 b2 hT c0 c1 c2 c3 c4
 obtain ⟨c0,c1,c2,c3,c4⟩:=hS3.1.cells
 obtain ⟨t0,t1,t2,t3',t4⟩:=t3.cells
 simp only at t0 t1 t2 t3' t4
 rcases hr:r with _|_
 ·have EF:Hid (f=k):=by
   show f=k
   rw [HF.out]
   refine if_neg (fun h=>?_)
   have:=HR.out
   rw [hr,decide_eq_true h] at this
   cases this
  subst hr
  go_upto_region 4 with (go_at_call 41;refine (hA _).mono ?_;rintro e w4 ⟨rfl,b4⟩)
  have hS4:KdS w k w4:=⟨hS3.1.below hS3.1.lt b4,hS3.2.1.below hS3.2.1.lt b4,hS3.2.2.trans (b4.mono hS3.2.2.size)⟩
  clear c0 c1 c2 c3 c4 t0 t1 t2 t3' t4 hA b4 hS3 t3
  obtain ⟨c0,c1,c2,c3,c4⟩:=hS4.1.cells
  have hz3:=hS4.2.1
  obtain ⟨q0,q1,q2,q3,q4⟩:=hz3.cells
  have f0:=hz3.free 0
  have f1:=hz3.free 1
  have f2:=hz3.free 2
  have f3:=hz3.free 3
  have f4:=hz3.free 4
  go_wp2_with fail
  obtain ⟨w5,hw5,hp5,ho5⟩:=hz3.store k
  rw [hw5]
  have b5:Below w.heap.size w w5:=ho5.below (by omega) hS4.2.2
  clear hw5 q0 q1 q2 q3 q4 f0 f1 f2 f3 f4 c0 c1 c2 c3 c4
  obtain ⟨c0,c1,c2,c3,c4⟩:=hp5.cells
  refine bodyPost_ret (v:=.agg #[.int .i64 k.kind,.int .i64 k.src,.int .i64 k.frm,.int .i64 k.dst,.int .i64 k.too]) (by simp [results,Tryz.results53,go_sem,c0,c1,c2,c3,c4]) rfl ⟨?_,b5⟩
  rw [EF.out]
 ·have EF:Hid (f=turnK k):=by
   show f=turnK k
   rw [HF.out]
   refine if_pos ?_
   have:=HR.out
   rw [hr] at this
   exact of_decide_eq_true this.symm
  subst hr
  go_upto_region 3 with (go_at_call 41;refine (hA _).mono ?_;rintro e w4 ⟨rfl,b4⟩)
  have hS4:KdS w k w4:=⟨hS3.1.below hS3.1.lt b4,hS3.2.1.below hS3.2.1.lt b4,hS3.2.2.trans (b4.mono hS3.2.2.size)⟩
  have t5:=t3.below t3.lt b4
  clear c0 c1 c2 c3 c4 t0 t1 t2 t3' t4 hA b4 hS3 t3
  obtain ⟨t0,t1,t2,t3',t4⟩:=t5.cells
  simp only at t0 t1 t2 t3' t4
  have hz3:=hS4.2.1
  obtain ⟨q0,q1,q2,q3,q4⟩:=hz3.cells
  have f0:=hz3.free 0
  have f1:=hz3.free 1
  have f2:=hz3.free 2
  have f3:=hz3.free 3
  have f4:=hz3.free 4
  go_wp2_with fail
  obtain ⟨w5,hw5,hp5,ho5⟩:=hz3.store { kind:=k.kind,src:=k.dst,frm:=k.too,dst:=k.src,too:=k.frm }
  simp only at hw5
  rw [hw5]
  have b5:Below w.heap.size w w5:=ho5.below (by omega) hS4.2.2
  clear hw5 q0 q1 q2 q3 q4 f0 f1 f2 f3 f4 t0 t1 t2 t3' t4
  obtain ⟨c0,c1,c2,c3,c4⟩:=hp5.cells
  simp only at c0 c1 c2 c3 c4
  refine bodyPost_ret (v:=.agg #[.int .i64 k.kind,.int .i64 k.dst,.int .i64 k.too,.int .i64 k.src,.int .i64 k.frm]) (by simp [results,Tryz.results53,go_sem,c0,c1,c2,c3,c4]) rfl ⟨?_,b5⟩
  rw [EF.out]
  rfl
end Go.Proofs.YtkhheooofcpfdaaGreatDoor
namespace Go.Proofs.YtkhheooofcpfdaaGreatDoor
open Go.RowKit
set_option linter.unusedVariables false
def flRow (f:Fl):List Value:=[.int .i64 f.key.kind,.int .i64 f.key.src,.int .i64 f.key.frm,.int .i64 f.key.dst,.int .i64 f.key.too,.int .i64 f.st,.int .i64 f.unt,.int .i64 f.stp,.int .i64 f.h0,.int .i64 f.h1,.int .i64 f.w0,.int .i64 f.w1,.bool f.d0,.bool f.d1,.int .i64 f.num]
def OwnFl (w:World) (base:Nat) (v:Value) (fs:List Fl):Prop:=OwnN 45 15 flRow w base v fs
theorem Tryz.infoFl:(Tryz.prog.info? 45).map (fun i=>(i.zero,i.size,i.bytes))=some (some (.agg #[.int .i64 0,.int .i64 0,.int .i64 0,.int .i64 0,.int .i64 0,.int .i64 0,.int .i64 0,.int .i64 0,.int .i64 0,.int .i64 0,.int .i64 0,.int .i64 0,.bool false,.bool false,.int .i64 0]),15,112):=by kernel_rfl
theorem flRow_at {f:Fl} {W:World} {b o:Nat} (h:W.cell? ⟨b,o,none⟩=some (.int .i64 f.key.kind)∧W.cell? ⟨b,o+1,none⟩=some (.int .i64 f.key.src)∧W.cell? ⟨b,o+2,none⟩=some (.int .i64 f.key.frm)∧W.cell? ⟨b,o+3,none⟩=some (.int .i64 f.key.dst)∧W.cell? ⟨b,o+4,none⟩=some (.int .i64 f.key.too)∧W.cell? ⟨b,o+5,none⟩=some (.int .i64 f.st)∧W.cell? ⟨b,o+6,none⟩=some (.int .i64 f.unt)∧W.cell? ⟨b,o+7,none⟩=some (.int .i64 f.stp)∧W.cell? ⟨b,o+8,none⟩=some (.int .i64 f.h0)∧W.cell? ⟨b,o+9,none⟩=some (.int .i64 f.h1)∧W.cell? ⟨b,o+10,none⟩=some (.int .i64 f.w0)∧W.cell? ⟨b,o+11,none⟩=some (.int .i64 f.w1)∧W.cell? ⟨b,o+12,none⟩=some (.bool f.d0)∧W.cell? ⟨b,o+13,none⟩=some (.bool f.d1)∧W.cell? ⟨b,o+14,none⟩=some (.int .i64 f.num)):∀ j u,(flRow f)[j]? = some u→W.cell? ⟨b,o+j,none⟩=some u:=by
 intro j u hj
 match j,hj with
 | 0,hj=>simp [flRow] at hj;subst hj;exact h.1
 | 1,hj=>simp [flRow] at hj;subst hj;exact h.2.1
 | 2,hj=>simp [flRow] at hj;subst hj;exact h.2.2.1
 | 3,hj=>simp [flRow] at hj;subst hj;exact h.2.2.2.1
 | 4,hj=>simp [flRow] at hj;subst hj;exact h.2.2.2.2.1
 | 5,hj=>simp [flRow] at hj;subst hj;exact h.2.2.2.2.2.1
 | 6,hj=>simp [flRow] at hj;subst hj;exact h.2.2.2.2.2.2.1
 | 7,hj=>simp [flRow] at hj;subst hj;exact h.2.2.2.2.2.2.2.1
 | 8,hj=>simp [flRow] at hj;subst hj;exact h.2.2.2.2.2.2.2.2.1
 | 9,hj=>simp [flRow] at hj;subst hj;exact h.2.2.2.2.2.2.2.2.2.1
 | 10,hj=>simp [flRow] at hj;subst hj;exact h.2.2.2.2.2.2.2.2.2.2.1
 | 11,hj=>simp [flRow] at hj;subst hj;exact h.2.2.2.2.2.2.2.2.2.2.2.1
 | 12,hj=>simp [flRow] at hj;subst hj;exact h.2.2.2.2.2.2.2.2.2.2.2.2.1
 | 13,hj=>simp [flRow] at hj;subst hj;exact h.2.2.2.2.2.2.2.2.2.2.2.2.2.1
 | 14,hj=>simp [flRow] at hj;subst hj;exact h.2.2.2.2.2.2.2.2.2.2.2.2.2.2
 | j+15,hj=>simp [flRow] at hj
theorem wpList_append_fl {w:World} {ops:Array Oper} {rest:List Oper} {o:Oper} {a:Act} {Q:Exit→Act→World→Prop} (hgd:o.guard=none) (s x:Operand)
  (ho:o.op = .call { callee:=.builtin .append,args:=#[s,x],argTypes:=#[23,23] })
  (base:Nat) (v:Value) (fs:List Fl) (hs:a.eval s=v) (hown:OwnFl w base v fs) (f:Fl) (hx:a.eval x = .slice (some ⟨w.heap.size,0,none⟩) 1 1)
  (hlen:fs.length≤1000000000) (hbase:base≤w.heap.size)
  (h:∀ v' w',OwnFl w' base v' (fs++[f])→(w.alloc (.cells #[.int .i64 f.key.kind,.int .i64 f.key.src,.int .i64 f.key.frm,.int .i64 f.key.dst,.int .i64 f.key.too,.int .i64 f.st,.int .i64 f.unt,.int .i64 f.stp,.int .i64 f.h0,.int .i64 f.h1,.int .i64 f.w0,.int .i64 f.w1,.bool f.d0,.bool f.d1,.int .i64 f.num] 45)).grownBy w' v.ownBlock→wpList Tryz.prog ops Q rest (a.put o.dst v') w') :
  wpList Tryz.prog ops Q (o :: rest) a (w.alloc (.cells #[.int .i64 f.key.kind,.int .i64 f.key.src,.int .i64 f.key.frm,.int .i64 f.key.dst,.int .i64 f.key.too,.int .i64 f.st,.int .i64 f.unt,.int .i64 f.stp,.int .i64 f.h0,.int .i64 f.h1,.int .i64 f.w0,.int .i64 f.w1,.bool f.d0,.bool f.d1,.int .i64 f.num] 45)):=by
 obtain ⟨i0,hi,hz0,hz1,hz2⟩:=info_parts Tryz.infoFl
 have hp:=FlAt.new w f
 refine wpList_append_own1 (enc:=flRow) (xs:=fs) (base:=base) (v:=v) hgd s x 23 ho i0 _ 112 Tryz.underlying23 hi hz0 hz1 hz2 rfl (by decide) (fun _=>rfl) hs (OwnN.alloc hown _) f ⟨w.heap.size,0,none⟩ hx ?_ ?_ (by unfold maxLen;omega) (by omega) (by simp;omega) ?_
 ·intro j u hj
  have:=flRow_at (W:=w.alloc (.cells #[.int .i64 f.key.kind,.int .i64 f.key.src,.int .i64 f.key.frm,.int .i64 f.key.dst,.int .i64 f.key.too,.int .i64 f.st,.int .i64 f.unt,.int .i64 f.stp,.int .i64 f.h0,.int .i64 f.h1,.int .i64 f.w0,.int .i64 f.w1,.bool f.d0,.bool f.d1,.int .i64 f.num] 45)) (b:=w.heap.size) (o:=0) (f:=f) hp.cells j u hj
  by_cases hj0:j=0 <;> simpa [Addr.add,hj0] using this
 ·intro u hu
  simp only [flRow,List.mem_cons,List.not_mem_nil,or_false] at hu
  rcases hu with rfl|rfl|rfl|rfl|rfl|rfl|rfl|rfl|rfl|rfl|rfl|rfl|rfl|rfl|rfl <;> rfl
 ·intro v' w' h1 h2 _
  exact h v' w' h1 h2
theorem flRow_len (f:Fl):(flRow f).length=15:=rfl
theorem own_fl {w:World} {base g m cap:Nat} {fs:List Fl} (h:OwnFl w base (.slice (some ⟨g,0,none⟩) m cap) fs) (i:Nat) (hi:i < fs.length):w.cell? ⟨g,i * 15,none⟩=some (.int .i64 fs[i].key.kind)∧w.cell? ⟨g,i * 15+1,none⟩=some (.int .i64 fs[i].key.src)∧w.cell? ⟨g,i * 15+2,none⟩=some (.int .i64 fs[i].key.frm)∧w.cell? ⟨g,i * 15+3,none⟩=some (.int .i64 fs[i].key.dst)∧w.cell? ⟨g,i * 15+4,none⟩=some (.int .i64 fs[i].key.too)∧w.cell? ⟨g,i * 15+5,none⟩=some (.int .i64 fs[i].st)∧w.cell? ⟨g,i * 15+6,none⟩=some (.int .i64 fs[i].unt)∧w.cell? ⟨g,i * 15+7,none⟩=some (.int .i64 fs[i].stp)∧w.cell? ⟨g,i * 15+8,none⟩=some (.int .i64 fs[i].h0)∧w.cell? ⟨g,i * 15+9,none⟩=some (.int .i64 fs[i].h1)∧w.cell? ⟨g,i * 15+10,none⟩=some (.int .i64 fs[i].w0)∧w.cell? ⟨g,i * 15+11,none⟩=some (.int .i64 fs[i].w1)∧w.cell? ⟨g,i * 15+12,none⟩=some (.bool fs[i].d0)∧w.cell? ⟨g,i * 15+13,none⟩=some (.bool fs[i].d1)∧w.cell? ⟨g,i * 15+14,none⟩=some (.int .i64 fs[i].num):=by
 have c:=fun j u hj=>OwnN.cell h flRow_len i hi j u hj
 exact ⟨c 0 _ rfl,c 1 _ rfl,c 2 _ rfl,c 3 _ rfl,c 4 _ rfl,c 5 _ rfl,c 6 _ rfl,c 7 _ rfl,c 8 _ rfl,c 9 _ rfl,c 10 _ rfl,c 11 _ rfl,c 12 _ rfl,c 13 _ rfl,c 14 _ rfl⟩
end Go.Proofs.YtkhheooofcpfdaaGreatDoor
namespace Go.Proofs.YtkhheooofcpfdaaGreatDoor
open Go.RowKit
set_option linter.unusedVariables false
instance (p q:Ky):Decidable (LtK p q):=by unfold LtK;infer_instance
set_option maxRecDepth 100000 in
set_option maxHeartbeats 8000000 in
theorem lahead_any (p q:Ky) (w:World) :
  Calls Tryz.prog 41 #[.agg #[.int .i64 p.kind,.int .i64 p.src,.int .i64 p.frm,.int .i64 p.dst,.int .i64 p.too],.agg #[.int .i64 q.kind,.int .i64 q.src,.int .i64 q.frm,.int .i64 q.dst,.int .i64 q.too]] w fun e w'=>e = .returned (.bool (decide (LtK p q)))∧Below w.heap.size w w':=by
 have hb:Below w.heap.size w ((w.alloc (.cells #[.int .i64 p.kind,.int .i64 p.src,.int .i64 p.frm,.int .i64 p.dst,.int .i64 p.too] 37)).alloc (.cells #[.int .i64 q.kind,.int .i64 q.src,.int .i64 q.frm,.int .i64 q.dst,.int .i64 q.too] 37)):=((Below.refl _ _).alloc (Nat.le_refl _) _).alloc (by simp) _
 have HB:=hidE hb
 clear hb
 obtain ⟨r,hr⟩:∃ r,decide (LtK p q)=r:=⟨_,rfl⟩
 rw [hr]
 have HR:=hidE hr
 clear hr
 by_cases q0:p.kind=q.kind
 case neg =>
  have e0:(p.kind != q.kind)=true:=by simpa using q0
  have HV:Hid (r=decide (p.kind < q.kind)):=by
   show r=_
   rw [← HR.out]
   refine decide_eq_decide.2 ?_
   unfold LtK;omega
  clear HR q0
  go_enter Tryz.func41,Tryz.ntmps41
  go_wp2_with fail
  go_ret
  exact ⟨by rw [HV.out];rfl,HB.out⟩
 by_cases q1:p.src=q.src
 case neg =>
  have e0:(p.kind != q.kind)=false:=by simp [q0]
  have e1:(p.src != q.src)=true:=by simpa using q1
  have HV:Hid (r=decide (p.src < q.src)):=by
   show r=_
   rw [← HR.out]
   refine decide_eq_decide.2 ?_
   unfold LtK;omega
  clear HR q0 q1
  go_enter Tryz.func41,Tryz.ntmps41
  go_wp2_with fail
  go_ret
  exact ⟨by rw [HV.out];rfl,HB.out⟩
 by_cases q2:p.frm=q.frm
 case neg =>
  have e0:(p.kind != q.kind)=false:=by simp [q0]
  have e1:(p.src != q.src)=false:=by simp [q1]
  have e2:(p.frm != q.frm)=true:=by simpa using q2
  have HV:Hid (r=decide (p.frm < q.frm)):=by
   show r=_
   rw [← HR.out]
   refine decide_eq_decide.2 ?_
   unfold LtK;omega
  clear HR q0 q1 q2
  go_enter Tryz.func41,Tryz.ntmps41
  go_wp2_with fail
  go_ret
  exact ⟨by rw [HV.out];rfl,HB.out⟩
 by_cases q3:p.dst=q.dst
 case neg =>
  have e0:(p.kind != q.kind)=false:=by simp [q0]
  have e1:(p.src != q.src)=false:=by simp [q1]
  have e2:(p.frm != q.frm)=false:=by simp [q2]
  have e3:(p.dst != q.dst)=true:=by simpa using q3
  have HV:Hid (r=decide (p.dst < q.dst)):=by
   show r=_
   rw [← HR.out]
   refine decide_eq_decide.2 ?_
   unfold LtK;omega
  clear HR q0 q1 q2 q3
  go_enter Tryz.func41,Tryz.ntmps41
  go_wp2_with fail
  go_ret
  exact ⟨by rw [HV.out];rfl,HB.out⟩
 have e0:(p.kind != q.kind)=false:=by simp [q0]
 have e1:(p.src != q.src)=false:=by simp [q1]
 have e2:(p.frm != q.frm)=false:=by simp [q2]
 have e3:(p.dst != q.dst)=false:=by simp [q3]
 have HV:Hid (r=decide (p.too < q.too)):=by
  show r=_
  rw [← HR.out]
  refine decide_eq_decide.2 ?_
  unfold LtK;omega
 clear HR q0 q1 q2 q3
 go_enter Tryz.func41,Tryz.ntmps41
 go_wp2_with fail
 go_ret
 exact ⟨by rw [HV.out];rfl,HB.out⟩
end Go.Proofs.YtkhheooofcpfdaaGreatDoor
namespace Go.Proofs.YtkhheooofcpfdaaGreatDoor
open Go.RowKit Go.Maps
set_option linter.unusedVariables false
structure LIn (w:World) (b:Nat) (t:Tb) (v:Value):Prop where
 tab:w.heap[b]? = some (.cells #[.int .i64 t.max,.int .i64 t.now,v] 33 (0,0))
 own:OwnFl w 0 v t.fs
theorem LIn.lt {w:World} {b:Nat} {t:Tb} {v:Value} (h:LIn w b t v):b < w.heap.size:=blk_lt h.tab
theorem LIn.blk {w w':World} {b:Nat} {t:Tb} {v:Value} (h:LIn w b t v) (hb:w'.heap[b]? = w.heap[b]?) (hv:∀ k,v.ownBlock=some k→w'.heap[k]? = w.heap[k]?):LIn w' b t v:=⟨hb.trans h.tab,OwnN.blk h.own hv⟩
theorem LIn.below {w w':World} {b:Nat} {t:Tb} {v:Value} (h:LIn w b t v) (hb:Below w.heap.size w w'):LIn w' b t v:=h.blk (hb.block _ h.lt) (fun k hk=>hb.block k (OwnN.block h.own k hk).2)
theorem LIn.alloc {w:World} {b:Nat} {t:Tb} {v:Value} (h:LIn w b t v) (o:Obj):LIn (w.alloc o) b t v:=h.below ((Below.refl _ _).alloc (Nat.le_refl _) _)
theorem l_cells {w:World} {b:Nat} {x y z:Value} (h:w.heap[b]? = some (.cells #[x,y,z] 33 (0,0))):w.cell? ⟨b,0,none⟩=some x∧w.cell? ⟨b,1,none⟩=some y∧w.cell? ⟨b,2,none⟩=some z:=by
 refine ⟨?_,?_,?_⟩ <;> (rw [cell_of_row w b _ _ _ _ h];rfl)
theorem l_frees {w:World} {b:Nat} {x y z:Value} (h:w.heap[b]? = some (.cells #[x,y,z] 33 (0,0))):w.frozen? ⟨b,0,none⟩=false∧w.frozen? ⟨b,1,none⟩=false∧w.frozen? ⟨b,2,none⟩=false :=
 ⟨frozen_of_row w b 0 _ _ h,frozen_of_row w b 1 _ _ h,frozen_of_row w b 2 _ _ h⟩
theorem getK_at {fs:List Fl} {k:Ky} {n:Nat} (hn:n < fs.length) (h:firstK fs[n].key=firstK k) (hb:∀ j (hj:j < fs.length),j < n→¬ firstK fs[j].key=firstK k):getK fs k=fs[n]∧hasK fs k=true:=by
 refine ⟨?_,?_⟩
 ·unfold getK
  have:fs.find? (fun f=>decide (firstK f.key=firstK k))=some fs[n]:=by
   rw [List.find?_eq_some_iff_getElem]
   exact ⟨by simpa using h,n,hn,rfl,fun j hj=>by simpa using hb j (by omega) hj⟩
  rw [this];rfl
 ·unfold hasK
  rw [List.any_eq_true]
  exact ⟨fs[n],List.getElem_mem hn,by simpa using h⟩
theorem hasK_none {fs:List Fl} {k:Ky} (hb:∀ j (hj:j < fs.length),¬ firstK fs[j].key=firstK k):hasK fs k=false:=by
 unfold hasK
 rw [List.any_eq_false]
 intro f hf
 obtain ⟨j,hj,rfl⟩:=List.getElem_of_mem hf
 simpa using hb j hj
set_option maxHeartbeats 4000000 in
theorem ltime_any (b:Nat) (t:Tb) (v:Value) (now:Int) (w:World) (h:LIn w b t v) :
  Calls Tryz.prog 25 #[.pointer (some ⟨b,0,none⟩),.int .i64 now] w fun e w'=>e = .returned (.int .i64 (timE t now))∧w'=w:=by
 have hc:=refTime_any now w
 obtain ⟨c0,c1,c2⟩:=l_cells h.tab
 clear h
 by_cases h1:now < 0∨1000000 < now
 ·rw [show timE t now=1 from if_pos h1]
  rw [inR_no (by omega)] at hc
  clear h1
  go_enter Tryz.func25,Tryz.ntmps25
  go_wp2_with (go_at_call 47;go_must (refine hc.mono ?_;rintro e W2 ⟨rfl,hw⟩;rw [hw];clear hw))
  go_ret
  exact ⟨rfl,rfl⟩
 ·rw [inR_yes (by omega) (by omega)] at hc
  by_cases h2:now < t.now
  ·rw [show timE t now=6 by unfold timE;rw [if_neg h1,if_pos h2]]
   clear h1
   go_enter Tryz.func25,Tryz.ntmps25
   go_wp2_with (go_at_call 47;go_must (refine hc.mono ?_;rintro e W2 ⟨rfl,hw⟩;rw [hw];clear hw))
   go_ret
   exact ⟨rfl,rfl⟩
  ·rw [show timE t now=0 by unfold timE;rw [if_neg h1,if_neg h2]]
   clear h1
   go_enter Tryz.func25,Tryz.ntmps25
   go_wp2_with (go_at_call 47;go_must (refine hc.mono ?_;rintro e W2 ⟨rfl,hw⟩;rw [hw];clear hw))
   go_ret
   exact ⟨rfl,rfl⟩
set_option maxRecDepth 100000 in
set_option maxHeartbeats 16000000 in
theorem lat_any (b:Nat) (t:Tb) (v:Value) (k:Ky) (w:World) (h:LIn w b t v) (hlen:t.fs.length≤1000) :
  Calls Tryz.prog 28 #[.pointer (some ⟨b,0,none⟩),keyV k] w fun e w'=>(∃ r:Int,e = .returned (.int .i64 r)∧((hasK t.fs k=false∧r = -1)∨∃ i,∃ hi:i < t.fs.length,r=(i:Int)∧hasK t.fs k=true∧getK t.fs k=t.fs[i]))∧Below w.heap.size w w':=by
 obtain ⟨Q,hQ⟩:∃ Q:Ending→World→Prop,Q=fun e w'=>(∃ r:Int,e = .returned (.int .i64 r)∧((hasK t.fs k=false∧r = -1)∨∃ i,∃ hi:i < t.fs.length,r=(i:Int)∧hasK t.fs k=true∧getK t.fs k=t.fs[i]))∧Below w.heap.size w w':=⟨_,rfl⟩
 have HQ:=hidE hQ
 rw [← hQ]
 have h1:=h.alloc (.cells #[.int .i64 k.kind,.int .i64 k.src,.int .i64 k.frm,.int .i64 k.dst,.int .i64 k.too] 37)
 have k1:=KyAt.new w k
 have b1:Below w.heap.size w (w.alloc (.cells #[.int .i64 k.kind,.int .i64 k.src,.int .i64 k.frm,.int .i64 k.dst,.int .i64 k.too] 37)):=(Below.refl _ _).alloc (Nat.le_refl _) _
 obtain ⟨W1,hW1⟩:∃ W1,w.alloc (.cells #[.int .i64 k.kind,.int .i64 k.src,.int .i64 k.frm,.int .i64 k.dst,.int .i64 k.too] 37)=W1:=⟨_,rfl⟩
 rw [hW1] at h1 k1 b1
 obtain ⟨a,c,hv⟩:=OwnN.len h.own
 obtain ⟨fs,hfs⟩:∃ fs,t.fs=fs:=⟨_,rfl⟩
 rw [hfs] at hv hlen
 obtain ⟨N,hN⟩:∃ N,fs.length=N:=⟨_,rfl⟩
 rw [hN] at hv hlen
 subst hv
 have HL1:=hidE h1
 have HK1:=hidE k1
 have HB1:=hidE b1
 have HFS:=hidE hfs
 have HN:=hidE hN
 unfold keyV
 clear hQ h h1 k1 b1 hfs hN
 go_enter Tryz.func28,Tryz.ntmps28
 go_upto_region 2 with fail
 try rw [hW1]
 clear hW1
 go_loopw [5] (fun i wr=>∃ n:Nat,n≤N∧i = .int .i64 (n:Int)∧Hid (Below W1.heap.size W1 wr)∧Hid (∀ j (hj:j < fs.length),j < n→¬ firstK fs[j].key=firstK k)) (fun i _=>((N:Int) - intOf i).toNat)
 case atStart=>exact ⟨0,by omega,rfl,Below.refl _ _,fun j hj h=>by omega⟩
 case round =>
  obtain ⟨n,hn,rfl,HB,HP⟩:=hrel
  have c2:=(l_cells (HL1.out.below HB.out).tab).2.2
  by_cases hnN:n < N
  case neg =>
   have j1:¬ (n:Int) < (N:Int):=by omega
   have HF:Hid (Q (.returned (.int .i64 (-1))) wr):=by
    show Q _ _
    rw [HQ.out]
    refine ⟨⟨-1,rfl,.inl ⟨?_,rfl⟩⟩,HB1.out.trans (HB.out.mono HB1.out.size)⟩
    rw [HFS.out]
    exact hasK_none (fun j hj=>HP.out j hj (by have:=HN.out;omega))
   clear HP
   go_wp2_with fail
   first|exact HF.out|(simp;exact HF.out)
  have j1:(n:Int) < (N:Int):=by omega
  have j2:(0:Int)≤(n:Int):=by omega
  have hnl:n < fs.length:=by have:=HN.out;omega
  have ow:=(HL1.out.below HB.out).own
  rw [HFS.out] at ow
  obtain ⟨g,cap,he,_,hglt,hlc,hcm⟩:=OwnN.shape ow (by omega)
  rw [HN.out] at he hlc
  simp only [Value.slice.injEq] at he
  obtain ⟨ha,hq0,hcc⟩:=he
  clear hq0
  subst ha
  subst hcc
  unfold maxLen at hcm
  have cc:=own_fl ow n hnl
  obtain ⟨f,hf⟩:∃ f,fs[n]=f:=⟨_,rfl⟩
  rw [hf] at cc
  obtain ⟨e0,e1,e2,e3,e4,_⟩:=cc
  have kc':=HK1.out.below HK1.out.lt HB.out
  obtain ⟨k0,k1,k2,k3,k4⟩:=kc'.cells
  have hcA:=Ext.call (w:=wr) (fun W=>refFirst_any f.key W)
  have hcB:=Ext.call (w:=wr) (fun W=>refFirst_any k W)
  have heq:=Tryz.keyEqlG (firstK f.key) (firstK k)
  obtain ⟨d,hd⟩:∃ d,decide (firstK f.key=firstK k)=d:=⟨_,rfl⟩
  rw [hd] at heq
  have HD:=hidE hd
  have HFE:=hidE hf
  obtain ⟨fa,hfa⟩:∃ fa,firstK f.key=fa:=⟨_,rfl⟩
  obtain ⟨fb,hfb⟩:∃ fb,firstK k=fb:=⟨_,rfl⟩
  rw [hfa] at hcA heq
  rw [hfb] at hcB heq
  unfold keyV at hcA hcB
  clear hd hf hfa hfb ow kc'
  go_upto_region 4 with fail
  clear c2
  have c2:=Ext.cell ((l_cells (HL1.out.below HB.out).tab).2.2)
  have e0:=Ext.cell e0
  have e1:=Ext.cell e1
  have e2:=Ext.cell e2
  have e3:=Ext.cell e3
  have e4:=Ext.cell e4
  have k0:=Ext.cell k0
  have k1:=Ext.cell k1
  have k2:=Ext.cell k2
  have k3:=Ext.cell k3
  have k4:=Ext.cell k4
  refine wp_region_ext (by kernel_rfl) (by kernel_rfl) ?_
  repeat (go_big_quiet_step (first|(go_at_call 53;with_reducible exact hcA _)|(go_at_call 53;with_reducible exact hcB _)))
  refine wpQuiet_nil ?_
  rintro _ ⟨u,rfl⟩
  have HU:=hidE (HB.out.trans (u.h.mono HB.out.size))
  obtain ⟨W5,hW5⟩:∃ X9,u.W=X9:=⟨_,rfl⟩
  rw [hW5] at HU ⊢
  clear hW5 hcA hcB heq c2 e0 e1 e2 e3 e4 k0 k1 k2 k3 k4
  cases d
  ·go_wp2_with fail
   go_roundw
   case rel=>exact ⟨n+1,by omega,by go_num,HU,fun j hj h=>by
    by_cases hjn:j < n
    ·exact HP.out j hj hjn
    ·have:j=n:=by omega
     subst this
     rw [HFE.out]
     simpa using HD.out⟩
   case measure=>simp [intOf];omega
  ·have HF:Hid (Q (.returned (.int .i64 (n:Int))) W5):=by
    show Q _ _
    rw [HQ.out]
    have hk2:firstK fs[n].key=firstK k:=by rw [HFE.out];simpa using HD.out
    obtain ⟨g1,g2⟩:=getK_at hnl hk2 HP.out
    refine ⟨⟨n,rfl,.inr ⟨n,by rw [HFS.out];exact hnl,rfl,by rw [HFS.out];exact g2,?_⟩⟩,HB1.out.trans (HU.out.mono HB1.out.size)⟩
    have e:=HFS.out
    subst e
    exact g1
   clear HP
   go_wp2_with fail
   first|exact HF.out|(simp;exact HF.out)
end Go.Proofs.YtkhheooofcpfdaaGreatDoor
namespace Go.Proofs.YtkhheooofcpfdaaGreatDoor
open Go.RowKit Go.Maps
set_option linter.unusedVariables false
def insStep (f:Fl) (s:List Fl × Bool) (a:Fl):List Fl × Bool :=
 if firstK a.key=firstK f.key then s else if s.2=false∧LtK (firstK f.key) (firstK a.key) then (s.1++[f]++[a],true) else (s.1++[a],s.2)
def insF (f:Fl) (fs:List Fl):List Fl × Bool:=fs.foldl (insStep f) ([],false)
def insL (f:Fl) (fs:List Fl):List Fl:=if (insF f fs).2=true then (insF f fs).1 else (insF f fs).1++[f]
theorem insF_snoc (f a:Fl) (fs:List Fl):insF f (fs++[a])=insStep f (insF f fs) a:=by unfold insF;rw [List.foldl_append];rfl
theorem insF_len (f:Fl):∀ fs:List Fl,(insF f fs).1.length≤2 * fs.length:=by
 have h:∀ (fs:List Fl) (s:List Fl × Bool),(fs.foldl (insStep f) s).1.length≤s.1.length+2 * fs.length:=by
  intro fs
  induction fs with
  | nil=>intro s;simp
  | cons a r ih =>
   intro s
   rw [List.foldl_cons]
   refine Nat.le_trans (ih _) ?_
   have:(insStep f s a).1.length≤s.1.length+2:=by
    unfold insStep
    split
    ·omega
    ·split <;> simp
   simp only [List.length_cons]
   omega
 intro fs
 have:=h fs ([],false)
 simpa [insF] using this
theorem take_snocF (fs:List Fl) (n:Nat) (h:n < fs.length):fs.take (n+1)=fs.take n++[fs[n]]:=by rw [List.take_succ_eq_append_getElem h]
theorem ofl_below {w w':World} {base:Nat} {v:Value} {fs:List Fl} (h:OwnFl w base v fs) (hb:Below w.heap.size w w'):OwnFl w' base v fs:=OwnN.below h hb
set_option maxRecDepth 100000 in
set_option maxHeartbeats 32000000 in
theorem lput_any (b:Nat) (t:Tb) (va:Value) (f:Fl) (w:World) (h:LIn w b t va) (hlen:t.fs.length≤1000) :
  Calls Tryz.prog 29 #[.pointer (some ⟨b,0,none⟩),flV f] w fun e w'=>e = .returned (.tuple #[])∧(∃ v',LIn w' b { t with fs:=insL f t.fs } v'∧∀ k,v'.ownBlock=some k→w.heap.size≤k)∧w.grownBy w' (some b):=by
 obtain ⟨Q,hQ⟩:∃ Q:Ending→World→Prop,Q=fun e w'=>e = .returned (.tuple #[])∧(∃ v',LIn w' b { t with fs:=insL f t.fs } v'∧∀ k,v'.ownBlock=some k→w.heap.size≤k)∧w.grownBy w' (some b):=⟨_,rfl⟩
 have HQ:=hidE hQ
 rw [← hQ]
 have h1:=h.alloc (.cells #[.int .i64 f.key.kind,.int .i64 f.key.src,.int .i64 f.key.frm,.int .i64 f.key.dst,.int .i64 f.key.too,.int .i64 f.st,.int .i64 f.unt,.int .i64 f.stp,.int .i64 f.h0,.int .i64 f.h1,.int .i64 f.w0,.int .i64 f.w1,.bool f.d0,.bool f.d1,.int .i64 f.num] 45)
 have p1:=FlAt.new w f
 have b1:Below w.heap.size w (w.alloc (.cells #[.int .i64 f.key.kind,.int .i64 f.key.src,.int .i64 f.key.frm,.int .i64 f.key.dst,.int .i64 f.key.too,.int .i64 f.st,.int .i64 f.unt,.int .i64 f.stp,.int .i64 f.h0,.int .i64 f.h1,.int .i64 f.w0,.int .i64 f.w1,.bool f.d0,.bool f.d1,.int .i64 f.num] 45)):=(Below.refl _ _).alloc (Nat.le_refl _) _
 have hbw:b < w.heap.size:=h.lt
 obtain ⟨W1,hW1⟩:∃ W1,w.alloc (.cells #[.int .i64 f.key.kind,.int .i64 f.key.src,.int .i64 f.key.frm,.int .i64 f.key.dst,.int .i64 f.key.too,.int .i64 f.st,.int .i64 f.unt,.int .i64 f.stp,.int .i64 f.h0,.int .i64 f.h1,.int .i64 f.w0,.int .i64 f.w1,.bool f.d0,.bool f.d1,.int .i64 f.num] 45)=W1:=⟨_,rfl⟩
 rw [hW1] at h1 p1 b1
 obtain ⟨aa,c,hv⟩:=OwnN.len h.own
 obtain ⟨fs,hfs⟩:∃ fs,t.fs=fs:=⟨_,rfl⟩
 rw [hfs] at hv hlen
 obtain ⟨N,hN⟩:∃ N,fs.length=N:=⟨_,rfl⟩
 rw [hN] at hv hlen
 subst hv
 have HL1:=hidE h1
 have HP1:=hidE p1
 have HB1:=hidE b1
 have HFS:=hidE hfs
 have HN:=hidE hN
 have HBW:=hidE hbw
 have cFf:=hidE (fun W=>refFirst_any f.key W)
 obtain ⟨fb,hfb⟩:∃ fb,firstK f.key=fb:=⟨_,rfl⟩
 rw [hfb] at cFf
 have HFB:=hidE hfb
 unfold flV
 unfold keyV at cFf
 clear hQ h h1 p1 b1 hfs hN hfb hbw
 go_enter Tryz.func29,Tryz.ntmps29
 go_upto_region 4 with fail
 try rw [hW1]
 clear hW1
 go_loopw [4,5,6] (fun v dn i wr=>∃ n:Nat,∃ d:Bool,n≤N∧i = .int .i64 (n:Int)∧dn = .bool d∧Hid (Below W1.heap.size W1 wr)∧Hid (OwnFl wr W1.heap.size v (insF f (fs.take n)).1)∧Hid ((insF f (fs.take n)).2=d)) (fun _ _ i _=>((N:Int) - intOf i).toNat)
 case atStart=>exact ⟨0,false,by omega,rfl,rfl,Below.refl _ _,(by show OwnFl _ _ _ _;exact OwnN.nil _ _),(by show _=_;rfl)⟩
 case round =>
  obtain ⟨n,d,hn,rfl,rfl,HB,HO,HD⟩:=hrel
  have c2:=(l_cells (HL1.out.below HB.out).tab).2.2
  have hwr:W1.heap.size≤wr.heap.size:=HB.out.size
  by_cases hnN:n < N
  case neg =>
   have j1:¬ (n:Int) < (N:Int):=by omega
   have hall:fs.take n=fs:=List.take_of_length_le (by have:=HN.out;omega)
   rw [hall] at HO HD
   have HFIN:Hid (∀ W5 v5,Below W1.heap.size W1 W5→OwnFl W5 W1.heap.size v5 (insL f fs)→∀ W6,W5.setCell ⟨b,2,none⟩ v5=W6→Q (.returned (.tuple #[])) W6):=fun W5 v5 hb5 ho5 W6 hW6=>by
    have hl5:=HL1.out.below hb5
    have hb1:=HB1.out
    have hbw:=HBW.out
    have hz1:w.heap.size≤W1.heap.size:=hb1.size
    have e6:=heap_setCell_same W5 b 2 _ _ v5 hl5.tab
    have ot:∀ k,k≠b→W6.heap[k]? = W5.heap[k]?:=fun k hk=>by rw [← hW6];exact heap_setCell_other W5 ⟨b,2,none⟩ k v5 hk
    rw [hW6] at e6
    have hbb:=hb1.trans (hb5.mono hz1)
    have hs6:W6.heap.size=W5.heap.size:=by rw [← hW6];simp [World.setCell]
    show Q _ _
    rw [HQ.out]
    refine ⟨rfl,⟨v5,⟨e6,?_⟩,fun k hk=>?_⟩,?_⟩
    ·rw [HFS.out]
     refine OwnN.rebase (OwnN.blk ho5 (fun k hk=>ot k ?_)) (Nat.zero_le _)
     have:=OwnN.block ho5 k hk
     omega
    ·have:=OwnN.block ho5 k hk
     omega
    ·refine ⟨?_,?_,?_,by rw [hs6];exact hbb.size,fun i hi hne=>(ot i (fun e=>hne (by rw [e]))).trans (hbb.block i hi)⟩
     ·rw [← hW6];exact hbb.os
     ·rw [← hW6];exact hbb.tape
     ·rw [← hW6];exact hbb.output
   cases d
   ·have hil:insL f fs=(insF f fs).1++[f]:=by unfold insL;rw [if_neg (by rw [HD.out];decide)]
    have hnl:(insF f fs).1.length≤1000000000:=by have:=insF_len f fs;have:=HN.out;omega
    rw [hil] at HFIN
    obtain ⟨e0,e1,e2,e3,e4,e5,e6,e7,e8,e9,e10,e11,e12,e13,e14⟩:=(HP1.out.below HP1.out.lt HB.out).cells
    have ho:=HO.out
    go_upto_region 15 with (first
     | (at_builtin;refine wpList_append_fl rfl (.tmp 56) (.tmp 58) rfl W1.heap.size u4 _ rfl ho f rfl hnl hwr ?_;intro v4 W4 hown4 hg4)
     | go_in)
    have hb4:=(HB.out.alloc hwr (.cells #[.int .i64 f.key.kind,.int .i64 f.key.src,.int .i64 f.key.frm,.int .i64 f.key.dst,.int .i64 f.key.too,.int .i64 f.st,.int .i64 f.unt,.int .i64 f.stp,.int .i64 f.h0,.int .i64 f.h1,.int .i64 f.w0,.int .i64 f.w1,.bool f.d0,.bool f.d1,.int .i64 f.num] 45)).grown hg4 (by simp;omega) (fun j hj=>(OwnN.block ho j hj).1)
    obtain ⟨q0,q1,q2⟩:=l_cells (HL1.out.below hb4).tab
    obtain ⟨y0,y1,y2⟩:=l_frees (HL1.out.below hb4).tab
    obtain ⟨a4,c4,hv4⟩:=OwnN.len hown4
    obtain ⟨L4,hL4⟩:∃ L4,((insF f fs).1++[f]).length=L4:=⟨_,rfl⟩
    rw [hL4] at hv4
    subst hv4
    obtain ⟨W6,hW6⟩:∃ W6,W4.setCell ⟨b,2,none⟩ (.slice a4 L4 c4)=W6:=⟨_,rfl⟩
    have HF:=hidE (HFIN.out W4 (.slice a4 L4 c4) hb4 hown4 W6 hW6)
    have HW6:=hidE hW6
    clear hg4 hown4 hb4 ho HFIN hW6 e0 e1 e2 e3 e4 e5 e6 e7 e8 e9 e10 e11 e12 e13 e14 c2 hL4
    go_wp2_with fail
    rw [HW6.out]
    go_end0
    exact HF.out
   ·have hil:insL f fs=(insF f fs).1:=by unfold insL;rw [if_pos (by rw [HD.out])]
    rw [hil] at HFIN
    obtain ⟨q0,q1,q2⟩:=l_cells (HL1.out.below HB.out).tab
    obtain ⟨y0,y1,y2⟩:=l_frees (HL1.out.below HB.out).tab
    obtain ⟨a4,c4,hv4⟩:=OwnN.len HO.out
    obtain ⟨L4,hL4⟩:∃ L4,(insF f fs).1.length=L4:=⟨_,rfl⟩
    rw [hL4] at hv4
    subst hv4
    obtain ⟨W6,hW6⟩:∃ W6,wr.setCell ⟨b,2,none⟩ (.slice a4 L4 c4)=W6:=⟨_,rfl⟩
    have HF:=hidE (HFIN.out wr (.slice a4 L4 c4) HB.out HO.out W6 hW6)
    have HW6:=hidE hW6
    clear HFIN hW6 c2 hL4 HO
    go_wp2_with fail
    rw [HW6.out]
    go_end0
    exact HF.out
  have j1:(n:Int) < (N:Int):=by omega
  have j2:(0:Int)≤(n:Int):=by omega
  have hnl:n < fs.length:=by have:=HN.out;omega
  have HWA:Hid (∀ W,Below W1.heap.size W1 W→∃ g,aa=some ⟨g,0,none⟩∧N≤c∧c≤9223372036854775807∧W.cell? ⟨g,n * 15,none⟩=some (.int .i64 fs[n].key.kind)∧W.cell? ⟨g,n * 15+1,none⟩=some (.int .i64 fs[n].key.src)∧W.cell? ⟨g,n * 15+2,none⟩=some (.int .i64 fs[n].key.frm)∧W.cell? ⟨g,n * 15+3,none⟩=some (.int .i64 fs[n].key.dst)∧W.cell? ⟨g,n * 15+4,none⟩=some (.int .i64 fs[n].key.too)∧W.cell? ⟨g,n * 15+5,none⟩=some (.int .i64 fs[n].st)∧W.cell? ⟨g,n * 15+6,none⟩=some (.int .i64 fs[n].unt)∧W.cell? ⟨g,n * 15+7,none⟩=some (.int .i64 fs[n].stp)∧W.cell? ⟨g,n * 15+8,none⟩=some (.int .i64 fs[n].h0)∧W.cell? ⟨g,n * 15+9,none⟩=some (.int .i64 fs[n].h1)∧W.cell? ⟨g,n * 15+10,none⟩=some (.int .i64 fs[n].w0)∧W.cell? ⟨g,n * 15+11,none⟩=some (.int .i64 fs[n].w1)∧W.cell? ⟨g,n * 15+12,none⟩=some (.bool fs[n].d0)∧W.cell? ⟨g,n * 15+13,none⟩=some (.bool fs[n].d1)∧W.cell? ⟨g,n * 15+14,none⟩=some (.int .i64 fs[n].num)):=fun W hW=>by
   have ow:=(HL1.out.below hW).own
   rw [HFS.out] at ow
   obtain ⟨g,cap,he,_,hglt,hlc,hcm⟩:=OwnN.shape ow (by omega)
   rw [HN.out] at he hlc
   simp only [Value.slice.injEq] at he
   obtain ⟨ha,_,hcc⟩:=he
   subst ha
   subst hcc
   unfold maxLen at hcm
   exact ⟨g,rfl,hlc,hcm,own_fl ow n hnl⟩
  obtain ⟨a,ha⟩:∃ a,fs[n]=a:=⟨_,rfl⟩
  rw [ha] at HWA
  obtain ⟨g,hga,hlc,hcm,cc⟩:=HWA.out wr HB.out
  subst hga
  have HWB:Hid (∀ W,Below W1.heap.size W1 W→W.cell? ⟨g,n * 15,none⟩=some (.int .i64 a.key.kind)∧W.cell? ⟨g,n * 15+1,none⟩=some (.int .i64 a.key.src)∧W.cell? ⟨g,n * 15+2,none⟩=some (.int .i64 a.key.frm)∧W.cell? ⟨g,n * 15+3,none⟩=some (.int .i64 a.key.dst)∧W.cell? ⟨g,n * 15+4,none⟩=some (.int .i64 a.key.too)∧W.cell? ⟨g,n * 15+5,none⟩=some (.int .i64 a.st)∧W.cell? ⟨g,n * 15+6,none⟩=some (.int .i64 a.unt)∧W.cell? ⟨g,n * 15+7,none⟩=some (.int .i64 a.stp)∧W.cell? ⟨g,n * 15+8,none⟩=some (.int .i64 a.h0)∧W.cell? ⟨g,n * 15+9,none⟩=some (.int .i64 a.h1)∧W.cell? ⟨g,n * 15+10,none⟩=some (.int .i64 a.w0)∧W.cell? ⟨g,n * 15+11,none⟩=some (.int .i64 a.w1)∧W.cell? ⟨g,n * 15+12,none⟩=some (.bool a.d0)∧W.cell? ⟨g,n * 15+13,none⟩=some (.bool a.d1)∧W.cell? ⟨g,n * 15+14,none⟩=some (.int .i64 a.num)):=fun W hW=>by
   obtain ⟨g',hg',_,_,cc'⟩:=HWA.out W hW
   simp only [Option.some.injEq,Addr.mk.injEq,and_true] at hg'
   rw [hg'];exact cc'
  have HSN:Hid (insF f (fs.take (n+1))=insStep f (insF f (fs.take n)) a):=by show _=_;rw [take_snocF fs n hnl,insF_snoc,ha]
  have hal:(insF f (fs.take n)).1.length≤1000000:=by
   have:=insF_len f (fs.take n)
   have:=List.length_take_le n fs
   omega
  obtain ⟨acc,hacc⟩:∃ acc,(insF f (fs.take n)).1=acc:=⟨_,rfl⟩
  rw [hacc] at HO hal
  have HAC:Hid (insF f (fs.take n)=(acc,d)):=by
   show _=_
   rw [← hacc,← HD.out]
  have cFa:=hidE (fun W=>refFirst_any a.key W)
  obtain ⟨fa,hfa⟩:∃ fa,firstK a.key=fa:=⟨_,rfl⟩
  rw [hfa] at cFa
  have HFA:=hidE hfa
  unfold keyV at cFa
  clear HWA ha hacc HD hfa
  obtain ⟨e0,e1,e2,e3,e4,e5,e6,e7,e8,e9,e10,e11,e12,e13,e14⟩:=cc
  have hc:=cFa.out wr
  go_upto_region 7 with (go_at_call 53;go_must (refine hc.mono ?_;rintro e W2 ⟨rfl,b2⟩))
  clear hc e0 e1 e2 e3 e4 e5 e6 e7 e8 e9 e10 e11 e12 e13 e14 c2
  have B3:=HB.out.trans (b2.mono hwr)
  have B3':=B3.alloc B3.size (.cells #[.int .i64 fa.kind,.int .i64 fa.src,.int .i64 fa.frm,.int .i64 fa.dst,.int .i64 fa.too] 37)
  have o3:=OwnN.alloc (OwnN.below HO.out b2) (.cells #[.int .i64 fa.kind,.int .i64 fa.src,.int .i64 fa.frm,.int .i64 fa.dst,.int .i64 fa.too] 37)
  have k3:=KyAt.new W2 fa
  obtain ⟨W3,hW3⟩:∃ W3,W2.alloc (.cells #[.int .i64 fa.kind,.int .i64 fa.src,.int .i64 fa.frm,.int .i64 fa.dst,.int .i64 fa.too] 37)=W3:=⟨_,rfl⟩
  obtain ⟨ka,hka⟩:∃ ka,W2.heap.size=ka:=⟨_,rfl⟩
  rw [hW3] at B3' o3 k3 ⊢
  rw [hka] at k3 ⊢
  clear hW3 hka b2 B3 HO HB
  obtain ⟨e0,e1,e2,e3,e4,e5,e6,e7,e8,e9,e10,e11,e12,e13,e14⟩:=(HP1.out.below HP1.out.lt B3').cells
  have hc:=cFf.out W3
  go_upto_region 8 with (go_at_call 53;go_must (refine hc.mono ?_;rintro e W4 ⟨rfl,b4⟩))
  clear hc e0 e1 e2 e3 e4 e5 e6 e7 e8 e9 e10 e11 e12 e13 e14
  have B5:=(B3'.trans (b4.mono B3'.size))
  have B5':=B5.alloc B5.size (.cells #[.int .i64 fb.kind,.int .i64 fb.src,.int .i64 fb.frm,.int .i64 fb.dst,.int .i64 fb.too] 37)
  have o5:=OwnN.alloc (OwnN.below o3 b4) (.cells #[.int .i64 fb.kind,.int .i64 fb.src,.int .i64 fb.frm,.int .i64 fb.dst,.int .i64 fb.too] 37)
  have k5:=(k3.below k3.lt b4).alloc (.cells #[.int .i64 fb.kind,.int .i64 fb.src,.int .i64 fb.frm,.int .i64 fb.dst,.int .i64 fb.too] 37)
  have q5:=KyAt.new W4 fb
  obtain ⟨W5,hW5⟩:∃ W5,W4.alloc (.cells #[.int .i64 fb.kind,.int .i64 fb.src,.int .i64 fb.frm,.int .i64 fb.dst,.int .i64 fb.too] 37)=W5:=⟨_,rfl⟩
  obtain ⟨kb,hkb⟩:∃ kb,W4.heap.size=kb:=⟨_,rfl⟩
  rw [hW5] at B5' o5 k5 q5 ⊢
  rw [hkb] at q5 ⊢
  clear hW5 hkb b4 B5 B3' o3 k3
  obtain ⟨x0,x1,x2,x3,x4⟩:=k5.cells
  obtain ⟨z0,z1,z2,z3,z4⟩:=q5.cells
  have heq:=Tryz.keyEqlG fa fb
  obtain ⟨d2,hd2⟩:∃ d2,decide (fa=fb)=d2:=⟨_,rfl⟩
  rw [hd2] at heq
  go_upto_if 32 with fail
  clear heq x0 x1 x2 x3 x4 z0 z1 z2 z3 z4
  have H5:=hidE B5'
  have HO5:=hidE o5
  clear B5' o5
  cases d2
  case true =>
   have HST:Hid (insF f (fs.take (n+1))=(acc,d)):=by
    show _=_
    rw [HSN.out,HAC.out]
    unfold insStep
    rw [if_pos (by rw [HFA.out,HFB.out];simpa using hd2)]
   clear k5 q5
   go_wp2_with fail
   go_roundw
   case rel=>exact ⟨n+1,d,by omega,by go_num,rfl,H5,(by show OwnFl _ _ _ _;rw [HST.out];exact HO5.out),(by show _=_;rw [HST.out])⟩
   case measure=>simp [intOf];omega
  have HNE:Hid (¬ firstK a.key=firstK f.key):=by show ¬ _;rw [HFA.out,HFB.out];simpa using hd2
  clear hd2
  go_upto_region 9 with fail
  obtain ⟨qq,hqq⟩:∃ qq,decide (LtK fb fa)=qq:=⟨_,rfl⟩
  go_cut [39] (fun v wq=>v = .bool (!d && qq)∧Hid (Below W1.heap.size W1 wq)∧Hid (OwnFl wq W1.heap.size u4 acc))
  case first =>
   cases d
   ·obtain ⟨x0,x1,x2,x3,x4⟩:=k5.cells
    obtain ⟨z0,z1,z2,z3,z4⟩:=q5.cells
    have hc:=lahead_any fb fa W5
    rw [hqq] at hc
    go_wp2_with (go_at_call 41;go_must (refine hc.mono ?_;rintro e W6 ⟨rfl,b6⟩))
    have HB6:=hidE (H5.out.trans (b6.mono H5.out.size))
    have HO6:=hidE (ofl_below HO5.out b6)
    clear hc b6 x0 x1 x2 x3 x4 z0 z1 z2 z3 z4
    go_meet
    case rel=>exact ⟨by simp,HB6,HO6⟩
   ·go_wp2_with fail
    go_meet
    case rel=>exact ⟨by simp,H5,HO5⟩
  case rest =>
  obtain ⟨rfl,HB6,HO6⟩:=hcut
  clear k5 q5 H5 HO5
  obtain ⟨p,hp⟩:∃ p,(!d && qq)=p:=⟨_,rfl⟩
  rw [hp]
  have HPP:=hidE hp
  have HQQ:=hidE hqq
  clear hp hqq
  go_upto_if 39 with fail
  go_cut [4,5] (fun v dn wq=>dn = .bool (d || p)∧Hid (Below W1.heap.size W1 wq)∧Hid (OwnFl wq W1.heap.size v (if p=true then acc++[f] else acc)))
  case first =>
   cases p
   ·go_wp2_with fail
    go_meet
    case rel=>exact ⟨by simp,HB6,HO6⟩
   ·obtain ⟨e0,e1,e2,e3,e4,e5,e6,e7,e8,e9,e10,e11,e12,e13,e14⟩:=(HP1.out.below HP1.out.lt HB6.out).cells
    have ho:=HO6.out
    have hw6:=HB6.out.size
    go_wp2_with (first
     | (at_builtin;refine wpList_append_fl rfl (.tmp 40) (.tmp 42) rfl W1.heap.size u4 acc rfl ho f rfl (by omega) hw6 ?_;intro v7 W7 hown7 hg7)
     | go_in)
    have HB7:=hidE ((HB6.out.alloc hw6 (.cells #[.int .i64 f.key.kind,.int .i64 f.key.src,.int .i64 f.key.frm,.int .i64 f.key.dst,.int .i64 f.key.too,.int .i64 f.st,.int .i64 f.unt,.int .i64 f.stp,.int .i64 f.h0,.int .i64 f.h1,.int .i64 f.w0,.int .i64 f.w1,.bool f.d0,.bool f.d1,.int .i64 f.num] 45)).grown hg7 (by simp;omega) (fun j hj=>(OwnN.block ho j hj).1))
    have HO7:=hidE hown7
    clear hg7 hown7 ho e0 e1 e2 e3 e4 e5 e6 e7 e8 e9 e10 e11 e12 e13 e14
    go_meet
    case rel=>exact ⟨by simp,HB7,HO7⟩
  case rest =>
  obtain ⟨rfl,HB7,HO7⟩:=hcut
  clear HB6 HO6
  have HST:Hid (insF f (fs.take (n+1))=((if p=true then acc++[f] else acc)++[a],d || p)):=by
   show _=_
   rw [HSN.out,HAC.out]
   unfold insStep
   rw [if_neg HNE.out]
   have hq:=HQQ.out
   have hp:=HPP.out
   rw [HFA.out,HFB.out]
   subst hp
   cases d
   ·subst hq
    by_cases hlt:LtK fb fa <;> simp [hlt]
   ·simp
  have hal2:(if p=true then acc++[f] else acc).length≤1000001:=by
   split
   ·simp;omega
   ·omega
  obtain ⟨acc2,hacc2⟩:∃ acc2,(if p=true then acc++[f] else acc)=acc2:=⟨_,rfl⟩
  rw [hacc2] at HO7 HST hal2
  obtain ⟨W7,hW7⟩:∃ W7,wc=W7:=⟨_,rfl⟩
  rw [hW7] at HB7 HO7 ⊢
  clear hW7 hacc2
  have c2:=(l_cells (HL1.out.below HB7.out).tab).2.2
  obtain ⟨e0,e1,e2,e3,e4,e5,e6,e7,e8,e9,e10,e11,e12,e13,e14⟩:=HWB.out W7 HB7.out
  have ho:=HO7.out
  have hw7:=HB7.out.size
  go_wp2_with (first
   | (at_builtin;refine wpList_append_fl rfl (.tmp 44) (.tmp 52) rfl W1.heap.size _ acc2 rfl ho a rfl (by omega) hw7 ?_;intro v8 W8 hown8 hg8)
   | go_in)
  have HB8:=hidE ((HB7.out.alloc hw7 (.cells #[.int .i64 a.key.kind,.int .i64 a.key.src,.int .i64 a.key.frm,.int .i64 a.key.dst,.int .i64 a.key.too,.int .i64 a.st,.int .i64 a.unt,.int .i64 a.stp,.int .i64 a.h0,.int .i64 a.h1,.int .i64 a.w0,.int .i64 a.w1,.bool a.d0,.bool a.d1,.int .i64 a.num] 45)).grown hg8 (by simp;omega) (fun j hj=>(OwnN.block ho j hj).1))
  have HO8:=hidE hown8
  clear hg8 hown8 ho e0 e1 e2 e3 e4 e5 e6 e7 e8 e9 e10 e11 e12 e13 e14 c2
  go_roundw
  case rel=>exact ⟨n+1,(d || p),by omega,by go_num,rfl,HB8,(by show OwnFl _ _ _ _;rw [HST.out];exact HO8.out),(by show _=_;rw [HST.out])⟩
  case measure=>simp [intOf];omega
end Go.Proofs.YtkhheooofcpfdaaGreatDoor
