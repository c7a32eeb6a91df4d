/- A look at a row of things that are n cells each ('ViewN'): a part of a row of the call's own, and what append of it leaves. Conditions: lengths within what the model lets grow. -/
import Derived.Test.YtkhheooofcpfdaaGreatDoorMgQ
import Derived.Deep.Upon
import Derived.Test.YtkhheooofcpfdaaGreatDoorMgX
namespace Go.Proofs.YtkhheooofcpfdaaGreatDoor
open Go.RowKit
set_option linter.unusedVariables false
section
variable {α:Type} {e:TypeId} {n:Nat} {enc:α→List Value} {w:World} {base:Nat} {v:Value} {xs:List α}
def ViewN (enc:α→List Value) (w:World) (vx:Value) (qs:List α):Prop :=
 (qs=[]∧∃ a c,vx = .slice a 0 c)∨∃ b off cap,vx = .slice (some ⟨b,off,none⟩) qs.length cap∧∀ j u,(qs.flatMap enc)[j]? = some u→w.cell? ⟨b,off+j,none⟩=some u
theorem OwnN.view (h:OwnN e n enc w base v xs):ViewN enc w v xs:=by
 obtain ⟨h1,h2⟩:=h
 rcases h2 with ⟨rfl,h0⟩|⟨g,cap,cur,rfl,hb,hg,hr⟩
 ·exact .inl ⟨List.eq_nil_of_length_eq_zero h0,_,_,rfl⟩
 ·refine .inr ⟨g,0,cap,rfl,fun j u hj=>?_⟩
  have hc:=World.ownsRow.cells (w:=w) ⟨h1,.inr ⟨g,cap,cur,rfl,hb,hg,hr⟩⟩ (g:=g) rfl j u hj
  have add:Addr.add ⟨g,0,none⟩ j=⟨g,0+j,none⟩:=by by_cases hj:j=0 <;> simp [Addr.add,hj]
  rw [add] at hc;exact hc
theorem encs_take (hn:∀ x,(enc x).length=n) (xs:List α) (k:Nat):(xs.take k).flatMap enc=(xs.flatMap enc).take (k * n):=by
 induction xs generalizing k with
 | nil=>simp
 | cons a r ih =>
  cases k with
  | zero=>simp
  | succ k =>
   rw [List.take_succ_cons,List.flatMap_cons,List.flatMap_cons,ih,List.take_append,hn]
   have e1:(enc a).take ((k+1) * n)=enc a:=List.take_of_length_le (by rw [hn,Nat.add_mul];omega)
   rw [e1,show (k+1) * n - n=k * n by rw [Nat.add_mul];omega]
theorem encs_drop (hn:∀ x,(enc x).length=n) (xs:List α) (k:Nat):(xs.drop k).flatMap enc=(xs.flatMap enc).drop (k * n):=by
 induction xs generalizing k with
 | nil=>simp
 | cons a r ih =>
  cases k with
  | zero=>simp
  | succ k =>
   rw [List.drop_succ_cons,List.flatMap_cons,ih,List.drop_append,hn]
   have e1:(enc a).drop ((k+1) * n)=[]:=List.drop_eq_nil_of_le (by rw [hn,Nat.add_mul];omega)
   rw [e1,show (k+1) * n - n=k * n by rw [Nat.add_mul];omega,List.nil_append]
theorem ViewN.front {b off cap m:Nat} (hn:∀ x,(enc x).length=n) (h:ViewN enc w (.slice (some ⟨b,off,none⟩) m cap) xs) (k:Nat) (hk:k≤xs.length):ViewN enc w (.slice (some ⟨b,off,none⟩) k cap) (xs.take k):=by
 rcases h with ⟨rfl,a,c,he⟩|⟨b',off',cap',he,hc⟩
 ·have:k=0:=by simpa using hk
  subst this
  exact .inl ⟨by simp,_,_,rfl⟩
 ·simp only [Value.slice.injEq,Option.some.injEq,Addr.mk.injEq,and_true] at he
  obtain ⟨⟨rfl,rfl⟩,_,_⟩:=he
  refine .inr ⟨b,off,cap,by rw [List.length_take,Nat.min_eq_left hk],fun j u hj=>hc j u ?_⟩
  rw [encs_take hn,List.getElem?_take] at hj
  split at hj
  ·exact hj
  ·cases hj
theorem ViewN.back {b off cap m:Nat} (hn:∀ x,(enc x).length=n) (h:ViewN enc w (.slice (some ⟨b,off,none⟩) m cap) xs) (k:Nat) (hk:k≤xs.length) (hm:m=xs.length) {ad:Option Addr} (c':Nat) (ha:ad=some ⟨b,off+k * n,none⟩∨k=xs.length):ViewN enc w (.slice ad (m - k) c') (xs.drop k):=by
 subst hm
 by_cases hx:k=xs.length
 ·subst hx
  exact .inl ⟨by simp,ad,c',by simp⟩
 ·rcases ha with rfl|ha
  ·rcases h with ⟨rfl,a,c,he⟩|⟨b',off',cap',he,hc⟩
   ·simp at hk;simp [hk] at hx
   ·simp only [Value.slice.injEq,Option.some.injEq,Addr.mk.injEq,and_true] at he
    obtain ⟨⟨rfl,rfl⟩,_⟩:=he
    refine .inr ⟨b,off+k * n,c',by rw [List.length_drop],fun j u hj=>?_⟩
    rw [encs_drop hn,List.getElem?_drop] at hj
    have:=hc _ u hj
    rw [show off+(k * n+j)=off+k * n+j by omega] at this
    exact this
  ·exact absurd ha hx
theorem wpList_append_view {P:Program} {ops:Array Oper} {rest:List Oper} {o:Oper} {a:Act} {Q:Exit→Act→World→Prop} (hgd:o.guard=none) (s x:Operand) (t:TypeId)
  (ho:o.op = .call { callee:=.builtin .append,args:=#[s,x],argTypes:=#[t,t] })
  (i:TypeInfo) (z:Value) (bytes:Nat) (ht:P.underlying t=some (.slice e)) (hi:P.info? e=some i) (hz:i.zero=some z)
  (hsize:i.size=n) (hby:i.bytes=bytes) (hzs:z.cells.size=n) (hsz:0 < n) (hn:∀ x,(enc x).length=n) (h1:∀ x,∀ u ∈ enc x,u.oneCell'=true)
  (hs:a.eval s=v) (hown:OwnN e n enc w base v xs) (vx:Value) (qs:List α) (hx:a.eval x=vx) (hsrc:ViewN enc w vx qs)
  (h63:xs.length+qs.length≤maxLen) (hbytes:(xs.length+qs.length) * bytes≤140737488355328) (hbase:base≤w.heap.size)
  (h:∀ v' w',OwnN e n enc w' base v' (xs++qs)→w.grownBy w' v.ownBlock→wpList P ops Q rest (a.put o.dst v') w'):wpList P ops Q (o :: rest) a w:=by
 rcases hsrc with ⟨rfl,ax,cx,rfl⟩|⟨b,off,cap,rfl,hc⟩
 ·refine wpList_plain hgd fun K hK=>?_
  obtain ⟨av,cv,hv,hle⟩:∃ av cv,v = .slice av xs.length cv∧xs.length≤cv:=by
   rcases Nat.eq_zero_or_pos xs.length with h0|h0
   ·obtain ⟨av,cv,hv⟩:=OwnN.len hown
    exact ⟨av,cv,hv,by omega⟩
   ·obtain ⟨g,cap,hv,_,_,h7,_⟩:=OwnN.shape hown h0
    exact ⟨_,cap,hv,h7⟩
  have hsr:Src P i.size t (.slice ax 0 cx) 0 [] w:=by
   rcases ax with _|ax
   ·exact Src.ofNil w ht cx
   ·exact Src.ofSlice w ht ax 0 cx [] (by simp) (fun j u hj=>by simp at hj) (fun u hu=>by cases hu)
  have hr:=run_append_nothing (P:=P) w t t o.type e i ht hi av xs.length cv hle _ hsr
  unfold Oper.wp execOp
  rw [hv] at hs
  simp only [ho,resolve,invoke,builtin,Sem.run_bind,Sem.run_pure,Result.andThen_ok,List.map_toArray,List.map_cons,List.map_nil,hs,hx,hr]
  rw [← hv]
  exact hK _ _ (h v w (by rw [List.append_nil];exact hown) (World.grownBy.refl _ _))
 ·refine wpList_append_at hgd s x t ho base e i z n bytes ht hi hz hsize hby hzs hsz v xs.length (xs.flatMap enc) hs hown ⟨b,off,none⟩ qs.length cap (qs.flatMap enc) hx (encs_len hn qs) ?_ ?_ h63 hbytes hbase ?_
  ·intro j u hj
   have add:Addr.add ⟨b,off,none⟩ j=⟨b,off+j,none⟩:=by by_cases hj:j=0 <;> simp [Addr.add,hj]
   rw [add];exact hc j u hj
  ·intro u hu
   obtain ⟨q,_,hq⟩:=List.mem_flatMap.1 hu
   exact h1 q u hq
  ·intro v' w' h4 h2 _
   refine h v' w' ?_ h2
   unfold OwnN
   rw [List.length_append,List.flatMap_append];exact h4
end
end Go.Proofs.YtkhheooofcpfdaaGreatDoor
namespace Go.Proofs.YtkhheooofcpfdaaGreatDoor
open Go.RowKit Go.Maps
set_option linter.unusedVariables false
def posK (gs:List Ky) (x:Ky):Nat:=(gs.takeWhile fun y=>decide (LtK y x)).length
def insK (gs:List Ky) (x:Ky):List Ky:=gs.take (posK gs x)++[x]++gs.drop (posK gs x)
def gonK (now:Int) (fs:List Fl):List Ky:=fs.foldl (fun gs f=>if goneB now f=true then insK gs f.key else gs) []
theorem gonK_snoc (now:Int) (fs:List Fl) (a:Fl):gonK now (fs++[a])=if goneB now a=true then insK (gonK now fs) a.key else gonK now fs:=by unfold gonK;rw [List.foldl_append];rfl
theorem leftL_snoc (now:Int) (fs:List Fl) (a:Fl):leftL now (fs++[a])=if goneB now a=true then leftL now fs else leftL now fs++[a]:=by
 unfold leftL
 rw [List.filter_append]
 cases h:goneB now a <;> simp [h]
theorem posK_le (gs:List Ky) (x:Ky):posK gs x≤gs.length:=by
 unfold posK
 exact (List.takeWhile_prefix _).length_le
theorem insK_len (gs:List Ky) (x:Ky):(insK gs x).length=gs.length+1:=by
 unfold insK
 have:=posK_le gs x
 simp
 omega
theorem gonK_len (now:Int):∀ fs:List Fl,(gonK now fs).length≤fs.length:=by
 have h:∀ (fs:List Fl) (gs:List Ky),(fs.foldl (fun gs f=>if goneB now f=true then insK gs f.key else gs) gs).length≤gs.length+fs.length:=by
  intro fs
  induction fs with
  | nil=>intro gs;simp
  | cons a r ih =>
   intro gs
   rw [List.foldl_cons]
   refine Nat.le_trans (ih _) ?_
   split
   ·rw [insK_len];simp only [List.length_cons];omega
   ·simp only [List.length_cons];omega
 intro fs
 have:=h fs []
 unfold gonK
 simpa using this
theorem posK_step {gs:List Ky} {x:Ky} {j:Nat} (hj:j≤posK gs x) (hl:j < gs.length):(LtK gs[j] x→j+1≤posK gs x)∧(¬ LtK gs[j] x→posK gs x=j):=by
 unfold posK at *
 induction gs generalizing j with
 | nil=>simp at hl
 | cons a r ih =>
  by_cases ha:LtK a x
  ·rw [List.takeWhile_cons_of_pos (by simpa using ha)] at hj ⊢
   cases j with
   | zero=>exact ⟨fun _=>by simp,fun hn=>absurd ha hn⟩
   | succ j =>
    have:=ih (j:=j) (by simpa using hj) (by simpa using hl)
    simp only [List.getElem_cons_succ,List.length_cons]
    exact ⟨fun h=>by have:=this.1 h;omega,fun h=>by have:=this.2 h;omega⟩
  ·rw [List.takeWhile_cons_of_neg (by simpa using ha)] at hj ⊢
   have:j=0:=by simpa using hj
   subst this
   exact ⟨fun h=>absurd h ha,fun _=>rfl⟩
theorem kyR_one (k:Ky):∀ u ∈ kyRow k,u.oneCell'=true:=by
 intro u hu
 simp only [kyRow,List.mem_cons,List.not_mem_nil,or_false] at hu
 rcases hu with rfl|rfl|rfl|rfl|rfl <;> rfl
theorem kyR_len (k:Ky):(kyRow k).length=5:=rfl
theorem wpList_append_kv {w:World} {ops:Array Oper} {rest:List Oper} {o:Oper} {a:Act} {Q:Exit→Act→World→Prop} (hgd:o.guard=none) (s x:Operand)
  (ho:o.op = .call { callee:=.builtin .append,args:=#[s,x],argTypes:=#[58,58] })
  (base:Nat) (v:Value) (ks:List Ky) (hs:a.eval s=v) (hown:OwnKy w base v ks) (vx:Value) (qs:List Ky) (hx:a.eval x=vx) (hsrc:ViewN kyRow w vx qs)
  (hlen:ks.length+qs.length≤1000000) (hbase:base≤w.heap.size)
  (h:∀ v' w',OwnKy w' base v' (ks++qs)→w.grownBy w' v.ownBlock→wpList Tryz.prog ops Q rest (a.put o.dst v') w'):wpList Tryz.prog ops Q (o :: rest) a w:=by
 obtain ⟨i0,hi,hz0,hz1,hz2⟩:=info_parts Tryz.infoKey
 exact wpList_append_view (enc:=kyRow) hgd s x 58 ho i0 _ 40 Tryz.underlying58 hi hz0 hz1 hz2 rfl (by decide) kyR_len kyR_one hs hown vx qs hx hsrc (by unfold maxLen;omega) (by omega) hbase h
theorem own_ky {w:World} {base g m cap:Nat} {ks:List Ky} (h:OwnKy w base (.slice (some ⟨g,0,none⟩) m cap) ks) (i:Nat) (hi:i < ks.length):w.cell? ⟨g,i * 5,none⟩=some (.int .i64 ks[i].kind)∧w.cell? ⟨g,i * 5+1,none⟩=some (.int .i64 ks[i].src)∧w.cell? ⟨g,i * 5+2,none⟩=some (.int .i64 ks[i].frm)∧w.cell? ⟨g,i * 5+3,none⟩=some (.int .i64 ks[i].dst)∧w.cell? ⟨g,i * 5+4,none⟩=some (.int .i64 ks[i].too):=by
 have c:=fun j u hj=>OwnN.cell h kyR_len i hi j u hj
 exact ⟨c 0 _ rfl,c 1 _ rfl,c 2 _ rfl,c 3 _ rfl,c 4 _ rfl⟩
set_option maxHeartbeats 8000000 in
theorem ltick_bad (b:Nat) (t:Tb) (va:Value) (now z:Int) (w:World) (h:LIn w b t va) (hz:timE t now=z) (h0:¬ z=0) :
  Calls Tryz.prog 16 #[.pointer (some ⟨b,0,none⟩),.int .i64 now] w fun e w'=>e = .returned (.tuple #[.slice none 0 0,.int .i64 z])∧w'=w:=by
 have hc:=ltime_any b t va now w h
 rw [hz] at hc
 have i1:(z != 0)=true:=by simpa using h0
 clear h0 hz h
 go_enter Tryz.func16,Tryz.ntmps16
 go_wp2_with (go_at_call 25;go_must (refine hc.mono ?_;rintro e W2 ⟨rfl,hw⟩;rw [hw];clear hw))
 go_ret2
 exact ⟨rfl,rfl⟩
end Go.Proofs.YtkhheooofcpfdaaGreatDoor
namespace Go.Proofs.YtkhheooofcpfdaaGreatDoor
open Go.RowKit Go.Maps
set_option linter.unusedVariables false
theorem cut_kys {w:World} {base:Nat} {v:Value} {gs:List Ky} (h:OwnKy w base v gs) (j:Nat) (hj:j≤gs.length):∃ va vb,(∀ X,(Instr.slice 58 v none (some (.int .i64 (j:Int))) none).run Tryz.prog X = .ok va X)∧(∀ X,(Instr.slice 58 v (some (.int .i64 (j:Int))) none none).run Tryz.prog X = .ok vb X)∧ViewN kyRow w va (gs.take j)∧ViewN kyRow w vb (gs.drop j):=by
 have ht:Tryz.prog.underlying 58=some (.slice (Tryz.prog.elem 58)):=by kernel_rfl
 have he:Tryz.prog.elem 58=37:=by kernel_rfl
 obtain ⟨i0,hi,hz0,hz1,hz2⟩:=info_parts Tryz.infoKey
 have hsz:∀ X,(sizeOf (Tryz.prog.elem 58)).run Tryz.prog X = .ok 5 X:=fun X=>by rw [he];simp [sizeOf,typeInfo,hi,hz1]
 have hv:=OwnN.view h
 obtain ⟨_,h2⟩:=h
 rcases h2 with ⟨rfl,h0⟩|⟨g,cap,cur,rfl,hbg,hg,hl,hm,_,_⟩
 ·have e1:gs=[]:=List.length_eq_zero_iff.1 h0
  subst e1
  have hj0:j=0:=by simpa using hj
  subst hj0
  refine ⟨.slice none 0 0,.slice none 0 0,fun X=>?_,fun X=>?_,.inl ⟨rfl,_,_,rfl⟩,.inl ⟨rfl,_,_,rfl⟩⟩
  ·rw [run_slice_h _ _ _ _ _ ht _ _ (by simp) (by simp),hsz];rfl
  ·rw [run_slice_l _ _ _ _ _ ht _ _ (by simp) (by simp),hsz];rfl
 ·have s1:∀ X,(Instr.slice 58 (.slice (some ⟨g,0,none⟩) gs.length cap) none (some (.int .i64 (j:Int))) none).run Tryz.prog X = .ok (.slice (some ⟨g,0,none⟩) j cap) X:=fun X=>by
   rw [run_slice_h _ _ _ _ _ ht _ _ (by omega) (by omega),hsz]
   simp [sliced,Addr.add]
  by_cases hc:cap=j
  ·have hb:gs.length=j:=by omega
   refine ⟨_,.slice (some ⟨g,0,none⟩) 0 0,s1,fun X=>?_,ViewN.front kyR_len hv j hj,.inl ⟨by rw [← hb];simp,_,_,rfl⟩⟩
   rw [run_slice_l _ _ _ _ _ ht _ _ (by omega) (by omega),hsz]
   simp [sliced,hc,hb]
  ·refine ⟨_,.slice (some ⟨g,0+j * 5,none⟩) (gs.length - j) (cap - j),s1,fun X=>?_,ViewN.front kyR_len hv j hj,ViewN.back kyR_len hv j hj rfl (cap - j) (.inl rfl)⟩
   rw [run_slice_l _ _ _ _ _ ht _ _ (by omega) (by omega),hsz]
   by_cases h0:j=0
   ·simp [sliced,h0,Addr.add]
   ·simp [sliced,hc,Addr.add]
    omega
theorem ViewN.below {α:Type} {enc:α→List Value} {w w':World} {vx:Value} {qs:List α} (h:ViewN enc w vx qs) (hb:Below w.heap.size w w'):ViewN enc w' vx qs:=by
 rcases h with h|⟨b,off,cap,he,hc⟩
 ·exact .inl h
 ·refine .inr ⟨b,off,cap,he,fun j u hj=>?_⟩
  have h1:=hc j u hj
  have hlt:b < w.heap.size:=by
   rcases Nat.lt_or_ge b w.heap.size with h|h
   ·exact h
   ·simp [World.cell?,Array.getElem?_eq_none h] at h1
  rw [hb.cell (p:=⟨b,off+j,none⟩) hlt];exact h1
theorem own_diff {w:World} {b1 b2:Nat} {v1 v2:Value} {ks:List Ky} {fs:List Fl} (h1:OwnKy w b1 v1 ks) (h2:OwnFl w b2 v2 fs):∀ k,v1.ownBlock=some k→v2.ownBlock≠some k:=by
 intro k e1 e2
 obtain ⟨_,h1⟩:=h1
 obtain ⟨_,h2⟩:=h2
 rcases h1 with ⟨rfl,_⟩|⟨g,cap,cur,rfl,_,hg,_⟩
 ·cases e1
 rcases h2 with ⟨rfl,_⟩|⟨g',cap',cur',rfl,_,hg',_⟩
 ·cases e2
 have q1:g=k:=by simpa [Value.ownBlock] using e1
 have q2:g'=k:=by simpa [Value.ownBlock] using e2
 subst q1
 subst q2
 rw [hg] at hg'
 simp at hg'
theorem ky_grow {w w':World} {base:Nat} {v:Value} {ks:List Ky} {row:Option Nat} (h:OwnKy w base v ks) (hg:w.grownBy w' row) (hne:∀ k,v.ownBlock=some k→row≠some k):OwnKy w' base v ks:=OwnN.blk h (fun k hk=>hg.block k (OwnN.block h k hk).2 (fun e=>hne k hk e.symm))
set_option maxRecDepth 100000 in
set_option maxHeartbeats 32000000 in
theorem ltick_ok (b:Nat) (t:Tb) (va:Value) (now:Int) (w:World) (h:LIn w b t va) (hz:timE t now=0) (hlen:t.fs.length≤1000) (hvb:va.ownBlock≠some b) :
  Calls Tryz.prog 16 #[.pointer (some ⟨b,0,none⟩),.int .i64 now] w fun e w'=>(∃ v ks,e = .returned (.tuple #[v,.int .i64 0])∧OwnKy w' w.heap.size v ks∧ks=gonK now t.fs)∧(∃ v',LIn w' b { max:=t.max,now:=now,fs:=leftL now t.fs } v'∧∀ k,v'.ownBlock=some k→w.heap.size≤k)∧w.grownBy w' (some b):=by
 obtain ⟨Q,hQ⟩:∃ Q:Ending→World→Prop,Q=fun e w'=>(∃ v ks,e = .returned (.tuple #[v,.int .i64 0])∧OwnKy w' w.heap.size v ks∧ks=gonK now t.fs)∧(∃ v',LIn w' b { max:=t.max,now:=now,fs:=leftL now t.fs } v'∧∀ k,v'.ownBlock=some k→w.heap.size≤k)∧w.grownBy w' (some b):=⟨_,rfl⟩
 have HQ:=hidE hQ
 rw [← hQ]
 have hc:=ltime_any b t va now w h
 rw [hz] at hc
 have hbw:b < w.heap.size:=h.lt
 obtain ⟨aa,c,hv⟩:=OwnN.len h.own
 obtain ⟨fs,hfs⟩:∃ fs,t.fs=fs:=⟨_,rfl⟩
 rw [hfs] at hv hlen
 obtain ⟨N,hN⟩:∃ N,fs.length=N:=⟨_,rfl⟩
 rw [hN] at hv hlen
 subst hv
 have e1:=heap_setCell_same w b 1 _ _ (.int .i64 now) h.tab
 have ot:∀ k,k≠b→(w.setCell ⟨b,1,none⟩ (.int .i64 now)).heap[k]? = w.heap[k]?:=fun k hk=>heap_setCell_other w ⟨b,1,none⟩ k _ hk
 have on1:Only b w (w.setCell ⟨b,1,none⟩ (.int .i64 now)):=(Only.refl _ _).setCell _ _
 obtain ⟨q0,q1,q2⟩:=l_cells h.tab
 obtain ⟨y0,y1,y2⟩:=l_frees h.tab
 obtain ⟨W1,hW1⟩:∃ W1,w.setCell ⟨b,1,none⟩ (.int .i64 now)=W1:=⟨_,rfl⟩
 rw [hW1] at e1 ot on1
 have h1:LIn W1 b { max:=t.max,now:=now,fs:=t.fs } (.slice aa N c):=⟨e1,OwnN.blk h.own (fun k hk=>ot k (fun e=>hvb (by rw [← e];exact hk)))⟩
 have HL1:=hidE h1
 have HON:=hidE on1
 have HFS:=hidE hfs
 have HN:=hidE hN
 have HBW:=hidE hbw
 have HW1:=hidE hW1
 clear hQ h h1 hfs hN hbw hz e1 ot on1 hvb hW1
 go_enter Tryz.func16,Tryz.ntmps16
 go_upto_region 5 with (go_at_call 25;go_must (refine hc.mono ?_;rintro e W2 ⟨rfl,hw⟩;rw [hw];clear hw))
 rw [HW1.out]
 clear hc q0 q1 q2 y0 y1 y2 HW1
 go_upto_region 8 with fail
 go_loopw [7,8,9] (fun gv lv i wr=>∃ n:Nat,n≤N∧i = .int .i64 (n:Int)∧Hid (Below W1.heap.size W1 wr)∧Hid (OwnKy wr W1.heap.size gv (gonK now (fs.take n)))∧Hid (OwnFl wr W1.heap.size lv (leftL now (fs.take n)))) (fun _ _ i _=>((N:Int) - intOf i).toNat)
 case atStart=>exact ⟨0,by omega,rfl,Below.refl _ _,(by show OwnKy _ _ _ _;exact OwnN.nil _ _),(by show OwnFl _ _ _ _;exact OwnN.nil _ _)⟩
 case round =>
  obtain ⟨n,hn,rfl,HB,HG,HO⟩:=hrel
  have c2:=(l_cells (HL1.out.below HB.out).tab).2.2
  have hwr:W1.heap.size≤wr.heap.size:=HB.out.size
  by_cases hnN:n < N
  case neg =>
   have j1:¬ (n:Int) < (N:Int):=by omega
   have hall:fs.take n=fs:=List.take_of_length_le (by have:=HN.out;omega)
   rw [hall] at HG HO
   obtain ⟨q0,q1,q2⟩:=l_cells (HL1.out.below HB.out).tab
   obtain ⟨y0,y1,y2⟩:=l_frees (HL1.out.below HB.out).tab
   obtain ⟨a4,c4,hv4⟩:=OwnN.len HO.out
   obtain ⟨L4,hL4⟩:∃ L4,(leftL now fs).length=L4:=⟨_,rfl⟩
   rw [hL4] at hv4
   subst hv4
   obtain ⟨W6,hW6⟩:∃ W6,wr.setCell ⟨b,2,none⟩ (.slice a4 L4 c4)=W6:=⟨_,rfl⟩
   have HF:Hid (Q (.returned (.tuple #[u7,.int .i64 0])) W6):=by
    have hl5:=HL1.out.below HB.out
    have hb1:=HON.out
    have hbw:=HBW.out
    have hz1:W1.heap.size=w.heap.size:=hb1.size
    have e6:=heap_setCell_same wr b 2 _ _ (.slice a4 L4 c4) hl5.tab
    have ot:∀ k,k≠b→W6.heap[k]? = wr.heap[k]?:=fun k hk=>by rw [← hW6];exact heap_setCell_other wr ⟨b,2,none⟩ k _ hk
    rw [hW6] at e6
    have hs6:W6.heap.size=wr.heap.size:=by rw [← hW6];simp [World.setCell]
    show Q _ _
    rw [HQ.out]
    refine ⟨⟨u7,_,rfl,?_,by rw [HFS.out]⟩,⟨.slice a4 L4 c4,⟨e6,?_⟩,fun k hk=>?_⟩,?_⟩
    ·rw [← hz1]
     refine OwnN.blk HG.out (fun k hk=>ot k ?_)
     have:=OwnN.block HG.out k hk
     omega
    ·rw [HFS.out]
     refine OwnN.rebase (OwnN.blk HO.out (fun k hk=>ot k ?_)) (Nat.zero_le _)
     have:=OwnN.block HO.out k hk
     omega
    ·have:=OwnN.block HO.out k hk
     omega
    ·have hbb:=HB.out
     refine ⟨?_,?_,?_,by rw [hs6,← hz1];exact hbb.size,fun i hi hne=>(ot i (fun e=>hne (by rw [e]))).trans ((hbb.block i (by omega)).trans (hb1.block i (fun e=>hne (by rw [e]))))⟩
     ·rw [← hW6];exact hbb.os.trans hb1.os
     ·rw [← hW6];exact hbb.tape.trans hb1.tape
     ·rw [← hW6];exact hbb.output.trans hb1.output
   have HW6:=hidE hW6
   clear hW6 c2 hL4 HO HG
   go_wp2_with fail
   rw [HW6.out]
   go_wp2_with fail
   first|exact HF.out|(simp;exact HF.out)
  have j1:(n:Int) < (N:Int):=by omega
  have j2:(0:Int)≤(n:Int):=by omega
  have hnl:n < fs.length:=by have:=HN.out;omega
  have HWA:Hid (∀ W,Below W1.heap.size W1 W→∃ g,aa=some ⟨g,0,none⟩∧N≤c∧c≤9223372036854775807∧W.cell? ⟨g,n * 15,none⟩=some (.int .i64 fs[n].key.kind)∧W.cell? ⟨g,n * 15+1,none⟩=some (.int .i64 fs[n].key.src)∧W.cell? ⟨g,n * 15+2,none⟩=some (.int .i64 fs[n].key.frm)∧W.cell? ⟨g,n * 15+3,none⟩=some (.int .i64 fs[n].key.dst)∧W.cell? ⟨g,n * 15+4,none⟩=some (.int .i64 fs[n].key.too)∧W.cell? ⟨g,n * 15+5,none⟩=some (.int .i64 fs[n].st)∧W.cell? ⟨g,n * 15+6,none⟩=some (.int .i64 fs[n].unt)∧W.cell? ⟨g,n * 15+7,none⟩=some (.int .i64 fs[n].stp)∧W.cell? ⟨g,n * 15+8,none⟩=some (.int .i64 fs[n].h0)∧W.cell? ⟨g,n * 15+9,none⟩=some (.int .i64 fs[n].h1)∧W.cell? ⟨g,n * 15+10,none⟩=some (.int .i64 fs[n].w0)∧W.cell? ⟨g,n * 15+11,none⟩=some (.int .i64 fs[n].w1)∧W.cell? ⟨g,n * 15+12,none⟩=some (.bool fs[n].d0)∧W.cell? ⟨g,n * 15+13,none⟩=some (.bool fs[n].d1)∧W.cell? ⟨g,n * 15+14,none⟩=some (.int .i64 fs[n].num)):=fun W hW=>by
   have ow:=(HL1.out.below hW).own
   rw [HFS.out] at ow
   obtain ⟨g,cap,he,_,hglt,hlc,hcm⟩:=OwnN.shape ow (by omega)
   rw [HN.out] at he hlc
   simp only [Value.slice.injEq] at he
   obtain ⟨ha,_,hcc⟩:=he
   subst ha
   subst hcc
   unfold maxLen at hcm
   exact ⟨g,rfl,hlc,hcm,own_fl ow n hnl⟩
  have HTK:=hidE (take_snocF fs n hnl)
  obtain ⟨a,ha⟩:∃ a,fs[n]=a:=⟨_,rfl⟩
  rw [ha] at HWA HTK
  obtain ⟨g,hga,hlc,hcm,cc⟩:=HWA.out wr HB.out
  subst hga
  have hgl:(gonK now (fs.take n)).length≤1000:=Nat.le_trans (gonK_len now _) (by have:=List.length_take_le n fs;omega)
  have hll:(leftL now (fs.take n)).length≤1000:=Nat.le_trans (List.length_filter_le _ _) (by have:=List.length_take_le n fs;omega)
  have HGS:=hidE (gonK_snoc now (fs.take n) a)
  have HLS:=hidE (leftL_snoc now (fs.take n) a)
  rw [← HTK.out] at HGS HLS
  obtain ⟨gs,hgs⟩:∃ gs,gonK now (fs.take n)=gs:=⟨_,rfl⟩
  obtain ⟨ls,hls⟩:∃ ls,leftL now (fs.take n)=ls:=⟨_,rfl⟩
  rw [hgs] at HG HGS hgl
  rw [hls] at HO HLS hll
  clear HWA ha hgs hls HTK
  obtain ⟨e0,e1,e2,e3,e4,e5,e6,e7,e8,e9,e10,e11,e12,e13,e14⟩:=cc
  go_upto_region 11 with fail
  clear e0 e1 e2 e3 e4 e5 e6 e7 e8 e9 e10 e11 e12 e13 e14 c2
  have B2:=HB.out.alloc hwr (.cells #[.int .i64 a.key.kind,.int .i64 a.key.src,.int .i64 a.key.frm,.int .i64 a.key.dst,.int .i64 a.key.too,.int .i64 a.st,.int .i64 a.unt,.int .i64 a.stp,.int .i64 a.h0,.int .i64 a.h1,.int .i64 a.w0,.int .i64 a.w1,.bool a.d0,.bool a.d1,.int .i64 a.num] 45)
  have o2:=OwnN.alloc HO.out (.cells #[.int .i64 a.key.kind,.int .i64 a.key.src,.int .i64 a.key.frm,.int .i64 a.key.dst,.int .i64 a.key.too,.int .i64 a.st,.int .i64 a.unt,.int .i64 a.stp,.int .i64 a.h0,.int .i64 a.h1,.int .i64 a.w0,.int .i64 a.w1,.bool a.d0,.bool a.d1,.int .i64 a.num] 45)
  have g2:=OwnN.alloc HG.out (.cells #[.int .i64 a.key.kind,.int .i64 a.key.src,.int .i64 a.key.frm,.int .i64 a.key.dst,.int .i64 a.key.too,.int .i64 a.st,.int .i64 a.unt,.int .i64 a.stp,.int .i64 a.h0,.int .i64 a.h1,.int .i64 a.w0,.int .i64 a.w1,.bool a.d0,.bool a.d1,.int .i64 a.num] 45)
  have p2:=FlAt.new wr a
  obtain ⟨W2,hW2⟩:∃ W2,wr.alloc (.cells #[.int .i64 a.key.kind,.int .i64 a.key.src,.int .i64 a.key.frm,.int .i64 a.key.dst,.int .i64 a.key.too,.int .i64 a.st,.int .i64 a.unt,.int .i64 a.stp,.int .i64 a.h0,.int .i64 a.h1,.int .i64 a.w0,.int .i64 a.w1,.bool a.d0,.bool a.d1,.int .i64 a.num] 45)=W2:=⟨_,rfl⟩
  obtain ⟨kb,hkb⟩:∃ kb,wr.heap.size=kb:=⟨_,rfl⟩
  have hno:∀ k,u7.ownBlock=some k→k < kb:=fun k hk=>by rw [← hkb];exact (OwnN.block HG.out k hk).2
  have hno8:∀ k,u8.ownBlock=some k→k < kb:=fun k hk=>by rw [← hkb];exact (OwnN.block HO.out k hk).2
  rw [hW2] at B2 o2 g2 p2 ⊢
  rw [hkb] at p2 ⊢
  have HNO:=hidE hno
  have HNO8:=hidE hno8
  clear hW2 hkb HB HO HG hno hno8
  have HB2:=hidE B2
  have HO2:=hidE o2
  have HG2:=hidE g2
  have HP2:=hidE p2
  have hw2:W1.heap.size≤W2.heap.size:=B2.size
  clear B2 o2 g2
  obtain ⟨e0,e1,e2,e3,e4,e5,e6,e7,e8,e9,e10,e11,e12,e13,e14⟩:=p2.cells
  by_cases hgo:a.unt > now
  ·have HGB:Hid (goneB now a=false):=decide_eq_false (by omega)
   have ho:=HO2.out
   go_wp2_with (first
    | (at_builtin;refine wpList_append_fl rfl (.tmp 43) (.tmp 45) rfl W1.heap.size u8 ls rfl ho a rfl (by omega) hw2 ?_;intro v4 W4 hown4 hg4)
    | go_in)
   have hd:=own_diff HG2.out ho
   have HB4:=hidE ((HB2.out.alloc hw2 (.cells #[.int .i64 a.key.kind,.int .i64 a.key.src,.int .i64 a.key.frm,.int .i64 a.key.dst,.int .i64 a.key.too,.int .i64 a.st,.int .i64 a.unt,.int .i64 a.stp,.int .i64 a.h0,.int .i64 a.h1,.int .i64 a.w0,.int .i64 a.w1,.bool a.d0,.bool a.d1,.int .i64 a.num] 45)).grown hg4 (by simp;omega) (fun j hj=>(OwnN.block ho j hj).1))
   have HG4:=hidE (ky_grow (OwnN.alloc HG2.out (.cells #[.int .i64 a.key.kind,.int .i64 a.key.src,.int .i64 a.key.frm,.int .i64 a.key.dst,.int .i64 a.key.too,.int .i64 a.st,.int .i64 a.unt,.int .i64 a.stp,.int .i64 a.h0,.int .i64 a.h1,.int .i64 a.w0,.int .i64 a.w1,.bool a.d0,.bool a.d1,.int .i64 a.num] 45)) hg4 (fun k hk=>hd k hk))
   have HO4:=hidE hown4
   clear hown4 hg4 ho hd e0 e1 e2 e3 e4 e5 e6 e7 e8 e9 e10 e11 e12 e13 e14 p2
   go_roundw
   case rel=>exact ⟨n+1,by omega,by go_num,HB4,(by show OwnKy _ _ _ _;rw [HGS.out,if_neg (by rw [HGB.out];decide)];exact HG4.out),(by show OwnFl _ _ _ _;rw [HLS.out,if_neg (by rw [HGB.out];decide)];exact HO4.out)⟩
   case measure=>simp [intOf];omega
  ·have HGB:Hid (goneB now a=true):=decide_eq_true (by omega)
   obtain ⟨ag,cg,hu7⟩:=OwnN.len HG2.out
   obtain ⟨L,hL⟩:∃ L,gs.length=L:=⟨_,rfl⟩
   rw [hL] at hu7 hgl
   subst hu7
   have HL:=hidE hL
   have hpl:=posK_le gs a.key
   rw [hL] at hpl
   clear hL
   go_upto_region 14 with fail
   clear e0 e1 e2 e3 e4 e5 e6 e7 e8 e9 e10 e11 e12 e13 e14 p2
   go_loopw [11] (fun kk wq=>∃ j:Nat,kk = .int .i64 (j:Int)∧Hid (j≤posK gs a.key)∧Hid (Below W2.heap.size W2 wq)) (fun kk _=>((L:Int) - intOf kk).toNat)
   case atStart=>exact ⟨0,rfl,Nat.zero_le _,Below.refl _ _⟩
   case round =>
    obtain ⟨j,rfl,HJ,HBT⟩:=hrel
    obtain ⟨WT,hWT⟩:∃ WT,wr=WT:=⟨_,rfl⟩
    rw [hWT] at HBT ⊢
    clear hWT
    have hjp:=HJ.out
    by_cases hjL:j < L
    ·have i1:(j:Int) < (L:Int):=by omega
     have i2:(0:Int)≤(j:Int):=by omega
     have gT:=OwnN.below HG2.out HBT.out
     obtain ⟨gk,cap,he,_,hglt,hlcg,hcmg⟩:=OwnN.shape gT (by have:=HL.out;omega)
     rw [HL.out] at he hlcg
     simp only [Value.slice.injEq] at he
     obtain ⟨ha,hq0,hcc⟩:=he
     clear hq0
     subst ha
     subst hcc
     unfold maxLen at hcmg
     have hjg:j < gs.length:=by have:=HL.out;omega
     have cc:=own_ky gT j hjg
     have hst:=posK_step (x:=a.key) hjp hjg
     obtain ⟨y,hy⟩:∃ y,gs[j]=y:=⟨_,rfl⟩
     rw [hy] at cc hst
     obtain ⟨x0,x1,x2,x3,x4⟩:=cc
     obtain ⟨e0,e1,e2,e3,e4,e5,e6,e7,e8,e9,e10,e11,e12,e13,e14⟩:=(HP2.out.below HP2.out.lt HBT.out).cells
     have hcA:=Ext.call (w:=WT) (fun W=>lahead_any y a.key W)
     obtain ⟨q,hq⟩:∃ q,decide (LtK y a.key)=q:=⟨_,rfl⟩
     rw [hq] at hcA
     have x0:=Ext.cell x0
     have x1:=Ext.cell x1
     have x2:=Ext.cell x2
     have x3:=Ext.cell x3
     have x4:=Ext.cell x4
     have e0:=Ext.cell e0
     have e1:=Ext.cell e1
     have e2:=Ext.cell e2
     have e3:=Ext.cell e3
     have e4:=Ext.cell e4
     have HST:=hidE hst
     have HQQ:=hidE hq
     clear hst hq hy gT
     go_upto_region 14 with fail
     refine wp_region_ext (by kernel_rfl) (by kernel_rfl) ?_
     repeat (go_big_quiet_step ((go_at_call 41;exact hcA _)))
     refine wpQuiet_nil ?_
     rintro _ ⟨u,rfl⟩
     have HBU:=hidE (HBT.out.trans (u.h.mono HBT.out.size))
     obtain ⟨WU,hWU⟩:∃ WU,u.W=WU:=⟨_,rfl⟩
     rw [hWU] at HBU ⊢
     clear hWU hcA x0 x1 x2 x3 x4 e0 e1 e2 e3 e4 e5 e6 e7 e8 e9 e10 e11 e12 e13 e14 HBT
     cases q
     ·have HPK:Hid (posK gs a.key=j):=HST.out.2 (by simpa using HQQ.out)
      have HBT:=HBU
      clear HBU
      obtain ⟨WT,hWT⟩:∃ WT,WU=WT:=⟨_,rfl⟩
      rw [hWT] at HBT ⊢
      clear hWT HST HQQ
      have gT:=OwnN.below HG2.out HBT.out
      obtain ⟨va',vb',s1,s2,v1,v2⟩:=cut_kys gT j (by have:=HL.out;omega)
      obtain ⟨e0,e1,e2,e3,e4,e5,e6,e7,e8,e9,e10,e11,e12,e13,e14⟩:=(HP2.out.below HP2.out.lt HBT.out).cells
      have HV2:=hidE v2
      have htl:(gs.take j).length≤1000:=by have:=List.length_take_le j gs;have:=HL.out;omega
      have htd:(gs.drop j).length≤1000:=by rw [List.length_drop];have:=HL.out;omega
      have hl0:([]:List Ky).length+(gs.take j).length≤1000000:=by simp;omega
      have hnl0:OwnKy WT WT.heap.size (.slice none 0 0) []:=OwnN.nil _ _
      go_upto_region 18 with (first
       | (at_builtin;refine wpList_append_kv rfl (.tmp 62) (.tmp 65) rfl WT.heap.size (.slice none 0 0) [] rfl hnl0 va' (gs.take j) rfl v1 hl0 (Nat.le_refl _) ?_;intro v5 W5 own5 g5)
       | go_in)
      have b5:Below WT.heap.size WT W5:=(Below.refl _ _).grown g5 (Nat.le_refl _) (fun k hk=>by cases hk)
      rw [List.nil_append] at own5
      have hs5:=b5.size
      clear s1 v1 g5 e0 e1 e2 e3 e4 e5 e6 e7 e8 e9 e10 e11 e12 e13 e14 hl0 hnl0
      obtain ⟨e0,e1,e2,e3,e4,e5,e6,e7,e8,e9,e10,e11,e12,e13,e14⟩:=(HP2.out.below HP2.out.lt (HBT.out.trans (b5.mono HBT.out.size))).cells
      go_upto_region 19 with (first
       | (at_builtin;refine wpList_append_ky rfl (.tmp 67) (.tmp 70) rfl WT.heap.size v5 (gs.take j) rfl own5 a.key rfl (by omega) hs5 ?_;intro v6 W6 own6 g6)
       | go_in)
      have b6:Below WT.heap.size WT W6:=(b5.alloc hs5 (.cells #[.int .i64 a.key.kind,.int .i64 a.key.src,.int .i64 a.key.frm,.int .i64 a.key.dst,.int .i64 a.key.too] 37)).grown g6 (by simp;omega) (fun k hk=>(OwnN.block own5 k hk).1)
      have hs6:=b6.size
      have vv2:=HV2.out.below b6
      have hl6:(gs.take j++[a.key]).length+(gs.drop j).length≤1000000:=by rw [List.length_append];simp only [List.length_cons,List.length_nil];omega
      clear own5 g6 e0 e1 e2 e3 e4 e5 e6 e7 e8 e9 e10 e11 e12 e13 e14 b5 hs5
      go_wp2_with (first
       | (at_builtin;refine wpList_append_kv rfl (.tmp 72) (.tmp 75) rfl WT.heap.size v6 (gs.take j++[a.key]) rfl own6 vb' (gs.drop j) rfl vv2 hl6 hs6 ?_;intro v7 W7 own7 g7)
       | go_in)
      have b7:Below WT.heap.size WT W7:=b6.grown g7 hs6 (fun k hk=>(OwnN.block own6 k hk).1)
      have BT7:=HBT.out.trans (b7.mono HBT.out.size)
      have HB7:=hidE (HB2.out.trans (BT7.mono hw2))
      have HG7:=hidE (OwnN.rebase (b':=W1.heap.size) own7 (by have:=HBT.out.size;omega))
      have HO7:=hidE (OwnN.below HO2.out BT7)
      clear own6 own7 g7 b6 b7 BT7 hs6 vv2 s2 hl6
      go_roundw
      case rel=>exact ⟨n+1,by omega,by go_num,HB7,(by show OwnKy _ _ _ _;rw [HGS.out,if_pos HGB.out];unfold insK;rw [HPK.out];exact HG7.out),(by show OwnFl _ _ _ _;rw [HLS.out,if_pos HGB.out];exact HO7.out)⟩
      case measure=>simp [intOf];omega
     ·have HJ2:Hid (j+1≤posK gs a.key):=HST.out.1 (by simpa using HQQ.out)
      clear HST HQQ
      go_wp2_with fail
      go_roundw
      case rel=>exact ⟨j+1,by go_num,HJ2,HBU⟩
      case measure=>simp [intOf];omega
    ·have i1:¬ (j:Int) < (L:Int):=by omega
     have HPK:Hid (posK gs a.key=j):=by show posK gs a.key=j;omega
     go_upto_region 14 with fail
     refine wp_region_ext (by kernel_rfl) (by kernel_rfl) ?_
     repeat (go_big_quiet_step (fail))
     refine wpQuiet_nil ?_
     rintro _ ⟨u,rfl⟩
     have HBU:=hidE (HBT.out.trans (u.h.mono HBT.out.size))
     obtain ⟨WU,hWU⟩:∃ WU,u.W=WU:=⟨_,rfl⟩
     rw [hWU] at HBU ⊢
     clear hWU HBT
     have HBT:=HBU
     clear HBU
     obtain ⟨WT,hWT⟩:∃ WT,WU=WT:=⟨_,rfl⟩
     rw [hWT] at HBT ⊢
     clear hWT
     have gT:=OwnN.below HG2.out HBT.out
     obtain ⟨va',vb',s1,s2,v1,v2⟩:=cut_kys gT j (by have:=HL.out;omega)
     obtain ⟨e0,e1,e2,e3,e4,e5,e6,e7,e8,e9,e10,e11,e12,e13,e14⟩:=(HP2.out.below HP2.out.lt HBT.out).cells
     have HV2:=hidE v2
     have htl:(gs.take j).length≤1000:=by have:=List.length_take_le j gs;have:=HL.out;omega
     have htd:(gs.drop j).length≤1000:=by rw [List.length_drop];have:=HL.out;omega
     have hl0:([]:List Ky).length+(gs.take j).length≤1000000:=by simp;omega
     have hnl0:OwnKy WT WT.heap.size (.slice none 0 0) []:=OwnN.nil _ _
     go_upto_region 18 with (first
      | (at_builtin;refine wpList_append_kv rfl (.tmp 62) (.tmp 65) rfl WT.heap.size (.slice none 0 0) [] rfl hnl0 va' (gs.take j) rfl v1 hl0 (Nat.le_refl _) ?_;intro v5 W5 own5 g5)
      | go_in)
     have b5:Below WT.heap.size WT W5:=(Below.refl _ _).grown g5 (Nat.le_refl _) (fun k hk=>by cases hk)
     rw [List.nil_append] at own5
     have hs5:=b5.size
     clear s1 v1 g5 e0 e1 e2 e3 e4 e5 e6 e7 e8 e9 e10 e11 e12 e13 e14 hl0 hnl0
     obtain ⟨e0,e1,e2,e3,e4,e5,e6,e7,e8,e9,e10,e11,e12,e13,e14⟩:=(HP2.out.below HP2.out.lt (HBT.out.trans (b5.mono HBT.out.size))).cells
     go_upto_region 19 with (first
      | (at_builtin;refine wpList_append_ky rfl (.tmp 67) (.tmp 70) rfl WT.heap.size v5 (gs.take j) rfl own5 a.key rfl (by omega) hs5 ?_;intro v6 W6 own6 g6)
      | go_in)
     have b6:Below WT.heap.size WT W6:=(b5.alloc hs5 (.cells #[.int .i64 a.key.kind,.int .i64 a.key.src,.int .i64 a.key.frm,.int .i64 a.key.dst,.int .i64 a.key.too] 37)).grown g6 (by simp;omega) (fun k hk=>(OwnN.block own5 k hk).1)
     have hs6:=b6.size
     have vv2:=HV2.out.below b6
     have hl6:(gs.take j++[a.key]).length+(gs.drop j).length≤1000000:=by rw [List.length_append];simp only [List.length_cons,List.length_nil];omega
     clear own5 g6 e0 e1 e2 e3 e4 e5 e6 e7 e8 e9 e10 e11 e12 e13 e14 b5 hs5
     go_wp2_with (first
      | (at_builtin;refine wpList_append_kv rfl (.tmp 72) (.tmp 75) rfl WT.heap.size v6 (gs.take j++[a.key]) rfl own6 vb' (gs.drop j) rfl vv2 hl6 hs6 ?_;intro v7 W7 own7 g7)
      | go_in)
     have b7:Below WT.heap.size WT W7:=b6.grown g7 hs6 (fun k hk=>(OwnN.block own6 k hk).1)
     have BT7:=HBT.out.trans (b7.mono HBT.out.size)
     have HB7:=hidE (HB2.out.trans (BT7.mono hw2))
     have HG7:=hidE (OwnN.rebase (b':=W1.heap.size) own7 (by have:=HBT.out.size;omega))
     have HO7:=hidE (OwnN.below HO2.out BT7)
     clear own6 own7 g7 b6 b7 BT7 hs6 vv2 s2 hl6
     go_roundw
     case rel=>exact ⟨n+1,by omega,by go_num,HB7,(by show OwnKy _ _ _ _;rw [HGS.out,if_pos HGB.out];unfold insK;rw [HPK.out];exact HG7.out),(by show OwnFl _ _ _ _;rw [HLS.out,if_pos HGB.out];exact HO7.out)⟩
     case measure=>simp [intOf];omega
end Go.Proofs.YtkhheooofcpfdaaGreatDoor
