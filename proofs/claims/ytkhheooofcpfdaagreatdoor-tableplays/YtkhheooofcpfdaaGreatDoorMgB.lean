/- What the functions of package sum and of the reference that they are held against return, each for every input that the callers hand it; bytes lie in memory as the callers lay them. -/
import Derived.Test.YtkhheooofcpfdaaGreatDoorProg
import Derived.Test.YtkhheooofcpfdaaGreatDoorMgA
import Derived.WalkKit
import Derived.Deep.QuietTactic
import Derived.BigQuiet
import Derived.Laws.AppendOwnNone
import Derived.Laws.OwnMore
import Derived.OneCell
import Derived.Below
import Derived.WalkSmall
import Derived.Laws.AppendOwn
import Derived.Deep.DeepCutAuto
import Derived.Outline
namespace Go.Proofs.YtkhheooofcpfdaaGreatDoor
open Go.RowKit
set_option linter.unusedVariables false
theorem add_any (a b:Int) (w:World) (ha:0≤a) (ha':a≤65535) (hb:0≤b) (hb':b≤65535) :
  Calls Tryz.prog 129 #[.int .i64 a,.int .i64 b] w fun e w'=>e = .returned (.int .i64 (addS a b))∧w'=w:=by
 by_cases h:65535 < a+b
 ·have e:addS a b=a+b - 65535:=if_pos h
  rw [e]
  go_enter Tryz.func129,Tryz.ntmps129
  go_wp2
  go_ret
  exact ⟨rfl,rfl⟩
 ·have e:addS a b=a+b:=if_neg h
  rw [e]
  go_enter Tryz.func129,Tryz.ntmps129
  go_wp2
  go_ret
  exact ⟨rfl,rfl⟩
def Row (w:World) (b off:Nat) (zs:List Int):Prop :=
 (∀ i,i < zs.length→w.cell? ⟨b,off+i,none⟩=some (.int .u8 (zs.getD i 0)))∧∀ x ∈ zs,0≤x∧x≤255
set_option maxHeartbeats 1000000 in
theorem total_any (b off len cap:Nat) (zs:List Int) (w:World) (hl:len≤cap) (hm:cap≤maxLen) (hz:zs.length=len) (hr:Row w b off zs) :
  Calls Tryz.prog 127 #[.slice (some ⟨b,off,none⟩) len cap] w fun e w'=>e = .returned (.int .i64 (tot 0 zs))∧∃ n,w'=w.drewN n:=by
 unfold maxLen at hm
 obtain ⟨hc,hb⟩:=hr
 go_enter Tryz.func127,Tryz.ntmps127
 go_wp2
 go_loopw [0,3] (fun s v wr=>∃ (k n o:Nat) (t:Int),2 * k≤len∧(o=off+2 * k∨len=2 * k)∧s = .slice (some ⟨b,o,none⟩) (len - 2 * k) (cap - 2 * k)∧v = .int .i64 t∧0≤t∧t≤65535∧Hid (tot t (zs.drop (2 * k))=tot 0 zs)∧wr=w.drewN n) (fun s _ _=>match s with|.slice _ l _=>l|_=>0)
 case atStart=>exact ⟨0,0,off,0,by omega,.inl rfl,rfl,rfl,by omega,by omega,rfl,rfl⟩
 case round =>
  obtain ⟨k,n,o,t,hk,ho,rfl,rfl,h0,h1,hT,rfl⟩:=hrel
  by_cases hlt:2≤len - 2 * k
  ·obtain rfl:o=off+2 * k:=by omega
   have c0:w.cell? ⟨b,off+2 * k,none⟩=some (.int .u8 (zs.getD (2 * k) 0)):=hc _ (by omega)
   have c1:w.cell? ⟨b,off+2 * k+1,none⟩=some (.int .u8 (zs.getD (2 * k+1) 0)):=hc (2 * k+1) (by omega)
   have b0:=getD_byte (by omega:2 * k < zs.length) hb
   have b1:=getD_byte (by omega:2 * k+1 < zs.length) hb
   have HT:Hid (tot (addS t (zs.getD (2 * k) 0 * 256+zs.getD (2 * k+1) 0)) (zs.drop (2 * k+2))=tot 0 zs):=by
    rw [← tot_drop2 zs (2 * k) t (by omega)];exact hT.out
   generalize zs.getD (2 * k) 0=x0 at c0 b0 HT
   generalize zs.getD (2 * k+1) 0=x1 at c1 b1 HT
   have i0:(0:Int) < ((len - 2 * k:Nat):Int):=by omega
   have i1:(1:Int) < ((len - 2 * k:Nat):Int):=by omega
   have HO:Hid (bits .or .i64 (x0 * 256) x1=x0 * 256+x1):=or8 x0 x1 b0.1 b0.2 b1.1 b1.2
   have hs:Hid (0≤addS t (x0 * 256+x1)∧addS t (x0 * 256+x1)≤65535):=addS_range (a:=t) (b:=x0 * 256+x1) h0 h1 (by omega) (by omega)
   clear hT
   go_wp2
   go_quiet ((go_at_call 129;rw [HO.out];refine (add_any _ _ _ (by omega) (by omega) (by omega) (by omega)).mono ?_;rintro e w' ⟨rfl,rfl⟩;exact ⟨rfl,_,rfl⟩))
   go_wp2
   go_roundw
   case rel=>exact ⟨k+1,_,if cap - 2 * k=2 then off+2 * k else off+2 * k+2,_,by omega,by split <;> omega,slice_if rfl (by omega) (by omega),rfl,hs.out.1,hs.out.2,HT,rfl⟩
   case measure=>simp;omega
  ·by_cases h1:len - 2 * k=1
   ·obtain rfl:o=off+2 * k:=by omega
    have c0:w.cell? ⟨b,off+2 * k,none⟩=some (.int .u8 (zs.getD (2 * k) 0)):=hc _ (by omega)
    have b0:=getD_byte (by omega:2 * k < zs.length) hb
    have HT:Hid (addS t (zs.getD (2 * k) 0 * 256)=tot 0 zs):=by
     rw [← tot_drop1 zs (2 * k) t (by omega)];exact hT.out
    generalize zs.getD (2 * k) 0=x0 at c0 b0 HT
    have i0:(0:Int) < ((len - 2 * k:Nat):Int):=by omega
    clear hT
    go_wp2_with (go_at_call 129;refine (add_any _ _ _ (by omega) (by omega) (by omega) (by omega)).mono ?_;rintro e w' ⟨rfl,rfl⟩)
    go_ret
    exact ⟨ret_int HT.out,_,rfl⟩
   ·have HT:Hid (t=tot 0 zs):=by
     rw [← hT.out,tot_drop0 zs (2 * k) t (by omega)];exact rfl
    clear hT
    go_wp2
    go_ret
    exact ⟨ret_int HT.out,_,rfl⟩
theorem total_none (a:Option Addr) (cap:Nat) (w:World) :
  Calls Tryz.prog 127 #[.slice a 0 cap] w fun e w'=>e = .returned (.int .i64 0)∧∃ n,w'=w.drewN n:=by
 go_enter Tryz.func127,Tryz.ntmps127
 go_wp2
 refine wp_loop_rounds 1 ?_
 rw [rounds_succ]
 go_wp2
 go_ret
 exact ⟨rfl,0,rfl⟩
def Bytes (w:World) (v:Value) (zs:List Int):Prop :=
 (zs=[]∧∃ a cap,v = .slice a 0 cap∧(a=none→cap=0)) ∨
 ∃ b off len cap,v = .slice (some ⟨b,off,none⟩) len cap∧len≤cap∧cap≤maxLen∧len < 2 ^ 62∧zs.length=len∧Row w b off zs
theorem Row.drewN {w:World} {b off:Nat} {zs:List Int} (h:Row w b off zs) (n:Nat):Row (w.drewN n) b off zs:=by
 refine ⟨fun i hi=>?_,h.2⟩
 have:=h.1 i hi
 simpa using this
theorem Bytes.drewN {w:World} {v:Value} {zs:List Int} (h:Bytes w v zs) (n:Nat):Bytes (w.drewN n) v zs:=by
 rcases h with h|⟨b,off,len,cap,h1,h2,h3,h4,h5,h6⟩
 ·exact .inl h
 ·exact .inr ⟨b,off,len,cap,h1,h2,h3,h4,h5,h6.drewN n⟩
theorem Bytes.byte {w:World} {v:Value} {zs:List Int} (h:Bytes w v zs):∀ x ∈ zs,0≤x∧x≤255:=by
 rcases h with ⟨rfl,_⟩|⟨_,_,_,_,_,_,_,_,_,h⟩
 ·intro x hx;cases hx
 ·exact h.2
theorem Bytes.tot {w:World} {v:Value} {zs:List Int} (h:Bytes w v zs):0≤tot 0 zs∧Go.Proofs.YtkhheooofcpfdaaGreatDoor.tot 0 zs≤65535 :=
 tot_range zs 0 h.byte (by omega) (by omega)
theorem total_bytes {w:World} {v:Value} {zs:List Int} (h:Bytes w v zs) :
  Calls Tryz.prog 127 #[v] w fun e w'=>e = .returned (.int .i64 (tot 0 zs))∧∃ n,w'=w.drewN n:=by
 rcases h with ⟨rfl,a,cap,rfl,_⟩|⟨b,off,len,cap,rfl,h2,h3,h4,h5,h6⟩
 ·exact total_none a cap w
 ·exact total_any b off len cap zs w h2 h3 h5 h6
theorem sum_bytes {w:World} {v:Value} {zs:List Int} (h:Bytes w v zs) :
  Calls Tryz.prog 121 #[v] w fun e w'=>e = .returned (.int .i64 (65535 - tot 0 zs))∧∃ n,w'=w.drewN n:=by
 have ht:=h.tot
 go_enter Tryz.func121,Tryz.ntmps121
 go_wp2_with (go_at_call 127;refine (total_bytes h).mono ?_;rintro e w' ⟨rfl,n,rfl⟩)
 go_ret
 exact ⟨rfl,_,rfl⟩
end Go.Proofs.YtkhheooofcpfdaaGreatDoor
namespace Go.Proofs.YtkhheooofcpfdaaGreatDoor
open Go.RowKit
set_option linter.unusedVariables false
def OwnB (w:World) (base:Nat) (v:Value) (zs:List Int):Prop :=
 w.ownsRow base 5 1 v zs.length (zs.map (Value.int .u8))∧∀ x ∈ zs,0≤x∧x≤255
theorem Tryz.infoU8:(Tryz.prog.info? 5).map (fun i=>(i.zero,i.size,i.bytes))=some (some (.int .u8 0),1,1):=by kernel_rfl
theorem OwnB.nil (w:World) (base:Nat):OwnB w base (.slice none 0 0) []:=⟨World.ownsRow_nil _ _ _ _,fun x hx=>by cases hx⟩
theorem OwnB.alloc {w:World} {base:Nat} {v:Value} {zs:List Int} (h:OwnB w base v zs) (o:Obj):OwnB (w.alloc o) base v zs:=⟨h.1.alloc o,h.2⟩
theorem ownsRow_drewN {w:World} {base:Nat} {e:TypeId} {size:Nat} {v:Value} {n:Nat} {xs:List Value} (h:w.ownsRow base e size v n xs) (k:Nat):(w.drewN k).ownsRow base e size v n xs:=by
 obtain ⟨h1,h2⟩:=h
 exact ⟨h1,h2⟩
theorem OwnB.drewN {w:World} {base:Nat} {v:Value} {zs:List Int} (h:OwnB w base v zs) (n:Nat):OwnB (w.drewN n) base v zs:=⟨ownsRow_drewN h.1 n,h.2⟩
theorem OwnB.shape {w:World} {base:Nat} {v:Value} {zs:List Int} (h:OwnB w base v zs) (hz:0 < zs.length) :
  ∃ g cap,v = .slice (some ⟨g,0,none⟩) zs.length cap∧base≤g∧g < w.heap.size∧zs.length≤cap∧cap≤maxLen:=by
 obtain ⟨⟨_,h2⟩,_⟩:=h
 rcases h2 with ⟨_,h0⟩|⟨g,cap,cur,rfl,hb,hh,hl,hm,_,_⟩
 ·omega
 ·refine ⟨g,cap,rfl,hb,?_,hl,hm⟩
  rcases Nat.lt_or_ge g w.heap.size with h1|h1
  ·exact h1
  ·simp [Array.getElem?_eq_none h1] at hh
theorem OwnB.bytes {w:World} {base:Nat} {v:Value} {zs:List Int} (h:OwnB w base v zs) (hs:zs.length < 2 ^ 62):Bytes w v zs:=by
 rcases Nat.eq_zero_or_pos zs.length with h0|h0
 ·have hz:zs=[]:=List.length_eq_zero_iff.1 h0
  subst hz
  obtain ⟨⟨_,h2⟩,_⟩:=h
  rcases h2 with ⟨rfl,_⟩|⟨g,cap,cur,rfl,_⟩
  ·exact .inl ⟨rfl,_,_,rfl,fun _=>rfl⟩
  ·exact .inl ⟨rfl,_,_,rfl,fun h=>by cases h⟩
 ·obtain ⟨g,cap,rfl,hb,hg,hl,hm⟩:=h.shape h0
  refine .inr ⟨g,0,zs.length,cap,rfl,hl,hm,hs,rfl,fun i hi=>?_,h.2⟩
  have e:=h.1.cellAt i (by omega)
  rw [Nat.zero_add,e]
  simp [List.getD,hi]
theorem OwnB.cell {w:World} {base g cap n:Nat} {zs:List Int} (h:OwnB w base (.slice (some ⟨g,0,none⟩) n cap) zs) (hn:n=zs.length) (j:Nat) (hj:j < zs.length) :
  w.cell? ⟨g,j,none⟩=some (.int .u8 (zs.getD j 0)):=by
 subst hn
 rw [h.1.cellAt j (by omega)]
 simp [List.getD,hj]
theorem OwnB.free {w:World} {base g cap n:Nat} {zs:List Int} (h:OwnB w base (.slice (some ⟨g,0,none⟩) n cap) zs) (hn:n=zs.length) (j:Nat) :
  w.frozen? ⟨g,j,none⟩=false:=by
 subst hn;exact h.1.frozenAt j
theorem OwnB.store {w:World} {base g cap n:Nat} {zs:List Int} (h:OwnB w base (.slice (some ⟨g,0,none⟩) n cap) zs) (hn:n=zs.length) (j:Nat) (u:Int) (h0:0≤u) (h1:u≤255) :
  OwnB (w.setCell ⟨g,j,none⟩ (.int .u8 u)) base (.slice (some ⟨g,0,none⟩) n cap) (zs.set j u):=by
 subst hn
 have e:=(h.1.stored j (.int .u8 u)).1
 refine ⟨?_,?_⟩
 ·rw [List.map_set,List.length_set];exact e
 ·intro x hx
  rcases List.mem_or_eq_of_mem_set hx with h'|rfl
  ·exact h.2 x h'
  ·exact ⟨h0,h1⟩
theorem OwnB.other {w:World} {base g g' cap n off:Nat} {zs:List Int} (h:OwnB w base (.slice (some ⟨g,0,none⟩) n cap) zs) (hne:g≠g') (u:Value) :
  OwnB (w.setCell ⟨g',off,none⟩ u) base (.slice (some ⟨g,0,none⟩) n cap) zs :=
 ⟨ownsRow_setCell_other h.1 (by simp [Value.ownBlock];exact hne) u,h.2⟩
theorem Bytes.below {w w':World} {v:Value} {zs:List Int} {B:Nat} (h:Bytes w v zs) (hB:w.heap.size≤B) (hb:Below B w w'):Bytes w' v zs:=by
 rcases h with h|⟨b,off,len,cap,h1,h2,h3,h4,h5,h6⟩
 ·exact .inl h
 ·refine .inr ⟨b,off,len,cap,h1,h2,h3,h4,h5,fun i hi=>?_,h6.2⟩
  have hc:=h6.1 i hi
  have hlt:b < w.heap.size:=by
   rcases Nat.lt_or_ge b w.heap.size with h|h
   ·exact h
   ·simp [World.cell?,Array.getElem?_eq_none h] at hc
  rw [hb.cell (p:=⟨b,off+i,none⟩) (Nat.lt_of_lt_of_le hlt hB)]
  exact hc
theorem Bytes.alloc {w:World} {v:Value} {zs:List Int} (h:Bytes w v zs) (o:Obj):Bytes (w.alloc o) v zs:=h.below (Nat.le_refl _) ((Below.refl _ _).alloc (Nat.le_refl _) _)
theorem OwnB.kept {w w':World} {base:Nat} {v:Value} {zs:List Int} {row:Option Nat} (h:OwnB w base v zs) (hg:w.grownBy w' row) (hne:v.ownBlock≠row):OwnB w' base v zs :=
 ⟨h.1.kept hg (.inr hne),h.2⟩
theorem OwnB.lt {w:World} {base g n cap:Nat} {zs:List Int} (h:OwnB w base (.slice (some ⟨g,0,none⟩) n cap) zs):base≤g∧g < w.heap.size:=h.1.lt g rfl
def Same (w w':World):Prop:=∃ n,w'=w.drewN n
theorem OwnB.same {w w':World} {base:Nat} {v:Value} {zs:List Int} (h:OwnB w base v zs) (hs:Same w w'):OwnB w' base v zs:=by
 obtain ⟨n,rfl⟩:=hs;exact h.drewN n
theorem Bytes.same {w w':World} {v:Value} {zs:List Int} (h:Bytes w v zs) (hs:Same w w'):Bytes w' v zs:=by
 obtain ⟨n,rfl⟩:=hs;exact h.drewN n
theorem below_same {B:Nat} {w w' w'':World} (h:Below B w w') (hs:Same w' w''):Below B w w'':=by
 obtain ⟨n,rfl⟩:=hs;exact below_drewN h n
theorem sum_same {w:World} {v:Value} {zs:List Int} (h:Bytes w v zs) :
  Calls Tryz.prog 121 #[v] w fun e w'=>e = .returned (.int .i64 (65535 - tot 0 zs))∧Same w w':=sum_bytes h
theorem wpList_append_bytes {w:World} {ops:Array Oper} {rest:List Oper} {o:Oper} {a:Act} {Q:Exit→Act→World→Prop} (hgd:o.guard=none) (s x:Operand)
  (ho:o.op = .call { callee:=.builtin .append,args:=#[s,x],argTypes:=#[39,39] })
  (base:Nat) (v:Value) (zs:List Int) (hs:a.eval s=v) (hown:OwnB w base v zs) (vx:Value) (bs:List Int) (hx:a.eval x=vx) (hb:Bytes w vx bs)
  (hbytes:zs.length+bs.length≤140737488355328) (hbase:base≤w.heap.size)
  (h:∀ v' w',OwnB w' base v' (zs++bs)→w.grownBy w' v.ownBlock→wpList Tryz.prog ops Q rest (a.put o.dst v') w'):wpList Tryz.prog ops Q (o :: rest) a w:=by
 obtain ⟨i0,hi,hz0,hz1,hz2⟩:=info_parts Tryz.infoU8
 have hmax:zs.length+bs.length≤maxLen:=by unfold maxLen;omega
 have step:∀ (ad:Addr) (m c:Nat),a.eval x = .slice (some ad) m c→m=bs.length→(∀ j u,(bs.map (Value.int .u8))[j]? = some u→w.cell? (ad.add j)=some u)→(∀ y ∈ bs,0≤y∧y≤255)→wpList Tryz.prog ops Q (o :: rest) a w:=by
  intro ad m c hx' hm hc hby
  subst hm
  refine wpList_append_own _ hgd s x 39 ho base 5 i0 (.int .u8 0) 1 1 Tryz.underlying39 hi hz0 hz1 hz2 rfl (by decide) v zs.length (zs.map (Value.int .u8)) hs hown.1 ad bs.length c (bs.map (Value.int .u8)) hx' (by simp) hc ?_ hmax (by omega) hbase ?_
  ·intro u hu
   obtain ⟨y,_,rfl⟩:=List.mem_map.1 hu
   rfl
  ·intro v' w' h1 h2 _
   refine h v' w' ⟨?_,?_⟩ h2
   ·rw [List.length_append,List.map_append];exact h1
   ·intro y hy
    rcases List.mem_append.1 hy with h'|h'
    ·exact hown.2 y h'
    ·exact hby y h'
 rcases hb with ⟨rfl,ad,cap,rfl,hn⟩|⟨b,off,len,cap,rfl,h2,h3,h4,h5,h6⟩
 ·rcases ad with _|ad
  ·obtain rfl:=hn rfl
   refine wpList_append_own_none hgd s x 39 ho base 5 i0 1 Tryz.underlying39 hi v zs.length (zs.map (Value.int .u8)) hs hown.1 hx ?_
   refine h v w (by simpa using hown) ⟨rfl,rfl,rfl,Nat.le_refl _,fun _ _ _=>rfl⟩
  ·exact step ad 0 cap hx rfl (fun j u hj=>by simp at hj) (fun y hy=>by cases hy)
 ·refine step ⟨b,off,none⟩ len cap hx h5.symm ?_ h6.2
  intro j u hj
  obtain ⟨y,hy,rfl⟩:=by simpa using hj
  have hj':j < bs.length:=by
   rcases Nat.lt_or_ge j bs.length with h|h
   ·exact h
   ·simp [List.getElem?_eq_none h] at hy
  have ea:Addr.add ⟨b,off,none⟩ j=⟨b,off+j,none⟩:=by by_cases hi0:j=0 <;> simp [Addr.add,hi0]
  rw [ea,h6.1 j hj']
  simp [List.getD,hy]
end Go.Proofs.YtkhheooofcpfdaaGreatDoor
namespace Go.Proofs.YtkhheooofcpfdaaGreatDoor
open Go.RowKit
set_option linter.unusedVariables false
structure Only (g:Nat) (w w':World):Prop where
 os:w'.os=w.os
 tape:w'.tape=w.tape
 output:w'.output=w.output
 size:w'.heap.size=w.heap.size
 block:∀ k,k≠g→w'.heap[k]? = w.heap[k]?
theorem Only.refl (g:Nat) (w:World):Only g w w:=⟨rfl,rfl,rfl,rfl,fun _ _=>rfl⟩
theorem Only.trans {g:Nat} {a b c:World} (h:Only g a b) (k:Only g b c):Only g a c :=
 ⟨k.os.trans h.os,k.tape.trans h.tape,k.output.trans h.output,k.size.trans h.size,fun i hi=>(k.block i hi).trans (h.block i hi)⟩
theorem Only.setCell {g:Nat} {a w:World} (h:Only g a w) (o:Nat) (u:Value):Only g a (w.setCell ⟨g,o,none⟩ u) :=
 h.trans ⟨rfl,rfl,rfl,by simp [World.setCell],fun k hk=>heap_setCell_other w ⟨g,o,none⟩ k u hk⟩
theorem Only.drewN {g:Nat} {a w:World} (h:Only g a w) (n:Nat):Only g a (w.drewN n):=⟨h.os,h.tape,h.output,h.size,h.block⟩
theorem Only.below {g B:Nat} {w0 w w':World} (h:Only g w w') (hB:B≤g) (hb:Below B w0 w):Below B w0 w' :=
 hb.trans ⟨h.os,h.tape,h.output,Nat.le_of_eq h.size.symm,fun k hk=>h.block k (by omega)⟩
theorem Only.cell {g:Nat} {w w':World} (h:Only g w w') {p:Addr} (hp:p.block≠g):w'.cell? p=w.cell? p:=World.cell?_of_block (w:=w) (h.block p.block hp)
theorem Only.frozen {g:Nat} {w w':World} (h:Only g w w') {p:Addr} (hp:p.block≠g):w'.frozen? p=w.frozen? p:=World.frozen?_of_block (w:=w) (h.block p.block hp)
structure Turn (F:Nat→Prop) (w w':World):Prop where
 os:w'.os=w.os
 tape:w'.tape=w.tape
 output:w'.output=w.output
 size:w.heap.size≤w'.heap.size
 block:∀ k,k < w.heap.size→¬ F k→w'.heap[k]? = w.heap[k]?
section
variable {F G:Nat→Prop} {w w' w'':World}
theorem Turn.refl (F:Nat→Prop) (w:World):Turn F w w:=⟨rfl,rfl,rfl,Nat.le_refl _,fun _ _ _=>rfl⟩
theorem Turn.andThen (h:Turn F w w') (k:Turn G w' w'') (hG:∀ i,G i→F i∨w.heap.size≤i):Turn F w w'' :=
 ⟨k.os.trans h.os,k.tape.trans h.tape,k.output.trans h.output,Nat.le_trans h.size k.size,fun i hi hf =>
  (k.block i (Nat.lt_of_lt_of_le hi h.size) (fun hg=>Or.elim (hG i hg) hf (fun h1=>by omega))).trans (h.block i hi hf)⟩
theorem Turn.trans (h:Turn F w w') (k:Turn F w' w''):Turn F w w'':=h.andThen k (fun _ hi=>.inl hi)
theorem Turn.mono (h:Turn F w w') (hFG:∀ i,i < w.heap.size→F i→G i):Turn G w w':=⟨h.os,h.tape,h.output,h.size,fun k hk hg=>h.block k hk (fun hf=>hg (hFG k hk hf))⟩
theorem Turn.of_below (h:Below w.heap.size w w') (F:Nat→Prop):Turn F w w':=⟨h.os,h.tape,h.output,h.size,fun k hk _=>h.block k hk⟩
theorem Turn.alloc (h:Turn F w w') (o:Obj):Turn F w (w'.alloc o):=h.trans (Turn.of_below ((Below.refl _ _).alloc (Nat.le_refl _) _) F)
theorem Turn.drewN (h:Turn F w w') (n:Nat):Turn F w (w'.drewN n):=⟨h.os,h.tape,h.output,h.size,h.block⟩
theorem Turn.below {B:Nat} {w0:World} (hb:Below B w0 w) (hB:B≤w.heap.size) (h:Turn F w w') (hF:∀ k,F k→B≤k):Below B w0 w' :=
 hb.trans ⟨h.os,h.tape,h.output,h.size,fun k hk=>by
  rcases Nat.lt_or_ge k w.heap.size with h1|h1
  ·exact h.block k h1 (fun hf=>by have:=hF k hf;omega)
  ·omega⟩
end
end Go.Proofs.YtkhheooofcpfdaaGreatDoor
namespace Go.Proofs.YtkhheooofcpfdaaGreatDoor
open Go.RowKit
set_option linter.unusedVariables false
def RowB (w:World) (g:Nat) (zs:List Int):Prop :=
 w.heap[g]? = some (.cells (zs.map (Value.int .u8)).toArray 5 (0,0))∧∀ x ∈ zs,0≤x∧x≤255
theorem RowB.lt {w:World} {g:Nat} {zs:List Int} (h:RowB w g zs):g < w.heap.size:=by
 rcases Nat.lt_or_ge g w.heap.size with h1|h1
 ·exact h1
 ·have:=h.1;simp [Array.getElem?_eq_none h1] at this
theorem RowB.cell {w:World} {g:Nat} {zs:List Int} (h:RowB w g zs) (j:Nat) (hj:j < zs.length):w.cell? ⟨g,j,none⟩=some (.int .u8 (zs.getD j 0)):=by
 rw [cell_of_row w g j _ _ _ h.1];simp [List.getD,hj]
theorem RowB.free {w:World} {g:Nat} {zs:List Int} (h:RowB w g zs) (j:Nat):w.frozen? ⟨g,j,none⟩=false:=frozen_of_row w g j _ _ h.1
theorem RowB.store {w:World} {g:Nat} {zs:List Int} (h:RowB w g zs) (j:Nat) (u:Int) (h0:0≤u) (h1:u≤255):RowB (w.setCell ⟨g,j,none⟩ (.int .u8 u)) g (zs.set j u):=by
 refine ⟨?_,byte_set h.2 h0 h1⟩
 rw [heap_setCell_same w g j _ _ _ h.1]
 simp
theorem RowB.drewN {w:World} {g:Nat} {zs:List Int} (h:RowB w g zs) (n:Nat):RowB (w.drewN n) g zs:=h
theorem RowB.same {w w':World} {g:Nat} {zs:List Int} (h:RowB w g zs) (hs:Same w w'):RowB w' g zs:=by
 obtain ⟨n,rfl⟩:=hs;exact h
theorem RowB.below {w w':World} {g B:Nat} {zs:List Int} (h:RowB w g zs) (hB:g < B) (hb:Below B w w'):RowB w' g zs:=⟨by rw [hb.block g hB];exact h.1,h.2⟩
theorem RowB.only {w w':World} {g k:Nat} {zs:List Int} (h:RowB w g zs) (hk:g≠k) (ho:Only k w w'):RowB w' g zs:=⟨by rw [ho.block g hk];exact h.1,h.2⟩
theorem RowB.alloc {w:World} {g:Nat} {zs:List Int} (h:RowB w g zs) (o:Obj):RowB (w.alloc o) g zs:=h.below h.lt ((Below.refl _ _).alloc (Nat.le_refl _) _)
theorem RowB.new (w:World) (zs:List Int) (h:∀ x ∈ zs,0≤x∧x≤255):RowB (w.alloc (.cells (zs.map (Value.int .u8)).toArray 5)) w.heap.size zs:=⟨heap_alloc_new w _,h⟩
theorem RowB.own {w:World} {g:Nat} {zs:List Int} {B:Nat} (h:RowB w g zs) (hB:B≤g) (hm:zs.length≤maxLen):OwnB w B (.slice (some ⟨g,0,none⟩) zs.length zs.length) zs :=
 ⟨⟨by simp,.inr ⟨g,zs.length,(zs.map (Value.int .u8)).toArray,rfl,hB,h.1,Nat.le_refl _,hm,by simp,List.take_of_length_le (by simp)⟩⟩,h.2⟩
theorem getD_drop_take (zs:List Int) (o n i:Nat) (hi:i < n):((zs.drop o).take n).getD i 0=zs.getD (o+i) 0:=by
 simp [List.getD,hi,List.getElem?_drop]
theorem RowB.row {w:World} {g:Nat} {zs:List Int} (h:RowB w g zs) (o n:Nat) (hn:o+n≤zs.length):Row w g o ((zs.drop o).take n):=by
 refine ⟨fun i hi=>?_,fun x hx=>h.2 x (List.mem_of_mem_drop (List.mem_of_mem_take hx))⟩
 have hi':i < n:=by simp at hi;omega
 rw [h.cell (o+i) (by omega),getD_drop_take zs o n i hi']
theorem RowB.bytes {w:World} {g:Nat} {zs:List Int} (h:RowB w g zs) (o n cap:Nat) (hn:o+n≤zs.length) (hc:n≤cap) (hm:cap≤maxLen) (h62:n < 2 ^ 62):Bytes w (.slice (some ⟨g,o,none⟩) n cap) ((zs.drop o).take n) :=
 .inr ⟨g,o,n,cap,rfl,hc,hm,h62,by simp;omega,h.row o n hn⟩
theorem Row.part {w:World} {b off:Nat} {zs:List Int} (h:Row w b off zs) (o n:Nat) (hn:o+n≤zs.length):Row w b (off+o) ((zs.drop o).take n):=by
 refine ⟨fun i hi=>?_,fun x hx=>h.2 x (List.mem_of_mem_drop (List.mem_of_mem_take hx))⟩
 have hi':i < n:=by simp at hi;omega
 rw [Nat.add_assoc,h.1 (o+i) (by omega),getD_drop_take zs o n i hi']
theorem Row.below {w w':World} {b off B:Nat} {zs:List Int} (h:Row w b off zs) (hB:b < B) (hb:Below B w w'):Row w' b off zs :=
 ⟨fun i hi=>by rw [hb.cell (p:=⟨b,off+i,none⟩) hB];exact h.1 i hi,h.2⟩
theorem Row.same {w w':World} {b off:Nat} {zs:List Int} (h:Row w b off zs) (hs:Same w w'):Row w' b off zs:=by
 obtain ⟨n,rfl⟩:=hs;exact h.drewN n
theorem Row.lt {w:World} {b off:Nat} {zs:List Int} (h:Row w b off zs) (hz:0 < zs.length):b < w.heap.size:=by
 have hc:=h.1 0 hz
 rcases Nat.lt_or_ge b w.heap.size with h1|h1
 ·exact h1
 ·simp [World.cell?,Array.getElem?_eq_none h1] at hc
end Go.Proofs.YtkhheooofcpfdaaGreatDoor
namespace Go.Proofs.YtkhheooofcpfdaaGreatDoor
open Go.RowKit
set_option linter.unusedVariables false
end Go.Proofs.YtkhheooofcpfdaaGreatDoor
namespace Go.Proofs.YtkhheooofcpfdaaGreatDoor
open Go.RowKit
set_option linter.unusedVariables false
theorem len_body {w:World} {v:Value} {zs:List Int} (h:Bytes w v zs):∃ a c,v = .slice a zs.length c:=by
 rcases h with ⟨rfl,a',c',h,_⟩|⟨b,off,len,cap,h,_,_,_,h5,_⟩
 ·exact ⟨_,_,h⟩
 ·exact ⟨_,_,by rw [h5];exact h⟩
def errV (e:Int):Value:=if e=0 then .nilIface else .iface 71 (.int .i64 e)
end Go.Proofs.YtkhheooofcpfdaaGreatDoor
