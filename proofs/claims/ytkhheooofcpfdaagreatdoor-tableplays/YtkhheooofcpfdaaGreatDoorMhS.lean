/- What slices.SortFunc leaves of a slice of keys, where compare of package table tells which is ahead: the same keys, rising. -/
import Derived.Test.YtkhheooofcpfdaaGreatDoorSortK
import Derived.Test.YtkhheooofcpfdaaGreatDoorTblCmp
import Derived.Test.YtkhheooofcpfdaaGreatDoorMgQ
import Derived.Shelf.SlSortFuncK.ComposeK
import Derived.Test.YtkhheooofcpfdaaGreatDoorMgH
namespace Go.Proofs.YtkhheooofcpfdaaGreatDoor
open Go.RowKit
open Go.Sort hiding Below
set_option linter.unusedVariables false
instance:Inhabited Ky:=⟨zeroY⟩
theorem ltKy (x y:Ky):ltOf cmpK x y=true ↔ LtK x y:=by
 unfold ltOf
 rw [decide_eq_true_iff]
 exact cmpK_neg x y
theorem swoK:SWO (ltOf cmpK):={
 irrefl:=fun x=>by
  cases h:ltOf cmpK x x
  ·rfl
  ·exact absurd ((ltKy x x).1 h) (LtK_irr x)
 trans:=fun x y z h1 h2=>(ltKy x z).2 (LtK_trans ((ltKy x y).1 h1) ((ltKy y z).1 h2))
 ntrans:=fun x y z h1 h2=>by
  cases h:ltOf cmpK x z
  ·rfl
  ·have h3:=(ltKy x z).1 h
   have n1:¬ LtK x y:=fun h=>by rw [(ltKy x y).2 h] at h1;cases h1
   have n2:¬ LtK y z:=fun h=>by rw [(ltKy y z).2 h] at h2;cases h2
   exfalso
   unfold LtK at *
   omega }
theorem cmpLaysK (blk off size:Nat) (w:World):CmpLays Tryz.prog 43 #[] kyRow 5 cmpK blk off size w :=
 fun _ _ _ _ x y=>tcmp_any x y _
theorem kbelow_sorted {w:World} {B blk off m:Nat} {d:Array Ky} {os:Array Obj} (hB:B≤blk) (hw:B≤w.heap.size):Below B w (sortWorldK kyRow 5 w blk off m d os):=by
 refine ⟨rfl,rfl,rfl,?_,?_⟩
 ·simp [sortWorldK,putRowK,putRow,mapBlock,grow,Sort.ahead]
 ·intro j hj
  have h1:j < w.heap.size:=Nat.lt_of_lt_of_le hj hw
  have h2:blk≠j:=by omega
  have e:∀ f,(w.heap.modify blk f)[j]? = w.heap[j]?:=fun f=>by rw [Array.getElem?_modify,if_neg h2]
  show ((w.heap.modify blk _)++os)[j]? = w.heap[j]?
  rw [Array.getElem?_append_left (by simpa using h1)]
  exact e _
theorem kblock_sorted {w:World} {blk off m:Nat} {d:Array Ky} {os:Array Obj}:∀ k,k≠blk→k < w.heap.size→(sortWorldK kyRow 5 w blk off m d os).heap[k]? = w.heap[k]?:=by
 intro j hj h1
 have h2:blk≠j:=fun e=>hj e.symm
 have e:∀ f,(w.heap.modify blk f)[j]? = w.heap[j]?:=fun f=>by rw [Array.getElem?_modify,if_neg h2]
 show ((w.heap.modify blk _)++os)[j]? = w.heap[j]?
 rw [Array.getElem?_append_left (by simpa using h1)]
 exact e _
theorem kyRow_len (k:Ky):(kyRow k).length=5:=rfl
theorem kyCells_get (ks:List Ky) (t:Nat) (h:t < ks.length * 5):(ks.flatMap kyRow)[t]? = some ((kyRow (ks.getD (t / 5) zeroY))[t % 5]!):=by
 have hi:t / 5 < ks.length:=by omega
 have e:=encs_get (n:=5) kyRow_len ks (t / 5) hi (t % 5) (by omega)
 rw [show t / 5 * 5+t % 5=t by omega] at e
 rw [e]
 have hg:ks.getD (t / 5) zeroY=ks[t / 5]:=by simp [List.getD,hi]
 rw [hg]
 have hm:t % 5 < (kyRow ks[t / 5]).length:=by rw [kyRow_len];omega
 rw [List.getElem?_eq_getElem hm,getElem!_pos (kyRow ks[t / 5]) (t % 5) hm]
theorem kgetBang (ks:List Ky) (i:Nat) (h:i < ks.length):ks.toArray[i]! = ks.getD i zeroY:=by
 rw [getElem!_pos _ i (by simpa using h)]
 simp [List.getD,h]
theorem karrBang (d:Array Ky) (i:Nat) (h:i < d.size):d[i]! = d.toList.getD i zeroY:=by
 rw [getElem!_pos _ i h]
 simp [List.getD,h]
def Kys (w:World) (v:Value) (ks:List Ky):Prop :=
 (ks=[]∧∃ a c,v = .slice a 0 c) ∨
 ∃ b len cap,v = .slice (some ⟨b,0,none⟩) len cap∧len≤cap∧cap≤maxLen∧ks.length=len∧b < w.heap.size∧∀ i (h:i < ks.length),w.cell? ⟨b,i * 5+0,none⟩=some (.int .i64 ks[i].kind)∧w.cell? ⟨b,i * 5+1,none⟩=some (.int .i64 ks[i].src)∧w.cell? ⟨b,i * 5+2,none⟩=some (.int .i64 ks[i].frm)∧w.cell? ⟨b,i * 5+3,none⟩=some (.int .i64 ks[i].dst)∧w.cell? ⟨b,i * 5+4,none⟩=some (.int .i64 ks[i].too)
set_option maxHeartbeats 2000000 in
set_option maxRecDepth 100000 in
theorem ksort_keeps (w:World) (base:Nat) (v:Value) (ks:List Ky) (hown:OwnKy w base v ks) (hl:ks.length≤1000) (hb:base≤w.heap.size) :
  Calls Tryz.prog 42 #[v,.func (.func 43) #[] #[]] w fun e w'=>e = .returned (.tuple #[])∧∃ qs,qs.Perm ks∧qs.Pairwise (fun p q=>¬ LtK q p)∧Kys w' v qs∧Below base w w'∧∀ k,v.ownBlock≠some k→k < w.heap.size→w'.heap[k]? = w.heap[k]?:=by
 have hh:=hown
 obtain ⟨h1,h2⟩:=hown
 rcases h2 with ⟨rfl,h0⟩|⟨g,cap,cur,rfl,hbg,hg,hnc,hcm,hcs,htake⟩
 ·have hk:ks=[]:=List.eq_nil_of_length_eq_zero h0
  subst hk
  refine (AnyF.slices_SortFunc_none Tryz.sortK none 0 _ w).mono fun e w' ⟨he,hw⟩=>?_
  exact ⟨he,[],.refl _,.nil,.inl ⟨rfl,_,_,rfl⟩,by rw [hw];exact Below.refl _ _,fun k _ _=>by rw [hw]⟩
 have hglt:g < w.heap.size:=blk_lt hg
 have hH:HoldsK kyRow 5 w g 0 ks.toArray:=by
  intro j hj
  have hj':j < ks.length * 5:=by simpa using hj
  have c:=World.ownsRow.cellAt hh j hj'
  have f:=World.ownsRow.frozenAt hh j
  rw [Nat.zero_add]
  refine ⟨?_,f⟩
  rw [c,kyCells_get ks j hj',get_flatK kyRow 5 ks.toArray j (by simpa using hj'),kgetBang ks (j / 5) (by omega)]
  rfl
 have eg:∀ args w,(callFunc 43 args).run Tryz.prog w = .ok (.enter 43 args) w:=enters_of Tryz.func43 (by kernel_rfl) rfl
 have hcon:=AnyQ.slices_SortFunc Tryz.sortK 5 Tryz.isAgg37 Tryz.sizeOf37 kyRow (fun _=>rfl) (fun x v hv=>by simp [kyRow] at hv;rcases hv with rfl|rfl|rfl|rfl|rfl <;> rfl) cmpK swoK 43 #[] g 0 cap ks.toArray w eg (cmpLaysK g 0 ks.toArray.size w) hH hglt (by simp;omega)
 refine hcon.mono ?_
 rintro e w' ⟨rfl,d',n,os,hp,hs,rfl⟩
 obtain ⟨hsz,_,hperm⟩:=hp
 have hsz':d'.size=ks.length:=by simpa using hsz
 have e1:d'.extract 0 ks.toArray.size=d':=by rw [← hsz];simp
 have e2:ks.toArray.extract 0 ks.toArray.size=ks.toArray:=by simp
 rw [e1,e2] at hperm
 have hperm':d'.toList.Perm ks:=by simpa using hperm
 have hK:=holdsK_sortWorldK kyRow 5 w g 0 n ks.toArray d' os hglt hH hsz
 refine ⟨rfl,d'.toList,hperm',?_,?_,kbelow_sorted hbg hb,fun k hk hlt=>kblock_sorted k (fun e=>hk (by rw [e];rfl)) hlt⟩
 ·rw [List.pairwise_iff_getElem]
  intro i j hi hj hij
  have hi':i < d'.size:=by simpa using hi
  have hj':j < d'.size:=by simpa using hj
  have:=hs i j (Nat.zero_le _) hij (by rw [← hsz];exact hj')
  rw [getElem!_pos d' j hj',getElem!_pos d' i hi'] at this
  intro hlt
  have h3:=(ltKy d'[j] d'[i]).2 hlt
  rw [h3] at this
  cases this
 ·refine .inr ⟨g,ks.length,cap,rfl,hnc,hcm,by simpa using hsz',?_,fun i hi=>?_⟩
  ·exact Nat.lt_of_lt_of_le hglt (kbelow_sorted (Nat.le_refl _) (Nat.le_of_lt hglt)).size
  ·have hi':i < d'.size:=by simpa using hi
   have kk:∀ j,j < 5→(sortWorldK kyRow 5 w g 0 n d' os).cell? ⟨g,i * 5+j,none⟩=some ((kyRow (d'.toList[i]'hi))[j]!):=by
    intro j hj
    have k0:=(hK (i * 5+j) (by simp;omega)).1
    rw [get_flatK kyRow 5 d' _ (by omega)] at k0
    have a0:(i * 5+j) / 5=i:=by omega
    have b0:(i * 5+j) % 5=j:=by omega
    rw [a0,b0,karrBang d' i hi',Nat.zero_add] at k0
    rw [k0]
    congr 2
    simp [List.getD,hi']
   exact ⟨kk 0 (by omega),kk 1 (by omega),kk 2 (by omega),kk 3 (by omega),kk 4 (by omega)⟩
end Go.Proofs.YtkhheooofcpfdaaGreatDoor
namespace Go.Proofs.YtkhheooofcpfdaaGreatDoor
open Go.RowKit Go.Maps
set_option linter.unusedVariables false
theorem Kys.below {w w':World} {v:Value} {ks:List Ky} (h:Kys w v ks) (hb:Below w.heap.size w w'):Kys w' v ks:=by
 rcases h with h|⟨b,len,cap,h1,h2,h3,h4,h5,h6⟩
 ·exact .inl h
 ·refine .inr ⟨b,len,cap,h1,h2,h3,h4,Nat.lt_of_lt_of_le h5 hb.size,fun i hi=>?_⟩
  obtain ⟨a0,a1,a2,a3,a4⟩:=h6 i hi
  exact ⟨(hb.cell (p:=⟨b,i * 5+0,none⟩) h5).trans a0,(hb.cell (p:=⟨b,i * 5+1,none⟩) h5).trans a1,(hb.cell (p:=⟨b,i * 5+2,none⟩) h5).trans a2,(hb.cell (p:=⟨b,i * 5+3,none⟩) h5).trans a3,(hb.cell (p:=⟨b,i * 5+4,none⟩) h5).trans a4⟩
set_option maxRecDepth 100000 in
set_option maxHeartbeats 8000000 in
theorem tick_bad (b m:Nat) (t:Tb) (now z:Int) (w:World) (h:TbAt w b m t) (hz:timE t now=z) (h0:¬ z=0) :
  Calls Tryz.prog 17 #[.pointer (some ⟨b,0,none⟩),.int .i64 now] w fun e w'=>e = .returned (.tuple #[.slice none 0 0,.iface 71 (.int .i64 z)])∧Below w.heap.size w w':=by
 have hc:=at_bad b m t now z w h hz h0
 clear hz h0 h
 go_enter Tryz.func17,Tryz.ntmps17
 go_upto_region 3 with (go_at_call 30;go_must (refine hc.mono ?_;rintro e W2 ⟨rfl,b2⟩))
 have HB:=hidE (b2.alloc b2.size (.cells #[.int .i64 0,.int .i64 0,.map none] 76))
 clear b2 hc
 go_wp2_with fail
 go_ret2
 exact ⟨rfl,HB.out⟩
set_option maxRecDepth 100000 in
set_option maxHeartbeats 16000000 in
theorem tick_ok (b m:Nat) (t:Tb) (now:Int) (w:World) (h:TbAt w b m t) (hz:timE t now=0) (hap:t.fs.Pairwise fun f g=>firstK f.key≠firstK g.key) (hlen:t.fs.length≤1000) :
  Calls Tryz.prog 17 #[.pointer (some ⟨b,0,none⟩),.int .i64 now] w fun e w'=>∃ (v:Value) (ks:List Ky),e = .returned (.tuple #[v,.nilIface])∧Kys w' v ks∧ks.Perm ((t.fs.filter fun f=>goneB now f).map Fl.key)∧ks.Pairwise (fun p q=>¬ LtK q p)∧(∃ m',w.heap.size≤m'∧TbAt w' b m' { max:=t.max,now:=now,fs:=leftL now t.fs })∧w.grownBy w' (some b):=by
 have hc:=at_ok b m t now w h hz hap hlen
 obtain ⟨Q,hQ⟩:∃ Q:Ending→World→Prop,Q=fun e w'=>∃ (v:Value) (ks:List Ky),e = .returned (.tuple #[v,.nilIface])∧Kys w' v ks∧ks.Perm ((t.fs.filter fun f=>goneB now f).map Fl.key)∧ks.Pairwise (fun p q=>¬ LtK q p)∧(∃ m',w.heap.size≤m'∧TbAt w' b m' { max:=t.max,now:=now,fs:=leftL now t.fs })∧w.grownBy w' (some b):=⟨_,rfl⟩
 have HQ:=hidE hQ
 have HH:=hidE h
 have HLE:=hidE hlen
 rw [← hQ]
 clear hz hap hQ h hlen
 go_enter Tryz.func17,Tryz.ntmps17
 go_upto_region 4 with (go_at_call 30;go_must (refine hc.mono ?_;rintro e W2 ⟨m',v,ks,rfl,hm2,hlm,hown2,hpm2,b2⟩))
 have h2:=HH.out.below b2
 have x3:=heap_alloc_new W2 (.cells #[.int .i64 t.max,.int .i64 now,.map (some m')] 76)
 have h3:=h2.alloc (.cells #[.int .i64 t.max,.int .i64 now,.map (some m')] 76)
 have m3:=hm2.block (Below.heap_alloc W2 (.cells #[.int .i64 t.max,.int .i64 now,.map (some m')] 76) _ hm2.lt)
 have o3:=OwnN.alloc hown2 (.cells #[.int .i64 t.max,.int .i64 now,.map (some m')] 76)
 have b3:=b2.alloc b2.size (.cells #[.int .i64 t.max,.int .i64 now,.map (some m')] 76)
 obtain ⟨W3,hW3⟩:∃ W3,W2.alloc (.cells #[.int .i64 t.max,.int .i64 now,.map (some m')] 76)=W3:=⟨_,rfl⟩
 obtain ⟨X,hX⟩:∃ X,W2.heap.size=X:=⟨_,rfl⟩
 rw [hW3] at x3 h3 m3 o3 b3 ⊢
 rw [hX] at x3 ⊢
 have hbl:b < w.heap.size:=HH.out.lt
 have hks:ks.length≤1000:=by
  rw [hpm2.length_eq,List.length_map]
  exact Nat.le_trans (List.length_filter_le _ _) HLE.out
 clear hW3 hX hc hm2 hown2 b2 h2
 obtain ⟨c0,c1,c2⟩:=tab_cells x3
 obtain ⟨d0,d1,d2⟩:=tab_cells h3.tab
 obtain ⟨y0,y1,y2⟩:=tab_frees h3.tab
 go_upto_region 5 with fail
 obtain ⟨W4,hW4,o4,on4⟩:=tab_set h3.tab (.int .i64 t.max) (.int .i64 now) (.map (some m'))
 rw [hW4]
 have m4:=m3.block (on4.block m' (by omega))
 have own4:OwnKy W4 w.heap.size v ks:=OwnN.blk o3 (fun k hk=>on4.block k (by have:=OwnN.block o3 k hk;omega))
 have g4:w.grownBy W4 (some b):=⟨on4.os.trans b3.os,on4.tape.trans b3.tape,on4.output.trans b3.output,by rw [on4.size];exact b3.size,fun i hi hne=>(on4.block i (fun e=>hne (by rw [e]))).trans (b3.block i hi)⟩
 have hok:∀ f ∈ leftL now t.fs,KyOk f.key:=fun f hf=>HH.out.oks f (List.mem_filter.1 hf).1
 have hsz:w.heap.size≤W4.heap.size:=g4.size
 have hmv:∀ k,v.ownBlock=some k→k≠m':=fun k hk e=>by
  obtain ⟨_,h2⟩:=own4
  rcases h2 with ⟨rfl,_⟩|⟨g,cap,cur,rfl,_,hg,_⟩
  ·cases hk
  ·have:g=k:=by simpa [Value.ownBlock] using hk
   subst this
   subst e
   exact m4.not_cells hg
 have hs:=ksort_keeps W4 w.heap.size v ks own4 hks hsz
 have HFIN:Hid (∀ W5 qs,qs.Perm ks→qs.Pairwise (fun p q=>¬ LtK q p)→Kys W5 v qs→Below w.heap.size W4 W5→(∀ k,v.ownBlock≠some k→k < W4.heap.size→W5.heap[k]? = W4.heap[k]?)→Q (.returned (.tuple #[v,.nilIface])) W5):=fun W5 qs hp hq hk hb hbl2=>by
  show Q _ _
  rw [HQ.out]
  refine ⟨v,qs,rfl,hk,hp.trans hpm2,hq,⟨m',hlm,(hbl2 b (fun e=>by have:=OwnN.block own4 b e;omega) (by omega)).trans o4,m4.block (hbl2 m' (fun e=>hmv m' e rfl) m4.lt),hok⟩,⟨hb.os.trans g4.os,hb.tape.trans g4.tape,hb.output.trans g4.output,Nat.le_trans g4.size hb.size,fun i hi hne=>(hb.block i hi).trans (g4.block i hi hne)⟩⟩
 clear hW4 x3 h3 m3 o3 b3 o4 on4 m4 own4 g4 hok hsz hmv c0 c1 c2 d0 d1 d2 y0 y1 y2 hpm2 hlm hks
 go_upto_region 6 with (go_at_call 42;go_must (refine hs.mono ?_;rintro e W5 ⟨rfl,qs,hp,hq,hk,hb,hbl2⟩))
 have HF:=hidE (HFIN.out W5 qs hp hq hk hb hbl2)
 clear hs hp hq hk hb hbl2 HFIN
 go_wp2_with fail
 exact HF.out
end Go.Proofs.YtkhheooofcpfdaaGreatDoor
