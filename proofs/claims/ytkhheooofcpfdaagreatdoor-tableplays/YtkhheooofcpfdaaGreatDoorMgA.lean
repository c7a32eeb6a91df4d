/- Plain facts on sums of 16 bits and on lists of bytes: what is proved here speaks of no Go text and asks no condition of a program. -/
import Derived.WalkKit
import Derived.Laws.BitsLemmas
import Derived.Test.YtkhheooofcpfdaaGreatDoorProg
import Derived.Laws.Rows
import Derived.Below
import Derived.WalkSmall
namespace Go.Proofs.YtkhheooofcpfdaaGreatDoor
def addS (a b:Int):Int:=if 65535 < a+b then a+b - 65535 else a+b
def tot:Int→List Int→Int
 | t,[]=>t
 | t,[a]=>addS t (a * 256)
 | t,a :: b :: r=>tot (addS t (a * 256+b)) r
theorem addS_range {a b:Int} (ha:0≤a) (ha':a≤65535) (hb:0≤b) (hb':b≤65535):0≤addS a b∧addS a b≤65535:=by
 unfold addS;split <;> omega
theorem tot_range:∀ (l:List Int) (t:Int),(∀ x ∈ l,0≤x∧x≤255)→0≤t→t≤65535→0≤tot t l∧tot t l≤65535
 | [],t,_,h0,h1=>by simp [tot];omega
 | [a],t,h,h0,h1=>by
   have:=h a (by simp)
   exact addS_range h0 h1 (by omega) (by omega)
 | a :: b :: r,t,h,h0,h1=>by
   have ha:=h a (by simp)
   have hb:=h b (by simp)
   have hs:=addS_range h0 h1 (b:=a * 256+b) (by omega) (by omega)
   exact tot_range r _ (fun x hx=>h x (by simp [hx])) hs.1 hs.2
theorem tot_drop2 (l:List Int) (k:Nat) (t:Int) (h:k+1 < l.length) :
  tot t (l.drop k)=tot (addS t (l.getD k 0 * 256+l.getD (k+1) 0)) (l.drop (k+2)):=by
 rw [List.drop_eq_getElem_cons (by omega:k < l.length),List.drop_eq_getElem_cons (by omega:k+1 < l.length)]
 simp [tot,List.getD,List.getElem?_eq_getElem (by omega:k < l.length),List.getElem?_eq_getElem (by omega:k+1 < l.length)]
theorem tot_drop1 (l:List Int) (k:Nat) (t:Int) (h:k+1=l.length) :
  tot t (l.drop k)=addS t (l.getD k 0 * 256):=by
 rw [List.drop_eq_getElem_cons (by omega:k < l.length),List.drop_eq_nil_of_le (by omega:l.length≤k+1)]
 simp [tot,List.getD,List.getElem?_eq_getElem (by omega:k < l.length)]
theorem tot_drop0 (l:List Int) (k:Nat) (t:Int) (h:l.length≤k):tot t (l.drop k)=t:=by
 rw [List.drop_eq_nil_of_le h,tot]
theorem getD_byte {l:List Int} {k:Nat} (h:k < l.length) (hb:∀ x ∈ l,0≤x∧x≤255):0≤l.getD k 0∧l.getD k 0≤255:=by
 have e:l.getD k 0=l[k]:=by simp [List.getD,h]
 rw [e];exact hb _ (List.getElem_mem _)
theorem wraps_i64 (n:Int) (h₀:0≤n) (h₁:n < 2 ^ 16):IntKind.i64.wrap n=n:=by rw [IntKind.wrap_i64];omega
theorem or8 (x y:Int) (h0:0≤x) (h1:x≤255) (h2:0≤y) (h3:y≤255):bits .or .i64 (x * 256) y=x * 256+y :=
 bits_join .i64 16 (by decide) wraps_i64 8 _ _ (by omega) (by omega) (by omega) (by omega) (by omega) (by omega)
theorem ret_int {k:IntKind} {a b:Int} (h:a=b):Ending.returned (.int k a) = .returned (.int k b):=by rw [h]
theorem slice_if {p:Prop} [Decidable p] {b o1 o2 o' l l' c c':Nat} (h1:o'=if p then o1 else o2) (h2:l=l') (h3:c=c') :
  Value.slice (if p then some ⟨b,o1,none⟩ else some ⟨b,o2,none⟩) l c = .slice (some ⟨b,o',none⟩) l' c':=by
 subst h1 h2 h3;split <;> rfl
end Go.Proofs.YtkhheooofcpfdaaGreatDoor
namespace Go.Proofs.YtkhheooofcpfdaaGreatDoor
set_option linter.unusedVariables false
def place (j:Nat):Int:=if j % 2=0 then 256 else 1
theorem byte_set {l:List Int} {j:Nat} {v:Int} (h:∀ x ∈ l,0≤x∧x≤255) (h0:0≤v) (h1:v≤255):∀ x ∈ l.set j v,0≤x∧x≤255:=by
 intro x hx
 rcases List.mem_or_eq_of_mem_set hx with h'|rfl
 ·exact h x h'
 ·exact ⟨h0,h1⟩
theorem getD_set_ne {l:List Int} {i j:Nat} {v:Int} (h:i≠j):(l.set i v).getD j 0=l.getD j 0:=by
 simp [List.getD,List.getElem?_set_ne h]
end Go.Proofs.YtkhheooofcpfdaaGreatDoor
namespace Go.Proofs.YtkhheooofcpfdaaGreatDoor
open Go.RowKit
set_option linter.unusedVariables false
structure Ky where
 kind:Int
 src:Int
 frm:Int
 dst:Int
 too:Int
def keyV (p:Ky):Value:=.agg #[.int .i64 p.kind,.int .i64 p.src,.int .i64 p.frm,.int .i64 p.dst,.int .i64 p.too]
def KyAt (w:World) (b:Nat) (p:Ky):Prop:=w.heap[b]? = some (.cells #[.int .i64 p.kind,.int .i64 p.src,.int .i64 p.frm,.int .i64 p.dst,.int .i64 p.too] 37 (0,0))
theorem KyAt.lt {w:World} {b:Nat} {p:Ky} (h:KyAt w b p):b < w.heap.size:=by
 rcases Nat.lt_or_ge b w.heap.size with h1|h1
 ·exact h1
 ·unfold KyAt at h;simp [Array.getElem?_eq_none h1] at h
theorem KyAt.new (w:World) (p:Ky):KyAt (w.alloc (.cells #[.int .i64 p.kind,.int .i64 p.src,.int .i64 p.frm,.int .i64 p.dst,.int .i64 p.too] 37)) w.heap.size p:=heap_alloc_new w _
theorem KyAt.drewN {w:World} {b:Nat} {p:Ky} (h:KyAt w b p) (n:Nat):KyAt (w.drewN n) b p:=h
theorem KyAt.below {w w':World} {b B:Nat} {p:Ky} (h:KyAt w b p) (hB:b < B) (hb:Below B w w'):KyAt w' b p:=by
 unfold KyAt;rw [hb.block b hB];exact h
theorem KyAt.alloc {w:World} {b:Nat} {p:Ky} (h:KyAt w b p) (o:Obj):KyAt (w.alloc o) b p:=h.below h.lt ((Below.refl _ _).alloc (Nat.le_refl _) _)
theorem KyAt.free {w:World} {b:Nat} {p:Ky} (h:KyAt w b p) (j:Nat):w.frozen? ⟨b,j,none⟩=false:=frozen_of_row w b j _ _ h
theorem KyAt.cells {w:World} {b:Nat} {p:Ky} (h:KyAt w b p) :
  w.cell? ⟨b,0,none⟩=some (.int .i64 p.kind)∧w.cell? ⟨b,1,none⟩=some (.int .i64 p.src)∧w.cell? ⟨b,2,none⟩=some (.int .i64 p.frm)∧w.cell? ⟨b,3,none⟩=some (.int .i64 p.dst)∧w.cell? ⟨b,4,none⟩=some (.int .i64 p.too):=by
 refine ⟨?_,?_,?_,?_,?_⟩ <;> (rw [cell_of_row w b _ _ _ _ h];rfl)
end Go.Proofs.YtkhheooofcpfdaaGreatDoor
namespace Go.Proofs.YtkhheooofcpfdaaGreatDoor
set_option linter.unusedVariables false
structure Pk where
 kind:Int
 ttl:Int
 ident:Int
 src:Int
 dst:Int
 pos:Int
 more:Bool
 body:List Int
def upB (n most:Int):Bool:=decide (0≤n∧n≤most)
theorem upB_yes {n m:Int} (h0:0≤n) (h1:n≤m):upB n m=true:=by simp [upB,h0,h1]
theorem of_upB {n m:Int} (h:upB n m=true):0≤n∧n≤m:=by simpa [upB] using h
end Go.Proofs.YtkhheooofcpfdaaGreatDoor
namespace Go.Proofs.YtkhheooofcpfdaaGreatDoor
set_option linter.unusedVariables false
structure Sg where
 frm:Int
 too:Int
 seq:Int
 ack:Int
 win:Int
 flg:Int
 body:List Int
def b1L (n:Int):List Int:=[n % 256]
def b2L (n:Int):List Int:=[n / 256 % 256,n % 256]
def b4L (n:Int):List Int:=[n / 16777216 % 256,n / 65536 % 256,n / 256 % 256,n % 256]
def isK (k:Int):Bool:=decide (1≤k∧k≤3)
def hdN (k:Int):Nat:=if k=1 then 17 else if k=2 then 6 else if k=3 then 8 else 0
def frmB (k n:Int):Bool:=if k=3 then upB n 1 else upB n 65535
def seqM (k:Int):Int:=if k=3 then 65535 else 4294967295
def fitB (k:Int) (s:Sg):Bool:=frmB k s.frm && upB s.too 65535 && upB s.win 65535 && upB s.seq (seqM k) && upB s.ack 4294967295 && upB s.flg 15
def lackB (k:Int) (s:Sg):Bool:=decide ((k=2∧¬ s.seq=0)∨(¬ k=1∧(¬ s.ack=0∨¬ s.win=0∨¬ s.flg=0)))
def sgErr (k:Int) (s:Sg) (src dst:Int):Int :=
 if (isK k && upB src 4294967295 && upB dst 4294967295 && fitB k s)=false then 1 else if lackB k s=true then 3 else if 4000 < s.body.length+hdN k then 4 else 0
def front1 (s:Sg):List Int:=b2L s.frm++b2L s.too++b4L s.seq++b4L s.ack++b1L s.flg++b2L s.win
def front2 (s:Sg):List Int:=b2L s.frm++b2L s.too
def front3 (s:Sg):List Int:=b1L s.frm++b2L s.too++b2L s.seq++b1L 0
def frontL (k:Int) (s:Sg):List Int:=if k=1 then front1 s else if k=2 then front2 s else front3 s
def psL (k:Int) (F B:List Int) (src dst:Int):List Int:=b4L src++b4L dst++b2L k++F++b2L 0++B
def psum (k:Int) (F B:List Int) (src dst:Int):Int:=65535 - tot 0 (psL k F B src dst)
def segL (k:Int) (s:Sg) (src dst:Int):List Int:=frontL k s++b2L (psum k (frontL k s) s.body src dst)++s.body
def g2 (zs:List Int) (o:Nat):Int:=zs.getD o 0 * 256+zs.getD (o+1) 0
def g4 (zs:List Int) (o:Nat):Int:=((zs.getD o 0 * 256+zs.getD (o+1) 0) * 256+zs.getD (o+2) 0) * 256+zs.getD (o+3) 0
def zeroS:Sg:={ frm:=0,too:=0,seq:=0,ack:=0,win:=0,flg:=0,body:=[] }
def zeroY:Ky:={ kind:=0,src:=0,frm:=0,dst:=0,too:=0 }
def turnK (k:Ky):Ky:={ kind:=k.kind,src:=k.dst,frm:=k.too,dst:=k.src,too:=k.frm }
def firstK (k:Ky):Ky:=if k.dst < k.src∨(k.dst=k.src∧k.too < k.frm) then turnK k else k
def nearB (a b most:Int):Bool:=upB most 1073741824 && decide ((a - b+most) % 4294967296≤2 * most)
theorem isK_of {k:Int} (h:isK k=true):k=1∨k=2∨k=3:=by
 have:1≤k∧k≤3:=by simpa [isK] using h
 omega
theorem frontL_length {k:Int} (s:Sg) (h:isK k=true):(frontL k s).length+2=hdN k:=by
 rcases isK_of h with rfl|rfl|rfl <;> rfl
theorem sgErr_ok {k:Int} {s:Sg} {src dst:Int} (h:sgErr k s src dst=0) :
  isK k=true∧upB src 4294967295=true∧upB dst 4294967295=true∧fitB k s=true∧lackB k s=false∧s.body.length+hdN k≤4000:=by
 unfold sgErr at h
 split at h
 ·simp at h
 split at h
 ·simp at h
 split at h
 ·simp at h
 ·rename_i h1 h2 h3
  have e:(isK k && upB src 4294967295 && upB dst 4294967295 && fitB k s)=true:=by
   revert h1
   cases (isK k && upB src 4294967295 && upB dst 4294967295 && fitB k s) <;> simp
  simp only [Bool.and_eq_true] at e
  exact ⟨e.1.1.1,e.1.1.2,e.1.2,e.2,by simpa using h2,by omega⟩
theorem fitB_of {k:Int} {s:Sg} (h:fitB k s=true):frmB k s.frm=true∧(0≤s.too∧s.too≤65535)∧(0≤s.win∧s.win≤65535)∧(0≤s.seq∧s.seq≤seqM k)∧(0≤s.ack∧s.ack≤4294967295)∧(0≤s.flg∧s.flg≤15):=by
 simp only [fitB,Bool.and_eq_true] at h
 obtain ⟨⟨⟨⟨⟨a,b⟩,c⟩,d⟩,e⟩,f⟩:=h
 exact ⟨a,of_upB b,of_upB c,of_upB d,of_upB e,of_upB f⟩
theorem seqM_le (k:Int):seqM k≤4294967295∧(k=3→seqM k≤65535):=by
 unfold seqM;split <;> simp_all
theorem hdN_ge {k:Int} (h:isK k=true):6≤hdN k∧hdN k≤17:=by
 rcases isK_of h with rfl|rfl|rfl <;> decide
theorem psL_length (k:Int) (F B:List Int) (src dst:Int):(psL k F B src dst).length=12+F.length+B.length:=by
 simp only [psL,List.length_append,b4L,b2L,List.length_cons,List.length_nil];omega
end Go.Proofs.YtkhheooofcpfdaaGreatDoor
namespace Go.Proofs.YtkhheooofcpfdaaGreatDoor
set_option linter.unusedVariables false
structure Fl where
 key:Ky
 st:Int
 unt:Int
 stp:Int
 h0:Int
 h1:Int
 w0:Int
 w1:Int
 d0:Bool
 d1:Bool
 num:Int
def zeroF:Fl:={ key:=zeroY,st:=0,unt:=0,stp:=0,h0:=0,h1:=0,w0:=0,w1:=0,d0:=false,d1:=false,num:=0 }
def lifeI (k s:Int):Int :=
 if k=1 then (if s=1 then 30 else if s=2 then 300 else if s=3 then 60 else if s=4 then 10 else 0)
 else if k=2 then (if s=1 then 30 else if s=2 then 60 else 0)
 else if k=3 then (if s=1 then 10 else if s=2 then 20 else 0) else 0
def inR (n lo hi:Int):Bool:=decide (lo≤n∧n≤hi)
def flgB (s:Sg) (f:Int):Bool:=decide (s.flg / f % 2=1)
def bI (b:Bool):Int:=if b=true then 1 else 0
def endI (s:Sg):Int:=(s.seq+(s.body.length:Int)+bI (flgB s 2)+bI (flgB s 1)) % 4294967296
def ahB (a b:Int):Bool:=decide (0 < (a - b) % 4294967296∧(a - b) % 4294967296 < 2147483648)
def hiF (f:Fl) (side:Int):Int:=if side=0 then f.h0 else f.h1
def wnF (f:Fl) (side:Int):Int:=if side=0 then f.w0 else f.w1
def dnF (f:Fl) (side:Int):Bool:=if side=0 then f.d0 else f.d1
def ofB (k:Ky) (s:Sg) (side:Int):Bool :=
 if k.kind=3 then decide (s.frm=side∧s.too=k.frm∧s.too=k.too) else decide (s.frm=k.frm∧s.too=k.too)
def sdE (k:Ky) (s:Sg) (side now:Int):Int :=
 if inR now 0 1000000=false then 1 else if ¬ sgErr k.kind s k.src k.dst=0 then sgErr k.kind s k.src k.dst else if ofB k s side=false then 3 else 0
def begE (k:Ky) (s:Sg) (rule now:Int):Int :=
 if inR rule (-1) 200=false then 1 else if ¬ sdE k s 0 now=0 then sdE k s 0 now else if k.kind=1∧¬ s.flg=2 then 6 else 0
def begG (k:Ky) (s:Sg) (rule now:Int):Fl :=
 { key:=k,st:=1,unt:=now+lifeI k.kind 1,stp:=1,h0:=if k.kind=1 then endI s else 0,h1:=0,w0:=if k.kind=1 then s.win else 0,w1:=0,d0:=false,d1:=false,num:=rule }
def begF (k:Ky) (s:Sg) (rule now:Int):Fl:=if begE k s rule now=0 then begG k s rule now else zeroF
def kyB (k:Ky):Bool:=inR k.kind 1 3 && inR k.src 0 4294967295 && inR k.dst 0 4294967295 && inR k.frm 0 65535 && inR k.too 0 65535
def fiB (f:Fl):Bool :=
 decide (¬ lifeI f.key.kind f.st=0) && (inR f.h0 0 4294967295 && inR f.w0 0 65535) && (inR f.h1 0 4294967295 && inR f.w1 0 65535) && inR f.unt 0 2000000 && inR f.stp 1 1000000 && inR f.num (-1) 200
def bareB (f:Fl):Bool:=decide (f.h0=0∧f.h1=0∧f.w0=0∧f.w1=0∧f.d0=false∧f.d1=false)
def chkE (f:Fl):Int :=
 if (kyB f.key && fiB f)=false then 1 else if ¬ f.key.kind=1∧bareB f=false then 3 else if f.key.kind=3∧¬ f.key.frm=f.key.too then 3 else 0
def rstB (f:Fl) (s:Sg) (side:Int):Bool:=if f.st=1∧side=1 then flgB s 8 && decide (s.ack=f.h0) else decide (s.seq=hiF f side)
def max1 (n:Int):Int:=if n < 1 then 1 else n
def goB (f:Fl) (s:Sg) (side:Int):Bool :=
 !flgB s 2 && nearB s.seq (hiF f side) (max1 (wnF f (1 - side))) && (!flgB s 8 || nearB s.ack (hiF f (1 - side)) (max1 (wnF f side))) && (!dnF f side || !ahB (endI s) (hiF f side))
def stG (d0 d1:Bool) (st:Int):Int:=if (d0 && d1)=true then 4 else if (d0 || d1)=true∧¬ st=4 then 3 else st
def topI (f:Fl) (s:Sg) (side:Int):Int:=if ahB (endI s) (hiF f side)=true then endI s else hiF f side
def goF (f:Fl) (s:Sg) (side:Int):Fl :=
 if side=0 then { f with h0:=topI f s 0,w0:=s.win,d0:=f.d0 || flgB s 1,st:=stG (f.d0 || flgB s 1) f.d1 f.st }
 else { f with h1:=topI f s 1,w1:=s.win,d1:=f.d1 || flgB s 1,st:=stG f.d0 (f.d1 || flgB s 1) f.st }
def strB (f:Fl) (s:Sg) (side:Int):Bool :=
 if flgB s 4=true then rstB f s side else if ¬ f.st=1 then goB f s side else if side=0 then decide (s.flg=2∧endI s=f.h0) else decide (s.flg=10∧s.ack=f.h0)
def strF (f:Fl) (s:Sg) (side:Int):Fl :=
 if flgB s 4=true then { f with st:=4 } else if ¬ f.st=1 then goF f s side else if side=0 then { f with w0:=s.win } else { f with st:=2,h1:=endI s,w1:=s.win }
def sayB (f:Fl) (s:Sg) (side:Int):Bool:=if f.key.kind=1 then strB f s side else true
def sayF (f:Fl) (s:Sg) (side:Int):Fl:=if f.key.kind=1 then strF f s side else if side=1 then { f with st:=2 } else f
def chgF (f:Fl) (now:Int):Fl:={ f with stp:=f.stp+1,unt:=now+lifeI f.key.kind f.st }
def sideK (f:Fl) (side:Int):Ky:=if side=0 then f.key else turnK f.key
def stpE (f:Fl) (s:Sg) (side now:Int):Int :=
 if ¬ (side=0∨side=1) then 1 else if ¬ chkE f=0 then chkE f else if ¬ sdE (sideK f side) s side now=0 then sdE (sideK f side) s side now else
 if f.unt≤now∨f.stp=1000000 then 6 else if sayB f s side=false then 6 else 0
def stpF (f:Fl) (s:Sg) (side now:Int):Fl:=if stpE f s side now=0 then chgF (sayF f s side) now else zeroF
theorem inR_yes {n lo hi:Int} (h0:lo≤n) (h1:n≤hi):inR n lo hi=true:=by simp [inR];omega
theorem of_inR {n lo hi:Int} (h:inR n lo hi=true):lo≤n∧n≤hi:=by simpa [inR] using h
theorem inR_no {n lo hi:Int} (h:¬ (lo≤n∧n≤hi)):inR n lo hi=false:=by simpa [inR] using h
theorem lifeI_range (k s:Int):0≤lifeI k s∧lifeI k s≤300:=by
 unfold lifeI;repeat' split
 all_goals omega
theorem endI_range (s:Sg):0≤endI s∧endI s≤4294967295:=by unfold endI;omega
theorem sdE_ok {k:Ky} {s:Sg} {side now:Int} (h:sdE k s side now=0):(0≤now∧now≤1000000)∧sgErr k.kind s k.src k.dst=0∧ofB k s side=true:=by
 unfold sdE at h
 split at h
 ·simp at h
 split at h
 ·contradiction
 split at h
 ·simp at h
 ·rename_i h1 h2 h3
  exact ⟨of_inR (by simpa using h1),by omega,by simpa using h3⟩
theorem chkE_ok {f:Fl} (h:chkE f=0):kyB f.key=true∧fiB f=true∧(¬ f.key.kind=1→bareB f=true)∧(f.key.kind=3→f.key.frm=f.key.too):=by
 unfold chkE at h
 split at h
 ·simp at h
 split at h
 ·simp at h
 split at h
 ·simp at h
 ·rename_i h1 h2 h3
  have e:(kyB f.key && fiB f)=true:=by revert h1;cases (kyB f.key && fiB f) <;> simp
  rw [Bool.and_eq_true] at e
  refine ⟨e.1,e.2,fun hk=>?_,fun hk=>?_⟩
  ·cases hb:bareB f
   ·exact absurd ⟨hk,hb⟩ h2
   ·rfl
  ·exact Decidable.byContradiction fun hn=>h3 ⟨hk,hn⟩
theorem kyB_of {k:Ky} (h:kyB k=true):(1≤k.kind∧k.kind≤3)∧(0≤k.src∧k.src≤4294967295)∧(0≤k.dst∧k.dst≤4294967295)∧(0≤k.frm∧k.frm≤65535)∧(0≤k.too∧k.too≤65535):=by
 simp only [kyB,Bool.and_eq_true] at h
 obtain ⟨⟨⟨⟨a,b⟩,c⟩,d⟩,e⟩:=h
 exact ⟨of_inR a,of_inR b,of_inR c,of_inR d,of_inR e⟩
theorem fiB_of {f:Fl} (h:fiB f=true):¬ lifeI f.key.kind f.st=0∧((0≤f.h0∧f.h0≤4294967295)∧(0≤f.w0∧f.w0≤65535))∧((0≤f.h1∧f.h1≤4294967295)∧(0≤f.w1∧f.w1≤65535))∧(0≤f.unt∧f.unt≤2000000)∧(1≤f.stp∧f.stp≤1000000)∧(-1≤f.num∧f.num≤200):=by
 simp only [fiB,Bool.and_eq_true,decide_eq_true_eq] at h
 obtain ⟨⟨⟨⟨⟨a,b,c⟩,d,e⟩,g⟩,i⟩,j⟩:=h
 exact ⟨a,⟨of_inR b,of_inR c⟩,⟨of_inR d,of_inR e⟩,of_inR g,of_inR i,of_inR j⟩
end Go.Proofs.YtkhheooofcpfdaaGreatDoor
