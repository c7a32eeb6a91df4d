/- What the reference's Begin returns (package portref2) where a Stream does not begin with Syn; and where a flow begins. -/
import Derived.Test.YtkhheooofcpfdaaGreatDoorRefTr1
import Derived.Test.YtkhheooofcpfdaaGreatDoorMgT
import Derived.Deep.DeepCutAuto
import Derived.Deep.DeepMust
import Derived.Deep.RegionHeld3
import Derived.Test.YtkhheooofcpfdaaGreatDoorMgN
namespace Go.Proofs.YtkhheooofcpfdaaGreatDoor
open Go.RowKit
set_option linter.unusedVariables false
set_option maxRecDepth 100000 in
set_option maxHeartbeats 16000000 in
theorem rbeg_syn (k:Ky) (s:Sg) (a:Option Addr) (l c:Nat) (rule now:Int) (w:World) (hk1:¬ k.kind < 1) (hk3:¬ 3 < k.kind) (hr:inR rule (-1) 200=true) (ht:inR now 0 1000000=true) (hb:Bytes w (.slice a l c) s.body) (hd:sgErr k.kind s k.src k.dst=0) (ho:ofB k s 0=true) (hk:k.kind=1) (hf:¬ s.flg=2) :
  Calls Tryz.prog 26 #[keyV k,segV s (.slice a l c),.int .i64 rule,.int .i64 now] w fun e w'=>e = .returned (.tuple #[flV zeroF,.int .i64 6])∧Below w.heap.size w w':=by
 have h1:=Kb.start w k s (.slice a l c)
 obtain ⟨W1,hW1⟩:∃ W1,((w.alloc (.cells #[.int .i64 k.kind,.int .i64 k.src,.int .i64 k.frm,.int .i64 k.dst,.int .i64 k.too] 37)).alloc (.cells #[.int .i64 s.frm,.int .i64 s.too,.int .i64 s.seq,.int .i64 s.ack,.int .i64 s.win,.int .i64 s.flg,.slice a l c] 41)).alloc (.cells #[.int .i64 0,.int .i64 0,.int .i64 0,.int .i64 0,.int .i64 0,.int .i64 0,.int .i64 0,.int .i64 0,.int .i64 0,.int .i64 0,.int .i64 0,.int .i64 0,.bool false,.bool false,.int .i64 0] 45)=W1:=⟨_,rfl⟩
 rw [hW1] at h1
 have cn:=fun W=>refNumber_any rule W
 have ct:=fun W=>refTime_any now W
 rw [show flV zeroF = .agg #[.int .i64 0,.int .i64 0,.int .i64 0,.int .i64 0,.int .i64 0,.int .i64 0,.int .i64 0,.int .i64 0,.int .i64 0,.int .i64 0,.int .i64 0,.int .i64 0,.bool false,.bool false,.int .i64 0] from rfl]
 have hsa:=fun W=>refSaid_any k s (.slice a l c) 0 W (.inl rfl)
 rw [show (if (0:Int)=0 then k else turnK k)=k from rfl] at hsa
 rw [ho] at hsa
 unfold keyV segV at hsa
 rw [hr] at cn
 rw [ht] at ct
 have HSG:=hidE (fun W (hB:Below w.heap.size w W)=>refSegment_any k.kind s k.src k.dst (.slice a l c) W (hb.below (Nat.le_refl _) hB))
 rw [hd] at HSG
 have e1:(k.kind == 1)=true:=by simpa using hk
 have e2:(s.flg != 2)=true:=by simpa using hf
 clear hr ht hb hd ho hk hf
 unfold keyV segV
 go_enter Tryz.func26,Tryz.ntmps26
 go_upto_region 1 with fail
 try rw [hW1]
 clear hW1
 obtain ⟨k0,k1,k2,k3,k4⟩:=h1.ky.cells
 obtain ⟨s0,s1,s2,s3,s4,s5,s6⟩:=h1.sg.cells
 go_upto_region 5 with (first|(go_at_call 48;go_must (refine (cn _).mono ?_;rintro e w' ⟨rfl,hw'⟩;rw [hw'];clear hw' w'))|(go_at_call 47;go_must (refine (ct _).mono ?_;rintro e w' ⟨rfl,hw'⟩;rw [hw'];clear hw' w')))
 have hsg:=HSG.out W1 h1.bel
 unfold segV at hsg
 go_upto_region 8 with (go_at_call 49;go_must (refine hsg.mono ?_;rintro e W2 ⟨rfl,b2⟩))
 have h2:=h1.step b2
 clear k0 k1 k2 k3 k4 s0 s1 s2 s3 s4 s5 s6
 clear h1 b2 hsg HSG cn ct
 obtain ⟨k0,k1,k2,k3,k4⟩:=h2.ky.cells
 obtain ⟨s0,s1,s2,s3,s4,s5,s6⟩:=h2.sg.cells
 go_upto_region 11 with (go_at_call 50;go_must (refine (hsa _).mono ?_;rintro e W3 ⟨rfl,b3⟩))
 have h3:=h2.step b3
 clear k0 k1 k2 k3 k4 s0 s1 s2 s3 s4 s5 s6
 clear h2 b3 hsa
 obtain ⟨k0,k1,k2,k3,k4⟩:=h3.ky.cells
 obtain ⟨s0,s1,s2,s3,s4,s5,s6⟩:=h3.sg.cells
 go_upto_region 12 with fail
 clear k0 k1 k2 k3 k4 s0 s1 s2 s3 s4 s5 s6
 obtain ⟨y0,y1,y2,y3,y4,y5,y6,y7,y8,y9,y10,y11,y12,y13,y14⟩:=h3.rs.frees
 obtain ⟨d0,d1,d2,d3,d4,d5,d6,d7,d8,d9,d10,d11,d12,d13,d14⟩:=zero_cells h3.rs
 go_wp2_with fail
 obtain ⟨W9,hW9,g9,b9⟩:=h3.wipe
 rw [hW9]
 clear hW9 y0 y1 y2 y3 y4 y5 y6 y7 y8 y9 y10 y11 y12 y13 y14 d0 d1 d2 d3 d4 d5 d6 d7 d8 d9 d10 d11 d12 d13 d14
 obtain ⟨c0,c1,c2,c3,c4,c5,c6,c7,c8,c9,c10,c11,c12,c13,c14⟩:=zero_cells g9
 exact bodyPost_ret (v:=.tuple #[.agg #[.int .i64 0,.int .i64 0,.int .i64 0,.int .i64 0,.int .i64 0,.int .i64 0,.int .i64 0,.int .i64 0,.int .i64 0,.int .i64 0,.int .i64 0,.int .i64 0,.bool false,.bool false,.int .i64 0],.int .i64 6]) (by simp [results,Tryz.results26,go_sem,c0,c1,c2,c3,c4,c5,c6,c7,c8,c9,c10,c11,c12,c13,c14]) rfl ⟨rfl,b9⟩
set_option maxRecDepth 100000 in
set_option maxHeartbeats 16000000 in
theorem rbeg_other (k:Ky) (s:Sg) (a:Option Addr) (l c:Nat) (rule now:Int) (w:World) (hk1:¬ k.kind < 1) (hk3:¬ 3 < k.kind) (hr:inR rule (-1) 200=true) (ht:inR now 0 1000000=true) (hb:Bytes w (.slice a l c) s.body) (hd:sgErr k.kind s k.src k.dst=0) (ho:ofB k s 0=true) (hk:¬ k.kind=1) :
  Calls Tryz.prog 26 #[keyV k,segV s (.slice a l c),.int .i64 rule,.int .i64 now] w fun e w'=>e = .returned (.tuple #[flV (begG k s rule now),.int .i64 0])∧Below w.heap.size w w':=by
 have h1:=Kb.start w k s (.slice a l c)
 obtain ⟨W1,hW1⟩:∃ W1,((w.alloc (.cells #[.int .i64 k.kind,.int .i64 k.src,.int .i64 k.frm,.int .i64 k.dst,.int .i64 k.too] 37)).alloc (.cells #[.int .i64 s.frm,.int .i64 s.too,.int .i64 s.seq,.int .i64 s.ack,.int .i64 s.win,.int .i64 s.flg,.slice a l c] 41)).alloc (.cells #[.int .i64 0,.int .i64 0,.int .i64 0,.int .i64 0,.int .i64 0,.int .i64 0,.int .i64 0,.int .i64 0,.int .i64 0,.int .i64 0,.int .i64 0,.int .i64 0,.bool false,.bool false,.int .i64 0] 45)=W1:=⟨_,rfl⟩
 rw [hW1] at h1
 have cn:=fun W=>refNumber_any rule W
 have ct:=fun W=>refTime_any now W
 have hsa:=fun W=>refSaid_any k s (.slice a l c) 0 W (.inl rfl)
 rw [show (if (0:Int)=0 then k else turnK k)=k from rfl] at hsa
 rw [ho] at hsa
 unfold keyV segV at hsa
 rw [hr] at cn
 rw [ht] at ct
 have HSG:=hidE (fun W (hB:Below w.heap.size w W)=>refSegment_any k.kind s k.src k.dst (.slice a l c) W (hb.below (Nat.le_refl _) hB))
 rw [hd] at HSG
 have hn:=of_inR ht
 obtain ⟨q,hq⟩:∃ q,begG k s rule now=q:=⟨_,rfl⟩
 rw [hq]
 have HQ:=hidE (show q = { key:=k,st:=1,unt:=now+lifeI k.kind 1,stp:=1,h0:=0,h1:=0,w0:=0,w1:=0,d0:=false,d1:=false,num:=rule } by rw [← hq];unfold begG;rw [if_neg hk,if_neg hk])
 obtain ⟨hn0,hn1⟩:=hn
 unfold flV
 have e1:(k.kind == 1)=false:=by simpa using hk
 clear hr ht hb hd ho hk hq
 unfold keyV segV
 go_enter Tryz.func26,Tryz.ntmps26
 go_upto_region 1 with fail
 try rw [hW1]
 clear hW1
 obtain ⟨k0,k1,k2,k3,k4⟩:=h1.ky.cells
 obtain ⟨s0,s1,s2,s3,s4,s5,s6⟩:=h1.sg.cells
 go_upto_region 5 with (first|(go_at_call 48;go_must (refine (cn _).mono ?_;rintro e w' ⟨rfl,hw'⟩;rw [hw'];clear hw' w'))|(go_at_call 47;go_must (refine (ct _).mono ?_;rintro e w' ⟨rfl,hw'⟩;rw [hw'];clear hw' w')))
 have hsg:=HSG.out W1 h1.bel
 unfold segV at hsg
 go_upto_region 8 with (go_at_call 49;go_must (refine hsg.mono ?_;rintro e W2 ⟨rfl,b2⟩))
 have h2:=h1.step b2
 clear k0 k1 k2 k3 k4 s0 s1 s2 s3 s4 s5 s6
 clear h1 b2 hsg HSG cn ct
 obtain ⟨k0,k1,k2,k3,k4⟩:=h2.ky.cells
 obtain ⟨s0,s1,s2,s3,s4,s5,s6⟩:=h2.sg.cells
 go_upto_region 11 with (go_at_call 50;go_must (refine (hsa _).mono ?_;rintro e W3 ⟨rfl,b3⟩))
 have h3:=h2.step b3
 clear k0 k1 k2 k3 k4 s0 s1 s2 s3 s4 s5 s6
 clear h2 b3 hsa
 obtain ⟨k0,k1,k2,k3,k4⟩:=h3.ky.cells
 obtain ⟨s0,s1,s2,s3,s4,s5,s6⟩:=h3.sg.cells
 have lr:=lifeI_range k.kind 1
 have hlf:=fun W=>refLife_any k.kind 1 W
 generalize lifeI k.kind 1=lf at lr hlf HQ
 obtain ⟨hl0,hl1⟩:=lr
 obtain ⟨g,HG⟩:∃ g:Fl,Hid (g = { key:=k,st:=1,unt:=now+lf,stp:=1,h0:=0,h1:=0,w0:=0,w1:=0,d0:=false,d1:=false,num:=rule }):=⟨_,rfl⟩
 go_upto_region 13 with fail
 clear k0 k1 k2 k3 k4 s0 s1 s2 s3 s4 s5 s6
 go_cut [14] (fun p wr=>∃ G,p = .pointer (some ⟨G,0,none⟩)∧w.heap.size+2 < G∧Hid (Kb w k s (.slice a l c) wr∧FlAt wr G g))
 case first =>
  have hwr:IntKind.i64.wrap (now+lf)=now+lf:=by rw [IntKind.wrap_i64];omega
  have HK:=hidE (show Kb w k s (.slice a l c) (W3.alloc (.cells #[.int .i64 k.kind,.int .i64 k.src,.int .i64 k.frm,.int .i64 k.dst,.int .i64 k.too,.int .i64 1,.int .i64 (now+lf),.int .i64 1,.int .i64 0,.int .i64 0,.int .i64 0,.int .i64 0,.bool false,.bool false,.int .i64 rule] 45)).drew∧FlAt (W3.alloc (.cells #[.int .i64 k.kind,.int .i64 k.src,.int .i64 k.frm,.int .i64 k.dst,.int .i64 k.too,.int .i64 1,.int .i64 (now+lf),.int .i64 1,.int .i64 0,.int .i64 0,.int .i64 0,.int .i64 0,.bool false,.bool false,.int .i64 rule] 45)).drew W3.heap.size g from ⟨(h3.step ((Below.refl _ _).alloc (Nat.le_refl _) _)).drew,by rw [HG.out];exact (FlAt.new W3 { key:=k,st:=1,unt:=now+lf,stp:=1,h0:=0,h1:=0,w0:=0,w1:=0,d0:=false,d1:=false,num:=rule }).drew⟩)
  have hS:W3.cell? ⟨w.heap.size,0,none⟩=some (.int .i64 k.kind)∧W3.cell? ⟨w.heap.size,1,none⟩=some (.int .i64 k.src)∧W3.cell? ⟨w.heap.size,2,none⟩=some (.int .i64 k.frm)∧W3.cell? ⟨w.heap.size,3,none⟩=some (.int .i64 k.dst)∧W3.cell? ⟨w.heap.size,4,none⟩=some (.int .i64 k.too):=h3.ky.cells
  have hlt3:=h3.rs.lt
  have n3:W3.heap.size≠w.heap.size:=by omega
  have n3':¬ w.heap.size=W3.heap.size:=by omega
  go_region_held3 (fun W=>W.cell? ⟨w.heap.size,0,none⟩=some (.int .i64 k.kind)∧W.cell? ⟨w.heap.size,1,none⟩=some (.int .i64 k.src)∧W.cell? ⟨w.heap.size,2,none⟩=some (.int .i64 k.frm)∧W.cell? ⟨w.heap.size,3,none⟩=some (.int .i64 k.dst)∧W.cell? ⟨w.heap.size,4,none⟩=some (.int .i64 k.too)) (with_reducible first|assumption|go_keep) (first|(go_at_call 51;refine (hlf _).mono ?_;rintro e w' ⟨rfl,rfl⟩))
  all_goals (go_wp2_with fail;go_meet;case rel=>exact ⟨_,rfl,(by omega),HK⟩)
 case rest =>
 obtain ⟨G,rfl,hG,HF⟩:=hcut
 have h4:=HF.out.1
 have p4:=HF.out.2
 obtain ⟨W4,hW4⟩:∃ X9,wc=X9:=⟨_,rfl⟩
 rw [hW4] at h4 p4 ⊢
 clear hW4 HF h3 hlf
 have hqg:g=q:=by rw [HQ.out,HG.out]
 rw [hqg] at p4
 clear HQ HG hqg
 obtain ⟨k0,k1,k2,k3,k4⟩:=h4.ky.cells
 go_upto_region 17 with fail
 clear k0 k1 k2 k3 k4 e1
 obtain ⟨c0,c1,c2,c3,c4,c5,c6,c7,c8,c9,c10,c11,c12,c13,c14⟩:=p4.cells
 obtain ⟨y0,y1,y2,y3,y4,y5,y6,y7,y8,y9,y10,y11,y12,y13,y14⟩:=h4.rs.frees
 obtain ⟨d0,d1,d2,d3,d4,d5,d6,d7,d8,d9,d10,d11,d12,d13,d14⟩:=h4.rs.cells
 go_wp2_with fail
 obtain ⟨W9,hW9,g9,b9⟩:=h4.fin (q:=q)
 rw [hW9]
 clear hW9 c0 c1 c2 c3 c4 c5 c6 c7 c8 c9 c10 c11 c12 c13 c14 y0 y1 y2 y3 y4 y5 y6 y7 y8 y9 y10 y11 y12 y13 y14 d0 d1 d2 d3 d4 d5 d6 d7 d8 d9 d10 d11 d12 d13 d14
 obtain ⟨c0,c1,c2,c3,c4,c5,c6,c7,c8,c9,c10,c11,c12,c13,c14⟩:=g9.cells
 exact bodyPost_ret (v:=.tuple #[.agg #[.int .i64 q.key.kind,.int .i64 q.key.src,.int .i64 q.key.frm,.int .i64 q.key.dst,.int .i64 q.key.too,.int .i64 q.st,.int .i64 q.unt,.int .i64 q.stp,.int .i64 q.h0,.int .i64 q.h1,.int .i64 q.w0,.int .i64 q.w1,.bool q.d0,.bool q.d1,.int .i64 q.num],.int .i64 0]) (by simp [results,Tryz.results26,go_sem,c0,c1,c2,c3,c4,c5,c6,c7,c8,c9,c10,c11,c12,c13,c14]) rfl ⟨rfl,b9⟩
end Go.Proofs.YtkhheooofcpfdaaGreatDoor
namespace Go.Proofs.YtkhheooofcpfdaaGreatDoor
open Go.RowKit
set_option linter.unusedVariables false
set_option maxRecDepth 100000 in
set_option maxHeartbeats 16000000 in
theorem rbeg_stream (k:Ky) (s:Sg) (a:Option Addr) (l c:Nat) (rule now:Int) (w:World) (hk1:¬ k.kind < 1) (hk3:¬ 3 < k.kind) (hr:inR rule (-1) 200=true) (ht:inR now 0 1000000=true) (hb:Bytes w (.slice a l c) s.body) (hd:sgErr k.kind s k.src k.dst=0) (ho:ofB k s 0=true) (hk:k.kind=1) (hf:s.flg=2) :
  Calls Tryz.prog 26 #[keyV k,segV s (.slice a l c),.int .i64 rule,.int .i64 now] w fun e w'=>e = .returned (.tuple #[flV (begG k s rule now),.int .i64 0])∧Below w.heap.size w w':=by
 have h1:=Kb.start w k s (.slice a l c)
 obtain ⟨W1,hW1⟩:∃ W1,((w.alloc (.cells #[.int .i64 k.kind,.int .i64 k.src,.int .i64 k.frm,.int .i64 k.dst,.int .i64 k.too] 37)).alloc (.cells #[.int .i64 s.frm,.int .i64 s.too,.int .i64 s.seq,.int .i64 s.ack,.int .i64 s.win,.int .i64 s.flg,.slice a l c] 41)).alloc (.cells #[.int .i64 0,.int .i64 0,.int .i64 0,.int .i64 0,.int .i64 0,.int .i64 0,.int .i64 0,.int .i64 0,.int .i64 0,.int .i64 0,.int .i64 0,.int .i64 0,.bool false,.bool false,.int .i64 0] 45)=W1:=⟨_,rfl⟩
 rw [hW1] at h1
 have cn:=fun W=>refNumber_any rule W
 have ct:=fun W=>refTime_any now W
 obtain ⟨f1,f2,f3,f4,f5,f6⟩:=fitB_of (sgErr_ok hd).2.2.2.1
 have hl:s.body.length=l:=by obtain ⟨a',c',h⟩:=len_body hb;cases h;rfl
 have hl4:l≤4000:=by have:=(sgErr_ok hd).2.2.2.2.2;omega
 have hen:=fun W=>refEnd_any s a l c W f6.1 f6.2 f4.1 (Int.le_trans f4.2 (seqM_le _).1) hl hl4
 have hsa:=fun W=>refSaid_any k s (.slice a l c) 0 W (.inl rfl)
 rw [show (if (0:Int)=0 then k else turnK k)=k from rfl] at hsa
 rw [ho] at hsa
 unfold keyV segV at hsa
 rw [hr] at cn
 rw [ht] at ct
 have HSG:=hidE (fun W (hB:Below w.heap.size w W)=>refSegment_any k.kind s k.src k.dst (.slice a l c) W (hb.below (Nat.le_refl _) hB))
 rw [hd] at HSG
 have hn:=of_inR ht
 obtain ⟨q,hq⟩:∃ q,begG k s rule now=q:=⟨_,rfl⟩
 rw [hq]
 have HQ:=hidE (show q = { key:=k,st:=1,unt:=now+lifeI k.kind 1,stp:=1,h0:=endI s,h1:=0,w0:=s.win,w1:=0,d0:=false,d1:=false,num:=rule } by rw [← hq];unfold begG;rw [if_pos hk,if_pos hk])
 generalize endI s=en at hen HQ
 obtain ⟨hn0,hn1⟩:=hn
 unfold flV
 unfold segV at hen
 have e1:(k.kind == 1)=true:=by simpa using hk
 have e2:(s.flg != 2)=false:=by simp [hf]
 clear hr ht hb hd ho hk hq hf f1 f2 f3 f4 f5 f6 hl hl4
 unfold keyV segV
 go_enter Tryz.func26,Tryz.ntmps26
 go_upto_region 1 with fail
 try rw [hW1]
 clear hW1
 obtain ⟨k0,k1,k2,k3,k4⟩:=h1.ky.cells
 obtain ⟨s0,s1,s2,s3,s4,s5,s6⟩:=h1.sg.cells
 go_upto_region 5 with (first|(go_at_call 48;go_must (refine (cn _).mono ?_;rintro e w' ⟨rfl,hw'⟩;rw [hw'];clear hw' w'))|(go_at_call 47;go_must (refine (ct _).mono ?_;rintro e w' ⟨rfl,hw'⟩;rw [hw'];clear hw' w')))
 have hsg:=HSG.out W1 h1.bel
 unfold segV at hsg
 go_upto_region 8 with (go_at_call 49;go_must (refine hsg.mono ?_;rintro e W2 ⟨rfl,b2⟩))
 have h2:=h1.step b2
 clear k0 k1 k2 k3 k4 s0 s1 s2 s3 s4 s5 s6
 clear h1 b2 hsg HSG cn ct
 obtain ⟨k0,k1,k2,k3,k4⟩:=h2.ky.cells
 obtain ⟨s0,s1,s2,s3,s4,s5,s6⟩:=h2.sg.cells
 go_upto_region 11 with (go_at_call 50;go_must (refine (hsa _).mono ?_;rintro e W3 ⟨rfl,b3⟩))
 have h3:=h2.step b3
 clear k0 k1 k2 k3 k4 s0 s1 s2 s3 s4 s5 s6
 clear h2 b3 hsa
 obtain ⟨k0,k1,k2,k3,k4⟩:=h3.ky.cells
 obtain ⟨s0,s1,s2,s3,s4,s5,s6⟩:=h3.sg.cells
 have lr:=lifeI_range k.kind 1
 have hlf:=fun W=>refLife_any k.kind 1 W
 generalize lifeI k.kind 1=lf at lr hlf HQ
 obtain ⟨hl0,hl1⟩:=lr
 obtain ⟨g,HG⟩:∃ g:Fl,Hid (g = { key:=k,st:=1,unt:=now+lf,stp:=1,h0:=0,h1:=0,w0:=0,w1:=0,d0:=false,d1:=false,num:=rule }):=⟨_,rfl⟩
 go_upto_region 13 with fail
 clear k0 k1 k2 k3 k4 s0 s1 s2 s3 s4 s5 s6
 go_cut [14] (fun p wr=>∃ G,p = .pointer (some ⟨G,0,none⟩)∧w.heap.size+2 < G∧Hid (Kb w k s (.slice a l c) wr∧FlAt wr G g))
 case first =>
  have hwr:IntKind.i64.wrap (now+lf)=now+lf:=by rw [IntKind.wrap_i64];omega
  have HK:=hidE (show Kb w k s (.slice a l c) (W3.alloc (.cells #[.int .i64 k.kind,.int .i64 k.src,.int .i64 k.frm,.int .i64 k.dst,.int .i64 k.too,.int .i64 1,.int .i64 (now+lf),.int .i64 1,.int .i64 0,.int .i64 0,.int .i64 0,.int .i64 0,.bool false,.bool false,.int .i64 rule] 45)).drew∧FlAt (W3.alloc (.cells #[.int .i64 k.kind,.int .i64 k.src,.int .i64 k.frm,.int .i64 k.dst,.int .i64 k.too,.int .i64 1,.int .i64 (now+lf),.int .i64 1,.int .i64 0,.int .i64 0,.int .i64 0,.int .i64 0,.bool false,.bool false,.int .i64 rule] 45)).drew W3.heap.size g from ⟨(h3.step ((Below.refl _ _).alloc (Nat.le_refl _) _)).drew,by rw [HG.out];exact (FlAt.new W3 { key:=k,st:=1,unt:=now+lf,stp:=1,h0:=0,h1:=0,w0:=0,w1:=0,d0:=false,d1:=false,num:=rule }).drew⟩)
  have hS:W3.cell? ⟨w.heap.size,0,none⟩=some (.int .i64 k.kind)∧W3.cell? ⟨w.heap.size,1,none⟩=some (.int .i64 k.src)∧W3.cell? ⟨w.heap.size,2,none⟩=some (.int .i64 k.frm)∧W3.cell? ⟨w.heap.size,3,none⟩=some (.int .i64 k.dst)∧W3.cell? ⟨w.heap.size,4,none⟩=some (.int .i64 k.too):=h3.ky.cells
  have hlt3:=h3.rs.lt
  have n3:W3.heap.size≠w.heap.size:=by omega
  have n3':¬ w.heap.size=W3.heap.size:=by omega
  go_region_held3 (fun W=>W.cell? ⟨w.heap.size,0,none⟩=some (.int .i64 k.kind)∧W.cell? ⟨w.heap.size,1,none⟩=some (.int .i64 k.src)∧W.cell? ⟨w.heap.size,2,none⟩=some (.int .i64 k.frm)∧W.cell? ⟨w.heap.size,3,none⟩=some (.int .i64 k.dst)∧W.cell? ⟨w.heap.size,4,none⟩=some (.int .i64 k.too)) (with_reducible first|assumption|go_keep) (first|(go_at_call 51;refine (hlf _).mono ?_;rintro e w' ⟨rfl,rfl⟩))
  all_goals (go_wp2_with fail;go_meet;case rel=>exact ⟨_,rfl,(by omega),HK⟩)
 case rest =>
 obtain ⟨G,rfl,hG,HF⟩:=hcut
 have h4:=HF.out.1
 have p4:=HF.out.2
 obtain ⟨W4,hW4⟩:∃ X9,wc=X9:=⟨_,rfl⟩
 rw [hW4] at h4 p4 ⊢
 clear hW4 HF h3 hlf
 obtain ⟨k0,k1,k2,k3,k4⟩:=h4.ky.cells
 obtain ⟨s0,s1,s2,s3,s4,s5,s6⟩:=h4.sg.cells
 go_upto_region 15 with fail
 have y8:=p4.free 8
 have z8:=p4.cells.2.2.2.2.2.2.2.2.1
 go_upto_region 16 with (go_at_call 52;go_must (refine (hen _).mono ?_;rintro e W5 ⟨rfl,b5⟩;have h5:=h4.step b5;have p5:=p4.below p4.lt b5;have y8:=p5.free 8;have z8:=p5.cells.2.2.2.2.2.2.2.2.1))
 obtain ⟨W6,hW6,p6,o6⟩:=p5.store_h0 en
 rw [hW6]
 have h6:=h5.only hG o6
 clear hW6 y8 z8 h4 h5 p4 p5 b5 o6 hen
 clear k0 k1 k2 k3 k4 s0 s1 s2 s3 s4 s5 s6
 obtain ⟨k0,k1,k2,k3,k4⟩:=h6.ky.cells
 obtain ⟨s0,s1,s2,s3,s4,s5,s6⟩:=h6.sg.cells
 have y10:=p6.free 10
 have z10:=p6.cells.2.2.2.2.2.2.2.2.2.2.1
 go_upto_region 17 with fail
 obtain ⟨W7,hW7,p7,o7⟩:=p6.store_w0 s.win
 rw [hW7]
 have h7:=h6.only hG o7
 have hqg:q = { { g with h0:=en } with w0:=s.win }:=by rw [HQ.out,HG.out]
 rw [← hqg] at p7
 clear hW7 y10 z10 h6 p6 o7 hqg HQ HG e1 e2
 clear k0 k1 k2 k3 k4 s0 s1 s2 s3 s4 s5 s6
 obtain ⟨c0,c1,c2,c3,c4,c5,c6,c7,c8,c9,c10,c11,c12,c13,c14⟩:=p7.cells
 obtain ⟨y0,y1,y2,y3,y4,y5,y6,y7,y8,y9,y10,y11,y12,y13,y14⟩:=h7.rs.frees
 obtain ⟨d0,d1,d2,d3,d4,d5,d6,d7,d8,d9,d10,d11,d12,d13,d14⟩:=h7.rs.cells
 go_wp2_with fail
 obtain ⟨W9,hW9,g9,b9⟩:=h7.fin (q:=q)
 rw [hW9]
 clear hW9 c0 c1 c2 c3 c4 c5 c6 c7 c8 c9 c10 c11 c12 c13 c14 y0 y1 y2 y3 y4 y5 y6 y7 y8 y9 y10 y11 y12 y13 y14 d0 d1 d2 d3 d4 d5 d6 d7 d8 d9 d10 d11 d12 d13 d14
 obtain ⟨c0,c1,c2,c3,c4,c5,c6,c7,c8,c9,c10,c11,c12,c13,c14⟩:=g9.cells
 exact bodyPost_ret (v:=.tuple #[.agg #[.int .i64 q.key.kind,.int .i64 q.key.src,.int .i64 q.key.frm,.int .i64 q.key.dst,.int .i64 q.key.too,.int .i64 q.st,.int .i64 q.unt,.int .i64 q.stp,.int .i64 q.h0,.int .i64 q.h1,.int .i64 q.w0,.int .i64 q.w1,.bool q.d0,.bool q.d1,.int .i64 q.num],.int .i64 0]) (by simp [results,Tryz.results26,go_sem,c0,c1,c2,c3,c4,c5,c6,c7,c8,c9,c10,c11,c12,c13,c14]) rfl ⟨rfl,b9⟩
theorem refBegin_any (k:Ky) (s:Sg) (bv:Value) (rule now:Int) (w:World) (hb:Bytes w bv s.body) :
  Calls Tryz.prog 26 #[keyV k,segV s bv,.int .i64 rule,.int .i64 now] w fun e w'=>e = .returned (.tuple #[flV (begF k s rule now),.int .i64 (begE k s rule now)])∧Below w.heap.size w w':=by
 obtain ⟨a,c,rfl⟩:=len_body hb
 have zf:∀ {z:Int},begE k s rule now=z→¬ z=0→begF k s rule now=zeroF:=fun h h0=>by unfold begF;rw [if_neg (by rw [h];exact h0)]
 by_cases h1:1≤k.kind∧k.kind≤3∧inR rule (-1) 200=true∧inR now 0 1000000=true
 case neg =>
  have e:begE k s rule now=1:=by
   unfold begE
   cases hr:inR rule (-1) 200
   ·rw [if_pos rfl]
   ·rw [if_neg (by decide)]
    have hs:sdE k s 0 now=1:=by
     unfold sdE
     cases ht:inR now 0 1000000
     ·rw [if_pos rfl]
     ·rw [if_neg (by decide)]
      have hk:sgErr k.kind s k.src k.dst=1:=by
       unfold sgErr
       rw [if_pos]
       have:isK k.kind=false:=by unfold isK;exact decide_eq_false fun h=>h1 ⟨h.1,h.2,hr,ht⟩
       rw [this];rfl
      rw [if_pos (by rw [hk];decide),hk]
    rw [if_pos (by rw [hs];decide),hs]
  rw [zf e (by decide),e]
  exact rbeg_1 k s a _ c rule now w h1
 obtain ⟨k1,k3,hr,ht⟩:=h1
 have k1':¬ k.kind < 1:=by omega
 have k3':¬ 3 < k.kind:=by omega
 have hr':¬ inR rule (-1) 200=false:=by rw [hr];decide
 have ht':¬ inR now 0 1000000=false:=by rw [ht];decide
 have said:∀ z,sdE k s 0 now=z→¬ z=0→begE k s rule now=z:=fun z h h0=>by unfold begE;rw [if_neg hr',if_pos (by rw [h];exact h0),h]
 by_cases hd:sgErr k.kind s k.src k.dst=0
 case neg =>
  have e:=said _ (by unfold sdE;rw [if_neg ht',if_pos hd]) hd
  rw [zf e hd,e]
  exact rbeg_seg k s a _ c rule now w k1' k3' hr ht hb _ rfl hd
 have hd':¬ ¬ sgErr k.kind s k.src k.dst=0:=fun h=>h hd
 cases ho:ofB k s 0
 ·have e:=said 3 (by unfold sdE;rw [if_neg ht',if_neg hd',if_pos ho]) (by decide)
  rw [zf e (by decide),e]
  exact rbeg_port k s a _ c rule now w k1' k3' hr ht hb hd ho
 have hsd:¬ ¬ sdE k s 0 now=0:=fun h=>h (by unfold sdE;rw [if_neg ht',if_neg hd',if_neg (by rw [ho];decide)])
 by_cases hk:k.kind=1
 ·by_cases hf:s.flg=2
  ·have e:begE k s rule now=0:=by unfold begE;rw [if_neg hr',if_neg hsd,if_neg (fun h=>h.2 hf)]
   rw [show begF k s rule now=begG k s rule now by unfold begF;rw [if_pos e],e]
   exact rbeg_stream k s a _ c rule now w k1' k3' hr ht hb hd ho hk hf
  ·have e:begE k s rule now=6:=by unfold begE;rw [if_neg hr',if_neg hsd,if_pos ⟨hk,hf⟩]
   rw [zf e (by decide),e]
   exact rbeg_syn k s a _ c rule now w k1' k3' hr ht hb hd ho hk hf
 ·have e:begE k s rule now=0:=by unfold begE;rw [if_neg hr',if_neg hsd,if_neg (fun h=>hk h.1)]
  rw [show begF k s rule now=begG k s rule now by unfold begF;rw [if_pos e],e]
  exact rbeg_other k s a _ c rule now w k1' k3' hr ht hb hd ho hk
end Go.Proofs.YtkhheooofcpfdaaGreatDoor
